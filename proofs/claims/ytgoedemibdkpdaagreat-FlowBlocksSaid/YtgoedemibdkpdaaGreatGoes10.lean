/- Whether the next one may follow, the document's own too, and where an instruction goes (the document's own); lists of numbers that are written over. Contracts; no condition but what each names. -/
import Derived.Test.YtgoedemibdkpdaaGreatS09
import Derived.Test.YtgoedemibdkpdaaGreatS03
import Derived.Test.YtgoedemibdkpdaaGreatS14
namespace Go.Proofs.YtgoedemibdkpdaaGreat
open Go.RowKit Go.Shelf
set_option linter.unusedVariables false
set_option linter.unusedSimpArgs false

/-- May the next one be executed after it? -/
def fallsV (op : Int) : Bool := if op = 25 then false else if op = 29 then false else if op = 32 then false else opB op
theorem falls_any (op a b c n : Int) (X : Value) (w : World) : Calls Tryz.prog 33 #[.agg (insCells op a b c n X)] w (Makes w (.bool (fallsV op))) := by
  have HB := Lib.hid ((Below.refl w.heap.size w).alloc (Nat.le_refl _) (.cells (insCells op a b c n X) 37))

  by_cases h25 : op = 25
  · subst h25
    rw [show fallsV 25 = false from rfl]
    go_enter Tryz.func33, Tryz.ntmps33
    go_wp2
    go_ret
    exact ⟨rfl, HB.out⟩
  by_cases h29 : op = 29
  · subst h29
    rw [show fallsV 29 = false from rfl]
    go_enter Tryz.func33, Tryz.ntmps33
    go_wp2
    go_ret
    exact ⟨rfl, HB.out⟩
  by_cases h32 : op = 32
  · subst h32
    rw [show fallsV 32 = false from rfl]
    go_enter Tryz.func33, Tryz.ntmps33
    go_wp2
    go_ret
    exact ⟨rfl, HB.out⟩
  have hf : fallsV op = opB op := by unfold fallsV; rw [if_neg h25, if_neg h29, if_neg h32]
  have HE := Lib.hid (fun w => exists_any op w)
  have HF := Lib.hid hf
  have e1 : (op == 25) = false := by simpa using h25
  have e2 : (op == 29) = false := by simpa using h29
  have e3 : (op == 32) = false := by simpa using h32
  clear hf h25 h29 h32
  go_enter Tryz.func33, Tryz.ntmps33
  go_wp2_with (go_at_call 47; (with_reducible refine (HE.out _).mono ?_); rintro e w1 ⟨rfl, rfl⟩)
  go_ret
  rw [HF.out]
  exact ⟨rfl, HB.out⟩
def FullI (w : World) (g cap : Nat) : Prop := ∃ cur, w.heap[g]? = some (.cells cur 3 (0, 0)) ∧ cur.size = cap ∧ ∀ v ∈ cur.toList, IsNum .i64 v
theorem FullI.cell {w : World} {g cap k : Nat} (h : FullI w g cap) (hk : k < cap) : ∃ y, w.cell? ⟨g, k, none⟩ = some (.int .i64 y) ∧ w.frozen? ⟨g, k, none⟩ = false := by
  obtain ⟨cur, h1, h2, h3⟩ := h
  have hx : cur[k]? = some cur[k] := Array.getElem?_eq_getElem (by omega)
  obtain ⟨y, hy⟩ := h3 cur[k] (by simp)
  refine ⟨y, ?_, frozen_of_row w g k _ _ h1⟩
  rw [cell_of_row w g k _ _ _ h1, hx, hy]
theorem FullI.set {w : World} {g cap : Nat} (h : FullI w g cap) (k : Nat) {u : Value} (hu : IsNum .i64 u) : FullI (w.setCell ⟨g, k, none⟩ u) g cap := by
  obtain ⟨cur, h1, h2, h3⟩ := h
  refine ⟨_, heap_setCell_same w g k _ _ u h1, by simpa using h2, ?_⟩
  intro x hx
  rw [Array.toList_setIfInBounds] at hx
  rcases List.mem_or_eq_of_mem_set hx with h | h
  · exact h3 x h
  · subst h; exact hu
set_option maxHeartbeats 1000000 in
theorem overInts_any (v : Value) (n base : Nat) (xs : List Value) (w : World) (h : Owns w base 3 1 (IsNum .i64) v n xs) :
    Calls Tryz.prog 10 #[v] w fun e w' => e = .returned (.tuple #[]) ∧ Below base w w' := by
  rcases h.1.2 with ⟨rfl, _⟩ | ⟨g, cap, cur, rfl, h1, h2, h3, h4, h5, _⟩
  · clear h
    go_enter Tryz.func10, Tryz.ntmps10
    go_wp2
    go_loopw [3] (fun i wr => i = .int .i64 0 ∧ wr = w) (fun _ _ => 0)
    case atStart => exact ⟨rfl, rfl⟩
    case round =>
      obtain ⟨rfl, rfl⟩ := hrel
      go_wp2
      go_end0
      exact ⟨rfl, Below.refl _ _⟩
  · have hF : FullI w g cap := ⟨cur, h2, by simpa using h5, h.2 g cur _ _ (by simp [Value.ownBlock]) h2⟩
    have HF := Lib.hid hF
    unfold maxLen at h4
    clear h h2 h5 hF
    go_enter Tryz.func10, Tryz.ntmps10
    go_wp2
    go_loopw [3] (fun i wr => ∃ k : Nat, k ≤ cap ∧ i = .int .i64 k ∧ FullI wr g cap ∧ Below base w wr) (fun i _ => cap - (intOf i).toNat)
    case atStart => exact ⟨0, by omega, rfl, HF.out, Below.refl _ _⟩
    case round =>
      obtain ⟨k, hk, rfl, hf, hb⟩ := hrel
      have HF2 := Lib.hid hf
      have HB := Lib.hid hb
      clear hf hb
      by_cases hlt : k < cap
      · obtain ⟨y, hcell, hfro⟩ := HF2.out.cell hlt
        go_wp2
        go_roundw
        case rel => exact ⟨k + 1, by omega, by go_num, HF2.out.set k ⟨_, rfl⟩, HB.out.setCell h1 _⟩
        case measure => simp [intOf]; omega
      · go_wp2
        go_end0
        exact ⟨rfl, HB.out⟩
end Go.Proofs.YtgoedemibdkpdaaGreat
