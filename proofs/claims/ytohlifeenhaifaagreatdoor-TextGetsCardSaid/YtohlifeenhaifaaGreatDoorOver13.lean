/- OverBytes writes the slice's own block, and no other. Contract; no condition but what each names. -/
import Derived.Test.YtohlifeenhaifaaGreatDoorS11
import Derived.LoopTactic
namespace Go.Proofs.YtohlifeenhaifaaGreatDoor
open Go.RowKit Go.Shelf
set_option linter.unusedVariables false
set_option linter.unusedSimpArgs false
/-- A block whose first cells are bytes. -/
def FullN (w : World) (g cap : Nat) : Prop := ∃ cur : Array Value, w.heap[g]? = some (.cells cur 5 (0, 0)) ∧ ∀ k, k < cap → ∃ y : Int, 0 ≤ y ∧ y < 256 ∧ cur[k]? = some (.int .u8 y)
theorem FullN.cell {w : World} {g cap : Nat} (h : FullN w g cap) {k : Nat} (hk : k < cap) : ∃ y : Int, 0 ≤ y ∧ y < 256 ∧ w.cell? ⟨g, k, none⟩ = some (.int .u8 y) ∧ w.frozen? ⟨g, k, none⟩ = false := by
  obtain ⟨cur, h1, h3⟩ := h
  obtain ⟨y, y1, y2, hy⟩ := h3 k hk
  refine ⟨y, y1, y2, ?_, frozen_of_row w g k cur _ h1⟩
  rw [cell_of_row w g k cur _ _ h1, hy]
theorem FullN.set {w : World} {g cap : Nat} (h : FullN w g cap) (k : Nat) {z : Int} (h0 : 0 ≤ z) (h1 : z < 256) : FullN (w.setCell ⟨g, k, none⟩ (.int .u8 z)) g cap := by
  obtain ⟨cur, h2, h3⟩ := h
  refine ⟨cur.setIfInBounds k (.int .u8 z), heap_setCell_same w g k cur _ _ h2, fun j hj => ?_⟩
  obtain ⟨y, y1, y2, hy⟩ := h3 j hj
  by_cases e : k = j
  · subst e
    refine ⟨z, h0, h1, ?_⟩
    have hs : k < cur.size := (Array.getElem?_eq_some_iff.1 hy).1
    rw [Array.getElem?_setIfInBounds]
    simp [hs]
  · refine ⟨y, y1, y2, ?_⟩
    rw [Array.getElem?_setIfInBounds, if_neg e]
    exact hy
set_option maxHeartbeats 1000000 in
theorem over_row (g len cap : Nat) (w : World) (h : FullN w g cap) (hc : cap ≤ 9223372036854775807) :
    Calls Tryz.prog 22 #[.slice (some ⟨g, 0, none⟩) len cap] w fun e w' => e = .returned (.tuple #[]) ∧ But (OneBlock g) w w' := by
  have HF := Lib.hid h
  clear h
  go_enter Tryz.func22, Tryz.ntmps22
  go_wp2
  go_loopw [3] (fun i wr => ∃ k : Nat, k ≤ cap ∧ i = .int .i64 k ∧ FullN wr g cap ∧ But (OneBlock g) w wr) (fun i _ => cap - (intOf i).toNat)
  case atStart => exact ⟨0, by omega, rfl, HF.out, But.refl _ _⟩
  case round =>
    obtain ⟨k, hk, rfl, hf, hb⟩ := hrel
    have HF2 := Lib.hid hf
    have HB := Lib.hid hb
    clear hf hb
    by_cases hlt : k < cap
    · obtain ⟨y, y1, y2, hcell, hfro⟩ := HF2.out.cell hlt
      go_wp2
      go_roundw
      case rel => exact ⟨k + 1, by omega, by go_num, HF2.out.set k (by omega) (by omega), HB.out.setCell (p := ⟨g, k, none⟩) (.inl rfl) _⟩
      case measure => simp [intOf]; omega
    · go_wp2
      go_end0
      exact ⟨rfl, HB.out⟩
theorem over_own (v : Value) (n base : Nat) (xs : List Value) (w : World) (h : Owns w base 5 1 IsU8 v n xs) :
    Calls Tryz.prog 22 #[v] w fun e w' => e = .returned (.tuple #[]) ∧ But (fun k => v.ownBlock = some k) w w' := by
  rcases h.1.2 with ⟨rfl, _⟩ | ⟨g, cap, cur, rfl, h1, h2, h3, h4, h5, _⟩
  · clear h
    go_enter Tryz.func22, Tryz.ntmps22
    go_wp2
    go_loopw [3] (fun i wr => i = .int .i64 0 ∧ wr = w) (fun _ _ => 0)
    case atStart => exact ⟨rfl, rfl⟩
    case round =>
      obtain ⟨rfl, rfl⟩ := hrel
      go_wp2
      go_end0
      exact ⟨rfl, But.refl _ _⟩
  · have hu := h.2 g cur _ _ (by simp [Value.ownBlock]) h2
    refine (over_row g n cap w ⟨cur, h2, fun k hk => ?_⟩ (by unfold maxLen at h4; omega)).mono (fun e w' ⟨he, hb⟩ => ⟨he, hb.mono (fun k e => by have e' : k = g := e; subst e'; simp [Value.ownBlock])⟩)
    have hks : k < cur.size := by rw [h5]; omega
    obtain ⟨y, y1, y2, hy⟩ := hu (cur[k]'hks) (by simp)
    exact ⟨y, y1, y2, by rw [Array.getElem?_eq_getElem hks, hy]⟩
end Go.Proofs.YtohlifeenhaifaaGreatDoor
