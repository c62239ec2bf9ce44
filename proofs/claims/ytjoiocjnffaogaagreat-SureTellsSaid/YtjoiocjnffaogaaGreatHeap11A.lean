/- The queue of the landed code: what it is in memory, and its own methods (Less, Swap, Len, Push, Pop). Contracts; no condition but what each names. -/
import Derived.Test.YtjoiocjnffaogaaGreatS17
import Derived.BigRegion
namespace Go.Proofs.YtjoiocjnffaogaaGreat
open Go.RowKit Go.Shelf
set_option linter.unusedVariables false
set_option linter.unusedSimpArgs false

theorem own_other {base g n : Nat} {w : World} {t : TypeId} {mk : Nat → Value} {V : Value} {xs : List Int} (h : OutN base w V xs) (hr : RowAt w g n t mk) (ht : t ≠ 3) : ¬ OwnB V g := by
  intro hg
  obtain ⟨cur, h1⟩ := h.typed hg
  obtain ⟨cur', h2, _⟩ := hr
  rw [h1] at h2
  injection h2 with h2
  injection h2 with _ h2 _
  exact ht h2.symm
theorem OutN.setAt {base g L cap p : Nat} {w : World} {xs : List Int} (h : OutN base w (.slice (some ⟨g, 0, none⟩) L cap) xs) (hp : p < L) (z : Int) :
    OutN base (w.setCell ⟨g, p, none⟩ (.int .i64 z)) (.slice (some ⟨g, 0, none⟩) L cap) (xs.set p z) := by
  obtain ⟨g', cap', cur, he, h1, h2, h3, h4, h5, h6, h7, h8⟩ := h.parts (fun e => by cases e)
  simp only [Value.slice.injEq, Option.some.injEq, Addr.mk.injEq, and_true, true_and] at he
  obtain ⟨rfl, rfl, rfl⟩ := he
  have := OutN.of_block (cap := cap) (ys := xs.set p z) h1 (heap_setCell_same w g p cur _ (.int .i64 z) h3) (by rw [List.length_set]; exact h4) h5 (by simpa using h6) (by
    rw [List.length_set, Array.toList_setIfInBounds, List.take_set, h7, List.map_set]) (fun u hu => by
    rw [Array.toList_setIfInBounds] at hu
    rcases List.mem_or_eq_of_mem_set hu with h' | h'
    · exact h8 u h'
    · exact ⟨z, h'⟩)
  rwa [List.length_set] at this
/-- The queue in memory: its box, its numbers, who waits. -/
structure QAt (B : Nat) (w : World) (qb wb n : Nat) (V : Value) (f : Nat → Bool) (xs : List Int) : Prop where
  box : RowAt w qb 2 62 (fun i => if i = 0 then V else .slice (some ⟨wb, 0, none⟩) n n)
  own : OutN B w V xs
  row : RowAt w wb n 4 (boolsV f)
  qge : B ≤ qb
  wge : B ≤ wb
section
variable {B qb wb n : Nat} {w w' : World} {V V' : Value} {f : Nat → Bool} {xs ys : List Int}
theorem QAt.c0 (h : QAt B w qb wb n V f xs) : w.cell? ⟨qb, 0, none⟩ = some V := h.box.cell (i := 0) (by omega)
theorem QAt.c1 (h : QAt B w qb wb n V f xs) : w.cell? ⟨qb, 1, none⟩ = some (.slice (some ⟨wb, 0, none⟩) n n) := h.box.cell (i := 1) (by omega)
theorem QAt.of_blocks (h : QAt B w qb wb n V f xs) (hb : ∀ k, B ≤ k → k < w.heap.size → w'.heap[k]? = w.heap[k]?) (hs : w.heap.size ≤ w'.heap.size) : QAt B w' qb wb n V f xs :=
  ⟨h.box.heap (hb qb h.qge h.box.lt), Owns.of_blocks h.own (fun g hg => hb g (h.own.lt hg).1 (h.own.lt hg).2) hs, h.row.heap (hb wb h.wge h.row.lt), h.qge, h.wge⟩
theorem QAt.grow (h : QAt B w qb wb n V f xs) (hb : Below w.heap.size w w') : QAt B w' qb wb n V f xs := h.of_blocks (fun k _ hk => hb.block k hk) hb.size
theorem QAt.drewN (h : QAt B w qb wb n V f xs) (k : Nat) : QAt B (w.drewN k) qb wb n V f xs := h.of_blocks (fun _ _ _ => rfl) (Nat.le_refl _)
theorem QAt.drew (h : QAt B w qb wb n V f xs) : QAt B w.drew qb wb n V f xs := h.of_blocks (fun _ _ _ => rfl) (Nat.le_refl _)
theorem QAt.apart (h : QAt B w qb wb n V f xs) : qb ≠ wb := h.box.other h.row (by decide)
theorem QAt.ownq (h : QAt B w qb wb n V f xs) : ¬ OwnB V qb := own_other h.own h.box (by decide)
theorem QAt.ownw (h : QAt B w qb wb n V f xs) : ¬ OwnB V wb := own_other h.own h.row (by decide)
/-- The numbers are others now. -/
theorem QAt.lay (hb : RowAt w qb 2 62 (fun i => if i = 0 then V else .slice (some ⟨wb, 0, none⟩) n n)) (hr : RowAt w wb n 4 (boolsV f)) (h1 : B ≤ qb) (h2 : B ≤ wb) (ho : OutN B w V' ys) : QAt B (w.setCell ⟨qb, 0, none⟩ V') qb wb n V' f ys := by
  have hs := (But.refl (OneBlock qb) w).setCell (p := ⟨qb, 0, none⟩) (.inl rfl) V'
  refine ⟨(hb.set 0 V').congr fun i hi => by by_cases e : i = 0 <;> simp [e], ho.but hs (fun g hg e => own_other ho hb (by decide) (by rw [show g = qb from e] at hg; exact hg)), hr.but hs (fun e => (hb.other hr (by decide)) (show wb = qb from e).symm), h1, h2⟩
theorem QAt.mark (h : QAt B w qb wb n V f xs) (k : Nat) (c : Bool) : QAt B (w.setCell ⟨wb, k, none⟩ (.bool c)) qb wb n V (fun i => if i = k then c else f i) xs := by
  have hs := (But.refl (OneBlock wb) w).setCell (p := ⟨wb, k, none⟩) (.inl rfl) (.bool c)
  refine ⟨h.box.but hs (fun e => h.apart e), h.own.but hs (fun g hg e => h.ownw (by rw [show g = wb from e] at hg; exact hg)), (h.row.set k _).congr fun i hi => by unfold boolsV; by_cases e : i = k <;> simp [e], h.qge, h.wge⟩
theorem QAt.shape (h : QAt B w qb wb n V f xs) (hx : 0 < xs.length) : ∃ g cap, V = .slice (some ⟨g, 0, none⟩) xs.length cap ∧ B ≤ g ∧ xs.length ≤ cap ∧ ∀ i, i < xs.length → w.cell? ⟨g, i, none⟩ = some (.int .i64 (xs.getD i 0)) := by
  have hv : V ≠ .slice none 0 0 := fun e => by
    subst e
    rcases h.own.1.2 with ⟨_, h0⟩ | ⟨_, _, _, h0, _⟩
    · omega
    · cases h0
  obtain ⟨g, cap, cur, rfl, h1, h2, h3, h4, h5, h6, h7, h8⟩ := h.own.parts hv
  refine ⟨g, cap, rfl, h1, h4, fun i hi => ?_⟩
  have := h.own.1.cells (g := g) rfl i (.int .i64 (xs.getD i 0)) (by simp [List.getD, List.getElem?_eq_getElem hi])
  rw [← this]
  congr 1
  unfold Addr.add
  split <;> simp_all
end
set_option maxHeartbeats 4000000 in
theorem less11 (g L cap i j : Nat) (a b : Int) (w : World) (ha : w.cell? ⟨g, i, none⟩ = some (.int .i64 a)) (hb : w.cell? ⟨g, j, none⟩ = some (.int .i64 b)) (hi : i < L) (hj : j < L) :
    Calls Tryz.prog 136 #[.slice (some ⟨g, 0, none⟩) L cap, .int .i64 i, .int .i64 j] w fun e w' => ∃ c, e = .returned (.bool c) ∧ ∃ k, w' = w.drewN k := by
  have i0 : (0 : Int) ≤ (i : Int) := by omega
  have i1 : (i : Int) < (L : Int) := by omega
  have j0 : (0 : Int) ≤ (j : Int) := by omega
  have j1 : (j : Int) < (L : Int) := by omega
  go_enter Tryz.func136, Tryz.ntmps136
  go_wp2
  go_quiet (fail)
  go_wp2
  go_ret
  exact ⟨_, rfl, _, rfl⟩
set_option maxRecDepth 100000 in
set_option maxHeartbeats 4000000 in
theorem swap11 (g L cap i j : Nat) (a b : Int) (w : World) (ha : w.cell? ⟨g, i, none⟩ = some (.int .i64 a)) (hb : w.cell? ⟨g, j, none⟩ = some (.int .i64 b)) (hf : ∀ k, w.frozen? ⟨g, k, none⟩ = false) (hi : i < L) (hj : j < L) :
    Calls Tryz.prog 140 #[.slice (some ⟨g, 0, none⟩) L cap, .int .i64 i, .int .i64 j] w fun e w' => e = .returned (.tuple #[]) ∧ w' = (w.drew.setCell ⟨g, i, none⟩ (.int .i64 b)).setCell ⟨g, j, none⟩ (.int .i64 a) := by
  have i0 : (0 : Int) ≤ (i : Int) := by omega
  have i1 : (i : Int) < (L : Int) := by omega
  have j0 : (0 : Int) ≤ (j : Int) := by omega
  have j1 : (j : Int) < (L : Int) := by omega
  have fi := hf i
  have fj := hf j
  have hc : ∃ z : Int, (w.setCell ⟨g, i, none⟩ (.int .i64 b)).cell? ⟨g, j, none⟩ = some (.int .i64 z) := by
    by_cases e : i = j
    · subst e
      exact ⟨b, World.cell?_setCell_same _ _ _ ha⟩
    · exact ⟨b, (World.cell?_setCell_other _ _ _ _ (fun h => e (by injection h))).trans hb⟩
  obtain ⟨z, hz⟩ := hc
  go_enter Tryz.func140, Tryz.ntmps140
  go_wp2
  go_region
  all_goals (go_wp2; go_end0; exact ⟨rfl, rfl⟩)
theorem len11 (A : Option Addr) (L cap : Nat) (w : World) : Calls Tryz.prog 30 #[.slice A L cap] w fun e w' => e = .returned (.int .i64 L) ∧ w = w' := by
  go_enter Tryz.func30, Tryz.ntmps30
  go_wp2
  go_ret
  exact ⟨rfl, rfl⟩
end Go.Proofs.YtjoiocjnffaogaaGreat
