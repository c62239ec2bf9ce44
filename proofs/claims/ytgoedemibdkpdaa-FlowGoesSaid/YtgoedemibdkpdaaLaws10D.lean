/- FlowKnown: the chapter's examples. Contract; no condition. -/
import Derived.Test.YtgoedemibdkpdaaLaws10C
namespace Go.Proofs.Ytgoedemibdkpdaa
open Go.RowKit
set_option linter.unusedVariables false
set_option linter.unusedSimpArgs false

def sixBlks : List BlkV := [⟨0, 2, [1]⟩, ⟨2, 4, [0]⟩, ⟨4, 5, []⟩, ⟨5, 6, []⟩]
theorem six_blks : blksV sixV = sixBlks := by kernel_rfl
theorem lit_blks (w : World) : IsBlks (((w.alloc (.cells #[.int .i64 1] 3)).alloc (.cells #[.int .i64 0] 3)).alloc (.cells #[.int .i64 0, .int .i64 2, .slice (some ⟨w.heap.size, 0, none⟩) 1 1, .int .i64 2, .int .i64 4, .slice (some ⟨w.heap.size + 1, 0, none⟩) 1 1, .int .i64 4, .int .i64 5, .slice none 0 0, .int .i64 5, .int .i64 6, .slice none 0 0] 44)) (w.heap.size + 3)
    (.slice (some ⟨w.heap.size + 2, 0, none⟩) 4 4) sixBlks := by
  generalize hc : (.cells #[.int .i64 0, .int .i64 2, .slice (some ⟨w.heap.size, 0, none⟩) 1 1, .int .i64 2, .int .i64 4, .slice (some ⟨w.heap.size + 1, 0, none⟩) 1 1, .int .i64 4, .int .i64 5, .slice none 0 0, .int .i64 5, .int .i64 6, .slice none 0 0] 44 : Obj) = o
  have b0 : (((w.alloc (.cells #[.int .i64 1] 3)).alloc (.cells #[.int .i64 0] 3)).alloc o).heap[w.heap.size]? = some (.cells #[.int .i64 1] 3 (0, 0)) := by
    rw [Below.heap_alloc _ _ _ (by simp <;> omega), Below.heap_alloc _ _ _ (by simp)]
    exact heap_alloc_new _ _
  have b1 : (((w.alloc (.cells #[.int .i64 1] 3)).alloc (.cells #[.int .i64 0] 3)).alloc o).heap[w.heap.size + 1]? = some (.cells #[.int .i64 0] 3 (0, 0)) := by
    rw [Below.heap_alloc _ _ _ (by simp)]
    have := heap_alloc_new (w.alloc (.cells #[.int .i64 1] 3)) (.cells #[.int .i64 0] 3)
    simpa using this
  have b4 : (((w.alloc (.cells #[.int .i64 1] 3)).alloc (.cells #[.int .i64 0] 3)).alloc o).heap[w.heap.size + 2]? = some o := by
    rw [← hc]
    have := heap_alloc_new ((w.alloc (.cells #[.int .i64 1] 3)).alloc (.cells #[.int .i64 0] 3)) (.cells #[.int .i64 0, .int .i64 2, .slice (some ⟨w.heap.size, 0, none⟩) 1 1, .int .i64 2, .int .i64 4, .slice (some ⟨w.heap.size + 1, 0, none⟩) 1 1, .int .i64 4, .int .i64 5, .slice none 0 0, .int .i64 5, .int .i64 6, .slice none 0 0] 44)
    simpa using this
  subst hc
  refine ⟨by decide, .inr ⟨w.heap.size + 2, 0, 4, rfl, Nat.le_refl _, Nat.lt_succ_self _, fun i hi => ?_⟩⟩
  have hi : i < 4 := hi
  have hcl : ∀ j, (((w.alloc (.cells #[.int .i64 1] 3)).alloc (.cells #[.int .i64 0] 3)).alloc (.cells #[.int .i64 0, .int .i64 2, .slice (some ⟨w.heap.size, 0, none⟩) 1 1, .int .i64 2, .int .i64 4, .slice (some ⟨w.heap.size + 1, 0, none⟩) 1 1, .int .i64 4, .int .i64 5, .slice none 0 0, .int .i64 5, .int .i64 6, .slice none 0 0] 44)).cell? ⟨w.heap.size + 2, j, none⟩ = (#[.int .i64 0, .int .i64 2, .slice (some ⟨w.heap.size, 0, none⟩) 1 1, .int .i64 2, .int .i64 4, .slice (some ⟨w.heap.size + 1, 0, none⟩) 1 1, .int .i64 4, .int .i64 5, .slice none 0 0, .int .i64 5, .int .i64 6, .slice none 0 0] : Array Value)[j]? := fun j => cell_of_row _ _ _ _ _ _ b4
  rcases (show i = 0 ∨ i = 1 ∨ i = 2 ∨ i = 3 by omega) with rfl | rfl | rfl | rfl
  · exact ⟨_, num_one_at (w := w) 1 b0 (by omega), fun j hj => by rw [hcl]; rcases (show j = 0 ∨ j = 1 ∨ j = 2 by omega) with rfl | rfl | rfl <;> rfl⟩
  · exact ⟨_, num_one_at (w := w) 0 b1 (by omega), fun j hj => by rw [hcl]; rcases (show j = 0 ∨ j = 1 ∨ j = 2 by omega) with rfl | rfl | rfl <;> rfl⟩
  · exact ⟨.slice none 0 0, ⟨by decide, .inl ⟨rfl, rfl⟩⟩, fun j hj => by rw [hcl]; rcases (show j = 0 ∨ j = 1 ∨ j = 2 by omega) with rfl | rfl | rfl <;> rfl⟩
  · exact ⟨.slice none 0 0, ⟨by decide, .inl ⟨rfl, rfl⟩⟩, fun j hj => by rw [hcl]; rcases (show j = 0 ∨ j = 1 ∨ j = 2 by omega) with rfl | rfl | rfl <;> rfl⟩
theorem six_blocksN {w : World} {V : Value} (h : IsCode w w.heap.size V sixV) : Calls Try.prog 21 #[V] w fun e w' => Below w.heap.size w w' ∧ ∃ A c, e = .returned (.tuple #[.slice A 4 c, .int .i64 0]) ∧ IsBlks w' w'.heap.size (.slice A 4 c) sixBlks :=
  (blocks10_any V sixV w h).mono fun e w' ⟨hb, hh⟩ => by
    obtain ⟨_, U, Xs, he, hk⟩ := hh.resolve_left (fun h => h.1 six_check)
    rw [six_blks] at hk
    have hk2 := hk.blks (by decide)
    obtain ⟨A, c, rfl⟩ := hk2.len
    exact ⟨hb, A, c, he, hk2⟩
theorem ck_lit (l : List InsV) (z : Int) (h : check10 l = z) (hl : l.length ≤ 1000) (hi : ∀ y ∈ l, InsB y) (ha : ∀ y ∈ l, y.args = []) (h0 : 0 < l.length) (w : World) (cs : Array Value) (hcs : cs.toList = cellsC l (List.replicate l.length (.slice none 0 0))) :
    Calls Try.prog 17 #[.slice (some ⟨w.heap.size, 0, none⟩) l.length l.length] (w.alloc (.cells cs 46)) fun e w' => e = .returned (.int .i64 z) ∧ Below w.heap.size w w' := by
  have hc := code_new w l cs hcs hl hi ha h0
  refine (check10_any _ l _ (hc.more (by simp))).mono ?_
  rintro e w' ⟨rfl, hb⟩
  rw [h]
  exact ⟨rfl, ((Below.refl w.heap.size w).alloc (Nat.le_refl _) _).trans (hb.mono (by simp))⟩
theorem ck_nil (w : World) : Calls Try.prog 17 #[.slice none 0 0] w fun e w' => e = .returned (.int .i64 10) ∧ Below w.heap.size w w' := by
  have := check10_any (.slice none 0 0) [] w ⟨by simp, by simp, .inl ⟨rfl, none, 0, rfl⟩⟩
  rw [show check10 [] = 10 from by decide +kernel] at this
  exact this
theorem one_in (a b : Int) (ha : InI a) (hb : InI b) : ∀ y ∈ [(⟨a, 0, 0, 0, b, []⟩ : InsV)], InsB y := by
  intro y hy
  simp at hy
  subst hy
  have h0 : InI 0 := by unfold InI; decide
  exact ⟨ha, h0, h0, h0, hb⟩
set_option maxRecDepth 100000 in
set_option maxHeartbeats 8000000 in
theorem known10_any (w : World) : Calls Try.prog 4 #[] w (Makes w (.bool true)) := by
  have C1 : Hid (∀ W : World, Calls Try.prog 17 #[.slice (some ⟨W.heap.size, 0, none⟩) 1 1] (W.alloc (.cells #[.int .i64 0, .int .i64 0, .int .i64 0, .int .i64 0, .int .i64 0, .slice none 0 0] 46)) fun e w' => e = .returned (.int .i64 10) ∧ Below W.heap.size W w') := Lib.hid (fun W => ck_lit [⟨0, 0, 0, 0, 0, []⟩] 10 (by decide +kernel) (by decide) (one_in 0 0 (by unfold InI; decide) (by unfold InI; decide)) (by simp) (by decide) W #[.int .i64 0, .int .i64 0, .int .i64 0, .int .i64 0, .int .i64 0, .slice none 0 0] rfl)
  have C2 : Hid (∀ W : World, Calls Try.prog 17 #[.slice (some ⟨W.heap.size, 0, none⟩) 1 1] (W.alloc (.cells #[.int .i64 25, .int .i64 0, .int .i64 0, .int .i64 0, .int .i64 1, .slice none 0 0] 46)) fun e w' => e = .returned (.int .i64 13) ∧ Below W.heap.size W w') := Lib.hid (fun W => ck_lit [⟨25, 0, 0, 0, 1, []⟩] 13 (by decide +kernel) (by decide) (one_in 25 1 (by unfold InI; decide) (by unfold InI; decide)) (by simp) (by decide) W #[.int .i64 25, .int .i64 0, .int .i64 0, .int .i64 0, .int .i64 1, .slice none 0 0] rfl)
  have C3 : Hid (∀ W : World, Calls Try.prog 17 #[.slice (some ⟨W.heap.size, 0, none⟩) 1 1] (W.alloc (.cells #[.int .i64 25, .int .i64 0, .int .i64 0, .int .i64 0, .int .i64 0, .slice none 0 0] 46)) fun e w' => e = .returned (.int .i64 0) ∧ Below W.heap.size W w') := Lib.hid (fun W => ck_lit [⟨25, 0, 0, 0, 0, []⟩] 0 (by decide +kernel) (by decide) (one_in 25 0 (by unfold InI; decide) (by unfold InI; decide)) (by simp) (by decide) W #[.int .i64 25, .int .i64 0, .int .i64 0, .int .i64 0, .int .i64 0, .slice none 0 0] rfl)
  go_enter Try.func4, Try.ntmps4
  go_wp2_with (first
    | (go_at_call 22; (with_reducible refine (six_any w).mono ?_); rintro e w1 ⟨rfl, hb, hc⟩; have HB1 := Lib.hid hb; have HC1 := Lib.hid hc; clear hb hc)
    | (go_at_call 21; (with_reducible refine (six_blocksN HC1.out).mono ?_); rintro e w2 ⟨hb, A2, c2, rfl, hl⟩; have HB2 := Lib.hid (HB1.out.trans (hb.mono HB1.out.size)); have HL2 := Lib.hid hl; clear hb hl)
    | (go_at_call 17; ((with_reducible refine (ck_nil _).mono ?_); rintro e w3 ⟨rfl, hb⟩; have hb3 := ((((Below.refl w2.heap.size w2).alloc (Nat.le_refl _) (.cells #[.int .i64 1] 3)).alloc (by simp) (.cells #[.int .i64 0] 3)).alloc (by simp <;> omega) (.cells #[.int .i64 0, .int .i64 2, .slice (some ⟨w2.heap.size, 0, none⟩) 1 1, .int .i64 2, .int .i64 4, .slice (some ⟨w2.heap.size + 1, 0, none⟩) 1 1, .int .i64 4, .int .i64 5, .slice none 0 0, .int .i64 5, .int .i64 6, .slice none 0 0] 44)).trans (hb.mono (by simp <;> omega)); have HB3 := Lib.hid (HB2.out.trans (hb3.mono HB2.out.size)); have HL3 := Lib.hid ((HL2.out.below hb3 (Nat.le_refl _)).more hb3.size); have HW3 := Lib.hid (((lit_blks w2).below hb (by simp)).more (by have := hb.size; simp at this; omega)); clear hb hb3))
    | (go_at_call 17; ((with_reducible refine (C1.out w3).mono ?_); rintro e w4 ⟨rfl, hb⟩; have HB4 := Lib.hid (HB3.out.trans (hb.mono HB3.out.size)); have HL4 := Lib.hid ((HL3.out.below hb (Nat.le_refl _)).more hb.size); have HW4 := Lib.hid ((HW3.out.below hb (Nat.le_refl _)).more hb.size); clear hb))
    | (go_at_call 17; ((with_reducible refine (C2.out w4).mono ?_); rintro e w5 ⟨rfl, hb⟩; have HB5 := Lib.hid (HB4.out.trans (hb.mono HB4.out.size)); have HL5 := Lib.hid ((HL4.out.below hb (Nat.le_refl _)).more hb.size); have HW5 := Lib.hid ((HW4.out.below hb (Nat.le_refl _)).more hb.size); clear hb))
    | (go_at_call 17; ((with_reducible refine (C3.out w5).mono ?_); rintro e w6 ⟨rfl, hb⟩; have HB6 := Lib.hid (HB5.out.trans (hb.mono HB5.out.size)); have HL6 := Lib.hid ((HL5.out.below hb (Nat.le_refl _)).more hb.size); have HW6 := Lib.hid ((HW5.out.below hb (Nat.le_refl _)).more hb.size); clear hb))
    | (go_at_call 9; ((with_reducible refine (awake10_any w6).mono ?_); rintro e w7 ⟨rfl, hb⟩; have HB7 := Lib.hid (HB6.out.trans (hb.mono HB6.out.size)); have HL7 := Lib.hid ((HL6.out.below hb (Nat.le_refl _)).more hb.size); have HW7 := Lib.hid ((HW6.out.below hb (Nat.le_refl _)).more hb.size); clear hb))
    | (go_at_call 23; ((with_reducible refine (sameBlocks_yes _ _ sixBlks w7 _ _ HL7.out HW7.out).mono ?_); rintro e w8 ⟨rfl, q8, rfl⟩)))
  go_ret
  exact ⟨rfl, below_drewN HB7.out q8⟩
end Go.Proofs.Ytgoedemibdkpdaa
