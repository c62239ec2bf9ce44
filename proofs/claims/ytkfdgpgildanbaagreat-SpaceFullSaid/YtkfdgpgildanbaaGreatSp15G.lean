/- The landed space: how it ends, its bytes, its outcome. Contracts; no condition but that it lies in memory. -/
import Derived.Test.YtkfdgpgildanbaaGreatSp15F
namespace Go.Proofs.YtkfdgpgildanbaaGreat
open Go.RowKit Go.Shelf
set_option linter.unusedVariables false
set_option linter.unusedSimpArgs false

set_option maxRecDepth 100000 in
set_option maxHeartbeats 4000000 in
theorem getb15 {W : World} {sb : Nat} {p : Loc} {S : SpV} (h : SpAt W sb p S) (hf : S.done.length < 100000) :
    Calls Tryz.prog 28 #[.pointer (some ⟨sb, 0, none⟩)] W (SpDone W sb p S S.getbS (.tuple #[.int .i64 S.getbV, .int .i64 S.refE])) := by
  have HR := Lib.hid (refuse15 h)
  have hoo : S.getbS.ok := h.ok.getbS hf
  have HG := Lib.hid (fun W' p' (h : LaidAt W' sb p' S) => tape_any15 h.tape (Nat.zero_le _) hf)
  unfold SpV.getbS SpV.getbV SpV.refE at *
  clear h
  by_cases he : S.ek = 0
  · simp only [if_pos he] at HR hoo ⊢
    have HO := Lib.hid hoo
    obtain ⟨y, hy⟩ : ∃ y, y = hd15 S.left := ⟨_, rfl⟩
    rw [← hy] at HG HO ⊢
    clear he hoo hy
    go_enter Tryz.func28, Tryz.ntmps28
    go_wp2_with (first
      | (go_at_call 82; (with_reducible refine HR.out.mono ?_); rintro e w' ⟨rfl, p', hv⟩; have HD := Lib.hid hv; obtain ⟨⟨c5, c9, c10, c11⟩, ⟨c12, c13, c14, c15⟩, c16, c17⟩ := hv.laid.cells; have g11 := hv.laid.free 11; have g16 := hv.laid.free 16; have g17 := hv.laid.free 17; clear hv)
      | (go_at_call 102; (with_reducible refine (HG.out _ _ HD.out.laid).mono ?_); rintro e w4 ⟨X', V', rfl, hT, hw, hX⟩; have HD4 := Lib.hid (HD.out.trans (HD.out.laid.taped hT hw hX (by obtain ⟨q, hq⟩ := HD.out.laid.pre; cases hl : S.left with | nil => exact ⟨q, by rw [hq, hl]; rfl⟩ | cons x ys => exact ⟨q ++ [x], by rw [hq, hl]; simp⟩) HO.out)); clear hT hw hX))
    go_ret2
    exact ⟨rfl, _, HD4.out⟩
  · simp only [if_neg he] at HR hoo ⊢
    clear he hoo HG
    go_enter Tryz.func28, Tryz.ntmps28
    go_wp2_with (go_at_call 82; (with_reducible refine HR.out.mono ?_); rintro e w' ⟨rfl, p', hv⟩; have HD := Lib.hid hv; obtain ⟨⟨c5, c9, c10, c11⟩, ⟨c12, c13, c14, c15⟩, c16, c17⟩ := hv.laid.cells; have g11 := hv.laid.free 11; have g16 := hv.laid.free 16; have g17 := hv.laid.free 17; clear hv)
    go_ret2
    exact ⟨rfl, _, HD.out⟩
set_option maxRecDepth 100000 in
set_option maxHeartbeats 4000000 in
theorem putb15 {W : World} {sb : Nat} {p : Loc} {S : SpV} (h : SpAt W sb p S) (hf : S.done.length < 100000) (b : Int) :
    Calls Tryz.prog 42 #[.pointer (some ⟨sb, 0, none⟩), .int .i64 b] W (SpDone W sb p S (S.putbS b) (.int .i64 S.refE)) := by
  have HR := Lib.hid (refuse15 h)
  have hoo : (S.putbS b).ok := h.ok.putbS hf b
  have HG := Lib.hid (fun W' p' (h : LaidAt W' sb p' S) => put15 h.tape (Nat.zero_le _) hf b)
  unfold SpV.putbS SpV.refE at *
  clear h
  by_cases he : S.ek = 0
  · simp only [if_pos he] at HR hoo ⊢
    have HO := Lib.hid hoo
    clear he hoo
    go_enter Tryz.func42, Tryz.ntmps42
    go_wp2_with (first
      | (go_at_call 82; (with_reducible refine HR.out.mono ?_); rintro e w' ⟨rfl, p', hv⟩; have HD := Lib.hid hv; obtain ⟨⟨c5, c9, c10, c11⟩, ⟨c12, c13, c14, c15⟩, c16, c17⟩ := hv.laid.cells; have g11 := hv.laid.free 11; have g16 := hv.laid.free 16; have g17 := hv.laid.free 17; clear hv)
      | (go_at_call 108; (with_reducible refine (HG.out _ _ HD.out.laid).mono ?_); rintro e w4 ⟨X', V', rfl, hT, hw, hX⟩; have HD4 := Lib.hid (HD.out.trans (HD.out.laid.taped hT hw hX HD.out.laid.pre HO.out)); clear hT hw hX))
    go_ret
    exact ⟨rfl, _, HD4.out⟩
  · simp only [if_neg he] at HR hoo ⊢
    clear he hoo HG
    go_enter Tryz.func42, Tryz.ntmps42
    go_wp2_with (go_at_call 82; (with_reducible refine HR.out.mono ?_); rintro e w' ⟨rfl, p', hv⟩; have HD := Lib.hid hv; obtain ⟨⟨c5, c9, c10, c11⟩, ⟨c12, c13, c14, c15⟩, c16, c17⟩ := hv.laid.cells; have g11 := hv.laid.free 11; have g16 := hv.laid.free 16; have g17 := hv.laid.free 17; clear hv)
    go_ret
    exact ⟨rfl, _, HD.out⟩
set_option maxRecDepth 100000 in
set_option maxHeartbeats 4000000 in
theorem stop15 {W : World} {sb : Nat} {p : Loc} {S : SpV} (h : SpAt W sb p S) (k c : Int) :
    Calls Tryz.prog 22 #[.pointer (some ⟨sb, 0, none⟩), .agg #[.int .i64 k, .int .i64 c]] W (SpDone W sb p S (S.stopS k c) (.int .i64 (S.stopE k c))) := by
  have hB := below_one14 W (.cells #[.int .i64 k, .int .i64 c] 45)
  obtain ⟨W0, hW0⟩ : ∃ W0, W0 = W.alloc (.cells #[.int .i64 k, .int .i64 c] 45) := ⟨_, rfl⟩
  have HW := Lib.hid hW0
  have hnew : W0.heap[W.heap.size]? = some (.cells #[.int .i64 k, .int .i64 c] 45 (0, 0)) := by rw [hW0]; exact heap_alloc_new _ _
  rw [← hW0] at hB
  have HB := Lib.hid hB
  have HR := Lib.hid (refuse15 (h.grow hB))
  have hoo : (S.stopS k c).ok := h.ok.stopS k c
  have HC := Lib.hid (fun W' => check14 (.slice none 0 0) [] k c W' (IsDeeds.nil _ _))
  have HNB : Hid (∀ (w' : World) (p' : Loc) (q : Nat), But (foot15 sb p) W0 w' → w'.cell? ⟨W.heap.size, 0, none⟩ = some (.int .i64 k) ∧ w'.cell? ⟨W.heap.size, 1, none⟩ = some (.int .i64 c)) := Lib.hid (fun w' p' q hb => by
    have hx := hb.heap hnew (fun e => by
      have h1 : W.heap.size < W.heap.size := (It.lt (B := 0) (a := .sp sb S) h (.inl e))
      omega)
    exact cells2_14 hx)
  unfold SpV.stopS SpV.stopE errO at *
  unfold SpV.refE at HR
  clear h hB hnew hW0
  by_cases he : S.ek = 0
  · simp only [if_pos he] at HR hoo ⊢
    by_cases hp : okO [] k c = true
    · simp only [if_pos hp, if_true] at HC hoo ⊢
      have HO := Lib.hid hoo
      clear he hp hoo
      go_enter Tryz.func22, Tryz.ntmps22
      go_upto_region 1 with fail
      rw [← HW.out]
      go_wp2_with (first
        | (go_at_call 82; (with_reducible refine HR.out.mono ?_); rintro e w' ⟨rfl, p', hv⟩; have HD := Lib.hid hv; obtain ⟨k0, k1⟩ := HNB.out w' p' 0 hv.but; clear hv)
        | (go_at_call 83; (with_reducible refine (HC.out _).mono ?_); rintro e w4 ⟨rfl, hb⟩; have HD4 := Lib.hid (HD.out.read hb); have g16 := HD4.out.laid.free 16; have g17 := HD4.out.laid.free 17; obtain ⟨⟨c5, c9, c10, c11⟩, ⟨c12, c13, c14, c15⟩, c16, c17⟩ := HD4.out.laid.cells; obtain ⟨k2, k3⟩ := HNB.out w4 p' 0 HD4.out.but; clear hb))
      go_ret
      exact ⟨rfl, _, Vd15.after HB.out (HD4.out.trans (HD4.out.laid.boxed (but_box15 (one_but15 _ sb 16 _) 17 _) (heap_setCell_same _ sb 17 _ _ _ (heap_setCell_same _ sb 16 _ _ _ HD4.out.laid.box)) rfl HO.out))⟩
    · simp only [if_neg hp, show ¬ ((2 : Int) = 0) by decide, if_false] at HC hoo ⊢
      clear he hp hoo
      go_enter Tryz.func22, Tryz.ntmps22
      go_upto_region 1 with fail
      rw [← HW.out]
      go_wp2_with (first
        | (go_at_call 82; (with_reducible refine HR.out.mono ?_); rintro e w' ⟨rfl, p', hv⟩; have HD := Lib.hid hv; obtain ⟨k0, k1⟩ := HNB.out w' p' 0 hv.but; clear hv)
        | (go_at_call 83; go_loud ((with_reducible refine (HC.out _).mono ?_); rintro e w4 ⟨rfl, hb⟩; have HD4 := Lib.hid (HD.out.read hb); clear hb)))
      go_ret
      exact ⟨rfl, _, Vd15.after HB.out HD4.out⟩
  · simp only [if_neg he, show ¬ ((9 : Int) = 0) by decide, if_false] at HR hoo ⊢
    clear he hoo HC
    go_enter Tryz.func22, Tryz.ntmps22
    go_upto_region 1 with fail
    rw [← HW.out]
    go_wp2_with (go_at_call 82; (with_reducible refine HR.out.mono ?_); rintro e w' ⟨rfl, p', hv⟩; have HD := Lib.hid hv; clear hv)
    go_ret
    exact ⟨rfl, _, Vd15.after HB.out HD.out⟩
/-- What a call has made of its own, ahead of the space's being laid out, may be written. -/
theorem Vd15.mine {w W0 W1 W2 : World} {sb : Nat} {p p' : Loc} {S S' : SpV} (hb : Below w.heap.size w W0) (h : Vd15 W0 W1 sb p p' S S') (hp : ∀ k, foot15 sb p k ∨ ro15 p k → k < w.heap.size) (h2 : But (fun k => w.heap.size ≤ k ∧ k < W0.heap.size) W1 W2) (ht : ∀ k, w.heap.size ≤ k → k < W0.heap.size → Typ15 W1 k) : Vd15 w W2 sb p p' S S' := by
  have h3 := Vd15.after hb h
  refine ⟨h.laid.but h2 (fun k hk hr => ?_) (fun k hk _ => ht k hk.1 hk.2), h3.but.more15 h2 (fun k hk => .inr hk.1), h3.foot, h3.ro⟩
  rcases hk with hk | hk
  · rcases h.foot k hk with e | e
    · have := hp k (.inl e); omega
    · omega
  · rcases h.ro k hk with e | e
    · have := hp k (.inr e); omega
    · omega
theorem SpAt.lt {W : World} {sb : Nat} {p : Loc} {S : SpV} (h : SpAt W sb p S) : ∀ k, foot15 sb p k ∨ ro15 p k → k < W.heap.size := fun k e => It.lt (B := 0) (a := .sp sb S) h e
set_option maxRecDepth 100000 in
set_option maxHeartbeats 4000000 in
theorem end15 {W : World} {sb : Nat} {p : Loc} {S : SpV} (h : SpAt W sb p S) :
    Calls Tryz.prog 29 #[.pointer (some ⟨sb, 0, none⟩)] W (SpDone W sb p S S (.tuple #[.agg #[.int .i64 S.ek, .int .i64 S.ec], .bool (S.ek != 0)])) := by
  have hB := below_one14 W (.cells #[.int .i64 0, .int .i64 0] 45)
  obtain ⟨W0, hW0⟩ : ∃ W0, W0 = W.alloc (.cells #[.int .i64 0, .int .i64 0] 45) := ⟨_, rfl⟩
  have HW := Lib.hid hW0
  have hnew : W0.heap[W.heap.size]? = some (.cells #[.int .i64 0, .int .i64 0] 45 (0, 0)) := by rw [hW0]; exact heap_alloc_new _ _
  rw [← hW0] at hB
  have HB := Lib.hid hB
  have HV := Lib.hid (valid15 (h.grow hB))
  have HLT := Lib.hid h.lt
  have HNB : Hid (∀ (w' : World), But (foot15 sb p) W0 w' → w'.heap[W.heap.size]? = some (.cells #[.int .i64 0, .int .i64 0] 45 (0, 0))) := Lib.hid (fun w' hb => hb.heap hnew (fun e => by have := HLT.out _ (.inl e); omega))
  have hnot := not15
  clear h hB hnew hW0
  go_enter Tryz.func29, Tryz.ntmps29
  go_upto_region 1 with fail
  rw [← HW.out]
  go_upto_region 3 with (go_at_call 68; (with_reducible refine HV.out.mono ?_); rintro e w' ⟨rfl, p', hv⟩; have HD := Lib.hid hv; obtain ⟨⟨c5, c9, c10, c11⟩, ⟨c12, c13, c14, c15⟩, c16, c17⟩ := hv.laid.cells; have HX := Lib.hid (HNB.out _ hv.but); obtain ⟨k0, k1⟩ := cells2_14 HX.out; have z0 := frozen_of_row w' W.heap.size 0 _ _ HX.out; have z1 := frozen_of_row w' W.heap.size 1 _ _ HX.out; clear hv)
  go_region
  have hx3 := heap_setCell_same _ W.heap.size 1 _ _ (.int .i64 S.ec) (heap_setCell_same w' W.heap.size 0 _ _ (.int .i64 S.ek) HX.out)
  have hb3 : But (fun k => W.heap.size ≤ k ∧ k < W0.heap.size) w' ((w'.setCell ⟨W.heap.size, 0, none⟩ (.int .i64 S.ek)).setCell ⟨W.heap.size, 1, none⟩ (.int .i64 S.ec)).drew := (((But.refl _ w').setCell (p := ⟨W.heap.size, 0, none⟩) (.inl ⟨Nat.le_refl _, by rw [HW.out]; simp⟩) _).setCell (p := ⟨W.heap.size, 1, none⟩) (.inl ⟨Nat.le_refl _, by rw [HW.out]; simp⟩) _).drew
  have HV3 := Lib.hid (Vd15.mine HB.out HD.out HLT.out hb3 (fun k h1 h2 => by
    rw [HW.out] at h2
    simp at h2
    have h3 : k = W.heap.size := by omega
    subst h3
    exact ⟨_, _, HX.out, by decide, by decide⟩))
  obtain ⟨W3, hW3⟩ : ∃ W3, W3 = ((w'.setCell ⟨W.heap.size, 0, none⟩ (.int .i64 S.ek)).setCell ⟨W.heap.size, 1, none⟩ (.int .i64 S.ec)).drew := ⟨_, rfl⟩
  have hx4 : W3.heap[W.heap.size]? = some (.cells #[.int .i64 S.ek, .int .i64 S.ec] 45 (0, 0)) := by rw [hW3]; exact hx3
  rw [← hW3] at HV3 ⊢
  clear hW3 hx3 hb3
  obtain ⟨m0, m1⟩ := cells2_14 hx4
  go_wp2
  exact bodyPost_ret (v := .tuple #[.agg #[.int .i64 S.ek, .int .i64 S.ec], .bool (S.ek != 0)]) (by simp [results, Tryz.results29, go_sem, m0, m1]) rfl ⟨rfl, _, HV3.out⟩
end Go.Proofs.YtkfdgpgildanbaaGreat
