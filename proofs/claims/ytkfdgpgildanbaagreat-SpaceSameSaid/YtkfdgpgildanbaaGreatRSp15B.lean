import Derived.Test.YtkfdgpgildanbaaGreatRSp15A
import Derived.Test.YtkfdgpgildanbaaGreatRDeed14A
namespace Go.Proofs.YtkfdgpgildanbaaGreat
open Go.RowKit Go.Shelf
set_option linter.unusedVariables false
set_option linter.unusedSimpArgs false
section
variable {B : Nat} {W W' : World} {rb : Nat} {p : Loc} {S S' : SpV}
theorem RsAt.taped {k' : Nat} {V' : Value} {xs : List Int} {L : List (Int × Int)} (h : RsAt B W rb p S) (hB : B ≤ W.heap.size) (hl : ∀ k, foot15 rb p k → B ≤ k) (hT : RT15 W' p.b p.tb p.X V' S.inp k' L) (hw : Wt14 p.tb p.V V' W W') (hx : S.inp.drop k' = xs) (ho : ({ S with left := xs, done := L } : SpV).ok) :
    Mv B (.rs rb S) (.rs rb { S with left := xs, done := L }) p { p with V := V', k := k' } W W' := by
  have ht : ∀ (k : Nat) (c : Array Value) (t : TypeId), W.heap[k]? = some (.cells c t (0, 0)) → t ≠ 127 → t ≠ 182 → ¬ (k = p.tb ∨ p.V.ownBlock = some k) := fun k c t hk h1 h2 e => by
    rcases e with rfl | e
    · exact types14 hk h.tape.box h1
    · obtain ⟨_, c', hc'⟩ := typed14 h.tape.done e
      exact types14 hk hc' h2
  have hb := hw.but
  have hf : ∀ k, foot15 rb { p with V := V', k := k' } k → foot15 rb p k ∨ W.heap.size ≤ k := by
    rintro k (e | e | e | e | e | e)
    · exact .inl (.inl e)
    · exact .inl (.inr (.inl e))
    · exact .inl (.inr (.inr (.inl e)))
    · exact .inl (.inr (.inr (.inr (.inl e))))
    · rcases hw.whr with h1 | ⟨g, h1, h2⟩
      · exact .inl (.inr (.inr (.inr (.inr (.inl (h1 ▸ e))))))
      · rw [h1] at e
        injection e with e
        exact .inr (by omega)
    · exact .inl (.inr (.inr (.inr (.inr (.inr e)))))
  have hlow : ∀ k, k < B → ¬ (k = p.tb ∨ p.V.ownBlock = some k) := fun k hk e => by
    have := hl k (e.elim (fun e => .inr (.inr (.inr (.inl e)))) (fun e => .inr (.inr (.inr (.inr (.inl e))))))
    omega
  obtain ⟨cur, hc, _⟩ := h.mem.row
  refine ⟨⟨hb.heap h.box (ht _ _ _ h.box (by decide) (by decide)), h.mem.but hb (ht _ _ _ h.mem.head (by decide) (by decide)) (ht _ _ _ hc (by decide) (by decide)), hT, hx, ?_, h.dat.but hb hB hlow, h.funs.but hb hB hlow, ho, ?_⟩, hb.mono (fun k e => e.elim (fun e => .inr (.inr (.inr (.inl e)))) (fun e => .inr (.inr (.inr (.inr (.inl e)))))), hf, fun k hk => .inl hk⟩
  · exact h.links.but hb (fun g hg => by
      obtain ⟨_, c, hc⟩ := typed14 h.links hg
      exact ht _ _ _ hc (by decide) (by decide))
  · intro k hk hr
    rcases hf k hk with e | e
    · exact h.sep k e hr
    · have := h.ro_lt hr
      omega
theorem RsAt.mvBox (h : RsAt B W rb p S) (hB : B ≤ W.heap.size) (hl : ∀ k, foot15 rb p k → B ≤ k) (hb : But (OneBlock rb) W W') (hx : W'.heap[rb]? = some (.cells (rbox15 p S') 130 (0, 0)))
    (e : S'.m = S.m ∧ S'.mem = S.mem ∧ S'.inp = S.inp ∧ S'.left = S.left ∧ S'.done = S.done ∧ S'.links = S.links) (ok : S'.ok) : Mv B (.rs rb S) (.rs rb S') p p W W' :=
  ⟨h.put hB hl hb hx e ok, hb.mono (fun k e => .inl e), fun _ h => .inl h, fun _ h => .inl h⟩
theorem Mv.ahead {a a' : It} {p' : Loc} {W0 : World} (hb : Below W.heap.size W W0) (h : Mv B a a' p p' W0 W') : Mv B a a' p p' W W' :=
  ⟨h.at', (But.of_below (R := a.foot p) hb).trans h.but, fun k hk => (h.foot k hk).imp id (fun e => Nat.le_trans hb.size e), fun k hk => (h.ro k hk).imp id (fun e => Nat.le_trans hb.size e)⟩
set_option maxRecDepth 100000
set_option maxHeartbeats 4000000
theorem rGo15 (h : RsAt B W rb p S) (hB : B ≤ W.heap.size) (hl : ∀ k, foot15 rb p k → B ≤ k) (n : Int) (hn : InI n) :
    Calls Tryz.prog 85 #[.pointer (some ⟨rb, 0, none⟩), .int .i64 n] W (RsDone B W rb p S (S.goS n) (.int .i64 (S.goE n))) := by
  have HP := Lib.hid (rplace15 n W hn)
  have hoo := h.ok.goS n
  have g7 := h.free 7
  have H := Lib.hid h
  have HBB := Lib.hid hB
  have HLL := Lib.hid hl
  obtain ⟨⟨c0, c1, c2, c3, c4, c5⟩, c6, c7, c8, c9, c10⟩ := h.cells
  unfold SpV.goS SpV.goE at *
  clear h hB hl c0 c1 c2 c3 c4 c5 c6 c8 c10
  by_cases he : S.ek = 0
  · simp only [if_pos he] at hoo ⊢
    have heb : (S.ek != 0) = false := by simpa using he
    by_cases hp : placeB n = true
    · simp only [if_pos hp, if_true] at hoo ⊢
      have HO := Lib.hid hoo
      rw [hp] at HP
      clear he hp hoo hn
      go_enter Tryz.func85, Tryz.ntmps85
      go_wp2_with (go_at_call 150; (with_reducible refine HP.out.mono ?_); rintro e w2 ⟨rfl, rfl⟩)
      go_ret
      exact ⟨rfl, _, H.out.mvBox HBB.out HLL.out (one_but15 W rb 7 _) (heap_setCell_same W rb 7 _ _ _ H.out.box) ⟨rfl, rfl, rfl, rfl, rfl, rfl⟩ HO.out⟩
    · simp only [if_neg hp, show ¬ ((5 : Int) = 0) by decide, if_false]
      rw [Bool.not_eq_true] at hp
      rw [hp] at HP
      clear he hp hoo hn
      go_enter Tryz.func85, Tryz.ntmps85
      go_wp2_with (go_at_call 150; (with_reducible refine HP.out.mono ?_); rintro e w2 ⟨rfl, rfl⟩)
      go_ret
      exact ⟨rfl, _, Mv.rsRead H.out HBB.out (Below.refl _ _)⟩
  · simp only [if_neg he, show ¬ ((9 : Int) = 0) by decide, if_false]
    have heb : (S.ek != 0) = true := by simpa using he
    clear he hoo hn
    go_enter Tryz.func85, Tryz.ntmps85
    go_wp2
    go_ret
    exact ⟨rfl, _, Mv.rsRead H.out HBB.out (Below.refl _ _)⟩
theorem rBurn15 (h : RsAt B W rb p S) (hB : B ≤ W.heap.size) (hl : ∀ k, foot15 rb p k → B ≤ k) (n : Int) (hn : InI n) :
    Calls Tryz.prog 86 #[.pointer (some ⟨rb, 0, none⟩), .int .i64 n] W (RsDone B W rb p S (S.burnS n) (.int .i64 (S.burnE n))) := by
  have hoo := h.ok.burnS n
  have hf0 := h.ok.fuel0
  have hf1 := h.ok.fuel1
  have g4 := h.free 4
  have H := Lib.hid h
  have HBB := Lib.hid hB
  have HLL := Lib.hid hl
  obtain ⟨⟨c0, c1, c2, c3, c4, c5⟩, c6, c7, c8, c9, c10⟩ := h.cells
  unfold SpV.burnS SpV.burnE at *
  clear h hB hl c0 c1 c2 c3 c5 c6 c7 c8 c10
  by_cases he : S.ek = 0
  · simp only [if_pos he] at hoo ⊢
    have heb : (S.ek != 0) = false := by simpa using he
    by_cases h1 : n < 0
    · simp only [if_pos (show n < 0 ∨ S.fuel < n from .inl h1), show ¬ ((2 : Int) = 0) by decide, if_false]
      have hd : decide (n < 0) = true := decide_eq_true h1
      clear he h1 hoo hn
      go_enter Tryz.func86, Tryz.ntmps86
      go_wp2
      go_ret
      exact ⟨rfl, _, Mv.rsRead H.out HBB.out (Below.refl _ _)⟩
    · have hd : decide (n < 0) = false := decide_eq_false h1
      by_cases h2 : S.fuel < n
      · simp only [if_pos (show n < 0 ∨ S.fuel < n from .inr h2), show ¬ ((2 : Int) = 0) by decide, if_false]
        have hd2 : decide (S.fuel < n) = true := decide_eq_true h2
        clear he h1 h2 hoo hn
        go_enter Tryz.func86, Tryz.ntmps86
        go_wp2
        go_ret
        exact ⟨rfl, _, Mv.rsRead H.out HBB.out (Below.refl _ _)⟩
      · simp only [if_neg (show ¬ (n < 0 ∨ S.fuel < n) by omega), if_true] at hoo ⊢
        have hd2 : decide (S.fuel < n) = false := decide_eq_false h2
        have HO := Lib.hid hoo
        have hn0 : 0 ≤ n := by omega
        have hn1 : n ≤ S.fuel := by omega
        clear he h1 h2 hoo hn
        go_enter Tryz.func86, Tryz.ntmps86
        go_wp2
        go_ret
        exact ⟨rfl, _, H.out.mvBox HBB.out HLL.out (one_but15 W rb 4 _) (heap_setCell_same W rb 4 _ _ _ H.out.box) ⟨rfl, rfl, rfl, rfl, rfl, rfl⟩ HO.out⟩
  · simp only [if_neg he, show ¬ ((9 : Int) = 0) by decide, if_false]
    have heb : (S.ek != 0) = true := by simpa using he
    clear he hoo hn
    go_enter Tryz.func86, Tryz.ntmps86
    go_wp2
    go_ret
    exact ⟨rfl, _, Mv.rsRead H.out HBB.out (Below.refl _ _)⟩
theorem rGetb15 (h : RsAt B W rb p S) (hB : B ≤ W.heap.size) (hl : ∀ k, foot15 rb p k → B ≤ k) (hf : S.done.length < 100000) (hil : S.inp.length ≤ 1000000) :
    Calls Tryz.prog 91 #[.pointer (some ⟨rb, 0, none⟩)] W (RsDone B W rb p S S.getbS (.tuple #[.int .i64 S.getbV, .int .i64 S.refE])) := by
  have hoo := h.ok.getbS hf
  obtain ⟨k', hk', hg⟩ := rget15 h.tape hf hil
  have hd : S.inp.drop p.k = S.left := h.left
  rw [hd] at hk' hg
  have HG := Lib.hid hg
  have HK := Lib.hid hk'
  have H := Lib.hid h
  have HBB := Lib.hid hB
  have HLL := Lib.hid hl
  obtain ⟨⟨c0, c1, c2, c3, c4, c5⟩, c6, c7, c8, c9, c10⟩ := h.cells
  unfold SpV.getbS SpV.getbV SpV.refE at *
  clear h hB hl c0 c1 c2 c4 c5 c6 c7 c8 c10 hg hk' hd
  by_cases he : S.ek = 0
  · simp only [if_pos he] at hoo ⊢
    have heb : (S.ek != 0) = false := by simpa using he
    have HO := Lib.hid hoo
    clear he hoo hf hil
    go_enter Tryz.func91, Tryz.ntmps91
    go_wp2_with (go_at_call 152; (with_reducible refine HG.out.mono ?_); rintro e w2 ⟨V', rfl, hT, hw⟩; have HM := Lib.hid (H.out.taped HBB.out HLL.out hT hw HK.out HO.out); clear hT hw)
    go_ret2
    exact ⟨rfl, _, HM.out⟩
  · simp only [if_neg he]
    have heb : (S.ek != 0) = true := by simpa using he
    clear he hoo hf hil
    go_enter Tryz.func91, Tryz.ntmps91
    go_wp2
    go_ret2
    exact ⟨rfl, _, Mv.rsRead H.out HBB.out (Below.refl _ _)⟩
theorem rPutb15 (h : RsAt B W rb p S) (hB : B ≤ W.heap.size) (hl : ∀ k, foot15 rb p k → B ≤ k) (hf : S.done.length < 100000) (b : Int) :
    Calls Tryz.prog 92 #[.pointer (some ⟨rb, 0, none⟩), .int .i64 b] W (RsDone B W rb p S (S.putbS b) (.int .i64 S.refE)) := by
  have hoo := h.ok.putbS hf b
  have HG := Lib.hid (rput15 h.tape hf b)
  have H := Lib.hid h
  have HBB := Lib.hid hB
  have HLL := Lib.hid hl
  obtain ⟨⟨c0, c1, c2, c3, c4, c5⟩, c6, c7, c8, c9, c10⟩ := h.cells
  have hd : S.inp.drop p.k = S.left := h.left
  have HK := Lib.hid hd
  unfold SpV.putbS SpV.refE at *
  clear h hB hl c0 c1 c2 c4 c5 c6 c7 c8 c10 hd
  by_cases he : S.ek = 0
  · simp only [if_pos he] at hoo ⊢
    have heb : (S.ek != 0) = false := by simpa using he
    have HO := Lib.hid hoo
    clear he hoo hf
    go_enter Tryz.func92, Tryz.ntmps92
    go_wp2_with (go_at_call 153; (with_reducible refine HG.out.mono ?_); rintro e w2 ⟨V', rfl, hT, hw⟩; have HM := Lib.hid (H.out.taped HBB.out HLL.out hT hw HK.out HO.out); clear hT hw)
    go_ret
    exact ⟨rfl, _, HM.out⟩
  · simp only [if_neg he]
    have heb : (S.ek != 0) = true := by simpa using he
    clear he hoo hf
    go_enter Tryz.func92, Tryz.ntmps92
    go_wp2
    go_ret
    exact ⟨rfl, _, Mv.rsRead H.out HBB.out (Below.refl _ _)⟩
theorem rStop15 (h : RsAt B W rb p S) (hB : B ≤ W.heap.size) (hl : ∀ k, foot15 rb p k → B ≤ k) (k c : Int) :
    Calls Tryz.prog 90 #[.pointer (some ⟨rb, 0, none⟩), .agg #[.int .i64 k, .int .i64 c]] W (RsDone B W rb p S (S.stopS k c) (.int .i64 (S.stopE k c))) := by
  have hA := below_one14 W (.cells #[.int .i64 k, .int .i64 c] 45)
  obtain ⟨W0, hW0⟩ : ∃ W0, W0 = W.alloc (.cells #[.int .i64 k, .int .i64 c] 45) := ⟨_, rfl⟩
  have HW := Lib.hid hW0
  have hnew : W0.heap[W.heap.size]? = some (.cells #[.int .i64 k, .int .i64 c] 45 (0, 0)) := by rw [hW0]; exact heap_alloc_new _ _
  rw [← hW0] at hA
  have HA := Lib.hid hA
  have HNW := Lib.hid hnew
  have h0 := h.grow hB hA
  have H := Lib.hid h0
  have HBB := Lib.hid (Nat.le_trans hB hA.size)
  have HLL := Lib.hid hl
  have hoo := h.ok.stopS k c
  have HC := Lib.hid (fun W' => rcheck14 (.slice none 0 0) [] k c W' (IsDeeds.nil _ _) (by simp))
  obtain ⟨⟨c0, c1, c2, c3, c4, c5⟩, c6, c7, c8, c9, c10⟩ := h0.cells
  obtain ⟨n0, n1⟩ := cells2_14 hnew
  unfold SpV.stopS SpV.stopE errO at *
  clear h h0 hB hl hA hnew hW0 c0 c1 c2 c3 c4 c5 c6 c7 c8 c10
  by_cases he : S.ek = 0
  · simp only [if_pos he] at hoo ⊢
    have heb : (S.ek != 0) = false := by simpa using he
    by_cases hp : okO [] k c = true
    · simp only [if_pos hp, if_true] at HC hoo ⊢
      have HO := Lib.hid hoo
      clear he hp hoo
      go_enter Tryz.func90, Tryz.ntmps90
      go_upto_region 1 with fail
      rw [← HW.out]
      go_wp2_with (go_at_call 151; (with_reducible refine (HC.out _).mono ?_); rintro e w4 ⟨rfl, hb⟩; have H4 := Lib.hid (H.out.grow HBB.out hb); have HB4 := Lib.hid hb; have g9 := H4.out.free 9; have g10 := H4.out.free 10; obtain ⟨⟨d0, d1, d2, d3, d4, d5⟩, d6, d7, d8, d9, d10⟩ := H4.out.cells; obtain ⟨m0, m1⟩ := cells2_14 ((hb.block _ (heap_lt HNW.out)).trans HNW.out); clear hb)
      go_ret
      exact ⟨rfl, _, Mv.ahead HA.out (Mv.ahead HB4.out (H4.out.mvBox (Nat.le_trans HBB.out HB4.out.size) HLL.out (but_box15 (one_but15 _ rb 9 _) 10 _) (heap_setCell_same _ rb 10 _ _ _ (heap_setCell_same _ rb 9 _ _ _ H4.out.box)) ⟨rfl, rfl, rfl, rfl, rfl, rfl⟩ HO.out))⟩
    · simp only [if_neg hp, show ¬ ((2 : Int) = 0) by decide, if_false] at HC hoo ⊢
      clear he hp hoo
      go_enter Tryz.func90, Tryz.ntmps90
      go_upto_region 1 with fail
      rw [← HW.out]
      go_wp2_with (go_at_call 151; (with_reducible refine (HC.out _).mono ?_); rintro e w4 ⟨rfl, hb⟩; have HB4 := Lib.hid hb; clear hb)
      go_ret
      exact ⟨rfl, _, Mv.ahead HA.out (Mv.rsRead H.out HBB.out HB4.out)⟩
  · simp only [if_neg he, show ¬ ((9 : Int) = 0) by decide, if_false]
    have heb : (S.ek != 0) = true := by simpa using he
    clear he hoo HC
    go_enter Tryz.func90, Tryz.ntmps90
    go_upto_region 1 with fail
    rw [← HW.out]
    go_wp2
    go_ret
    exact ⟨rfl, _, Mv.ahead HA.out (Mv.rsRead H.out HBB.out (Below.refl _ _))⟩
end
end Go.Proofs.YtkfdgpgildanbaaGreat
