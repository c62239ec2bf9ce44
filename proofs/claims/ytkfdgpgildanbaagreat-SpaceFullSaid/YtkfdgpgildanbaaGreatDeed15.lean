/- The landed tape, with where its bytes lie; the document's tape, likewise. Contracts; no condition but that the tape lies in memory. -/
import Derived.Test.YtkfdgpgildanbaaGreatDeed14J
import Derived.Test.YtkfdgpgildanbaaGreatDeed14F
import Derived.Test.YtkfdgpgildanbaaGreatMath15
namespace Go.Proofs.YtkfdgpgildanbaaGreat
open Go.RowKit
set_option linter.unusedVariables false
set_option linter.unusedSimpArgs false

section
variable {base : Nat} {W W' : World} {X : Value} {xs : List Int}
theorem OwnB.blk (h : OwnB base W X xs) {g : Nat} (hg : X.ownBlock = some g) : ∃ cur, W.heap[g]? = some (.cells cur 5 (0, 0)) := by
  rcases h.2.2 with ⟨rfl, _⟩ | ⟨g', off, cap, cur, rfl, h2, h3, h4, h5⟩
  · simp [Value.ownBlock] at hg
  · simp [Value.ownBlock] at hg
    subst hg
    exact ⟨_, h4⟩
theorem OwnB.but' {R : Nat → Prop} (h : OwnB base W X xs) (hb : But R W W') (hr : ∀ g, X.ownBlock = some g → ¬ R g) : OwnB base W' X xs := by
  refine ⟨h.1, h.2.1, ?_⟩
  rcases h.2.2 with h0 | ⟨g, off, cap, cur, h1, h2, h3, h4, h5⟩
  · exact .inl h0
  · exact .inr ⟨g, off, cap, cur, h1, h2, h3, hb.heap h4 (hr g (by rw [h1]; rfl)), h5⟩
theorem OwnB.low (h : OwnB base W X xs) {g : Nat} (hg : X.ownBlock = some g) : base ≤ g := by
  rcases h.2.2 with ⟨rfl, _⟩ | ⟨g', off, cap, cur, rfl, h2, h3, h4, h5⟩
  · simp [Value.ownBlock] at hg
  · simp [Value.ownBlock] at hg
    subst hg
    exact h3
end
/-- What a call of a tape leaves; where its bytes lie. -/
def TapeDone15 (base tb : Nat) (w : World) (X V : Value) (v : Value) (xs : List Int) (L : List (Int × Int)) (e : Ending) (w' : World) : Prop :=
  ∃ X' V', e = .returned v ∧ Tape14 base w' tb X' V' xs L ∧ Wt14 tb V V' w w' ∧ X'.ownBlock = X.ownBlock
set_option maxRecDepth 100000 in
set_option maxHeartbeats 4000000 in
theorem put15 {base tb : Nat} {w : World} {X V : Value} {xs : List Int} {L : List (Int × Int)} (h : Tape14 base w tb X V xs L) (hb : base ≤ w.heap.size) (hf : L.length < 100000) (b : Int) :
    Calls Tryz.prog 108 #[.pointer (some ⟨tb, 0, none⟩), .int .i64 b] w (TapeDone15 base tb w X V (.int .i64 0) xs (L ++ [(2, b % 256)])) := by
  have hr := refusal14 h hf
  have HR := Lib.hid hr
  obtain ⟨c0, c1, c2⟩ := h.cells
  obtain ⟨A, cap, hVe⟩ := owns_len14 h.done
  subst hVe
  have H := Lib.hid h
  have HB := Lib.hid hb
  have HF := Lib.hid hf
  have hu := u8_mod14 b
  have HO : Hid (Owns w base 182 2 AnyC14 (.slice A L.length cap) L.length (cellsD L)) := Lib.hid h.done
  clear h hb hf hr
  go_enter Tryz.func108, Tryz.ntmps108
  go_wp2_with (first
    | (go_at_call 158; (with_reducible refine HR.out.mono ?_); rintro e w' ⟨rfl, rfl⟩)
    | (at_builtin; refine wpList_deed rfl (.tmp 15) (.tmp 20) rfl Tryz.underlying177 rfl rfl rfl HO.out HB.out (by have := HF.out; omega) ?_; intro V' W' hM; have HP := Lib.hid (H.out.more hM HF.out); have hbx := (hM.blk _ H.out.lt H.out.ne).trans H.out.box; obtain ⟨d0, d1, d2⟩ := cells3_14 hbx; have g2 := frozen_of_row W' tb 2 _ _ hbx; obtain ⟨A', cap', hVe⟩ := owns_len14 hM.own; subst hVe; clear hM hbx))
  go_ret
  exact ⟨_, _, rfl, HP.out.1, HP.out.2, rfl⟩
set_option maxRecDepth 100000 in
set_option maxHeartbeats 4000000 in
theorem getEnd15 {base tb : Nat} {w : World} {X V : Value} {L : List (Int × Int)} (h : Tape14 base w tb X V [] L) (hb : base ≤ w.heap.size) (hf : L.length < 100000) :
    Calls Tryz.prog 102 #[.pointer (some ⟨tb, 0, none⟩)] w (TapeDone15 base tb w X V (.tuple #[.int .i64 (-1), .int .i64 0]) [] (L ++ [(1, -1)])) := by
  have hr := refusal14 h hf
  have HR := Lib.hid hr
  obtain ⟨c0, c1, c2⟩ := h.cells
  obtain ⟨A, cap, hVe⟩ := owns_len14 h.done
  obtain ⟨XA, xcap, hXe⟩ := h.left.len
  subst hVe hXe
  have H := Lib.hid h
  have HB := Lib.hid hb
  have HF := Lib.hid hf
  have HO : Hid (Owns w base 182 2 AnyC14 (.slice A L.length cap) L.length (cellsD L)) := Lib.hid h.done
  clear h hb hf hr
  simp only [List.length_nil] at c1
  go_enter Tryz.func102, Tryz.ntmps102
  go_wp2_with (first
    | (go_at_call 158; (with_reducible refine HR.out.mono ?_); rintro e w' ⟨rfl, rfl⟩)
    | (at_builtin; refine wpList_deed rfl (.tmp 36) (.tmp 39) rfl Tryz.underlying177 rfl rfl rfl HO.out HB.out (by have := HF.out; omega) ?_; intro V' W' hM; have HP := Lib.hid (H.out.more hM HF.out); have hbx := (hM.blk _ H.out.lt H.out.ne).trans H.out.box; obtain ⟨d0, d1, d2⟩ := cells3_14 hbx; have g2 := frozen_of_row W' tb 2 _ _ hbx; obtain ⟨A', cap', hVe⟩ := owns_len14 hM.own; subst hVe; clear hM hbx))
  go_ret2
  exact ⟨_, _, rfl, HP.out.1, HP.out.2, rfl⟩
set_option maxRecDepth 100000 in
set_option maxHeartbeats 4000000 in
theorem getMore15 {base tb : Nat} {w : World} {X V : Value} {x : Int} {ys : List Int} {L : List (Int × Int)} (h : Tape14 base w tb X V (x :: ys) L) (hb : base ≤ w.heap.size) (hf : L.length < 100000) :
    Calls Tryz.prog 102 #[.pointer (some ⟨tb, 0, none⟩)] w (TapeDone15 base tb w X V (.tuple #[.int .i64 x, .int .i64 0]) ys (L ++ [(1, x)])) := by
  have hr := refusal14 h hf
  have HR := Lib.hid hr
  obtain ⟨c0, c1, c2⟩ := h.cells
  obtain ⟨A, cap, hVe⟩ := owns_len14 h.done
  obtain ⟨g, off, xcap, hXe, hcp, hx0, hnx⟩ := h.left.first
  obtain ⟨o', ho'⟩ : ∃ o', o' = if xcap = 1 then off else off + 1 := ⟨_, rfl⟩
  have hsl := slice_one14 g off ys.length xcap o' hcp ho'
  subst hVe hXe
  have hxb := h.left.2.1 x (List.mem_cons_self ..)
  have x0 : 0 ≤ x := hxb.1
  have x1 : x < 256 := hxb.2
  have H1 := Lib.hid (h.next (X' := .slice (some ⟨g, o', none⟩) ys.length (xcap - 1)) (fun W' hW => hnx W' o' (fun hc => by rw [ho', if_neg hc]) (hW g)))
  have HSZ : Hid (base ≤ (w.setCell ⟨tb, 1, none⟩ (.slice (some ⟨g, o', none⟩) ys.length (xcap - 1))).heap.size) := Lib.hid (by simpa [World.setCell] using hb)
  have HF := Lib.hid hf
  have HO : Hid (Owns (w.setCell ⟨tb, 1, none⟩ (.slice (some ⟨g, o', none⟩) ys.length (xcap - 1))) base 182 2 AnyC14 (.slice A L.length cap) L.length (cellsD L)) := Lib.hid H1.out.done
  have HW : Hid (But (fun k => k = tb ∨ (Value.slice A L.length cap).ownBlock = some k) w (w.setCell ⟨tb, 1, none⟩ (.slice (some ⟨g, o', none⟩) ys.length (xcap - 1)))) := Lib.hid ((But.refl _ w).setCell (p := ⟨tb, 1, none⟩) (.inl (.inl rfl)) _)
  obtain ⟨e0, e1, e2⟩ := H1.out.cells
  have g1 := h.free 1
  have hlen : (0 : Int) < ((ys.length + 1 : Nat) : Int) := by omega
  have hyl := h.left.1
  simp only [List.length_cons] at c1 hyl
  clear h hb hf hr hnx hcp ho' hxb
  generalize ys.length = n at *
  go_enter Tryz.func102, Tryz.ntmps102
  go_wp2_with (first
    | (go_at_call 158; (with_reducible refine HR.out.mono ?_); rintro e w' ⟨rfl, rfl⟩)
    | (at_builtin; refine wpList_deed rfl (.tmp 36) (.tmp 39) rfl Tryz.underlying177 rfl rfl (by simp [World.setCell]) HO.out HSZ.out (by have := HF.out; omega) ?_; intro V' W' hM; have HP := Lib.hid (H1.out.more hM HF.out); have hbx := (hM.blk _ H1.out.lt H1.out.ne).trans H1.out.box; obtain ⟨d0, d1, d2⟩ := cells3_14 hbx; have g2 := frozen_of_row W' tb 2 _ _ hbx; obtain ⟨A', cap', hVe⟩ := owns_len14 hM.own; subst hVe; clear hM hbx))
  go_ret2
  exact ⟨_, _, rfl, HP.out.1, ⟨HW.out.trans HP.out.2.but, by have h := HP.out.2.whr; simpa [World.setCell] using h⟩, rfl⟩
/-- What is taken is a byte, or -1. -/
theorem tape_any15 {base tb : Nat} {w : World} {X V : Value} {xs : List Int} {L : List (Int × Int)} (h : Tape14 base w tb X V xs L) (hb : base ≤ w.heap.size) (hf : L.length < 100000) :
    Calls Tryz.prog 102 #[.pointer (some ⟨tb, 0, none⟩)] w (TapeDone15 base tb w X V (.tuple #[.int .i64 (hd15 xs), .int .i64 0]) xs.tail (L ++ [(1, hd15 xs)])) := by
  cases xs with
  | nil => exact getEnd15 h hb hf
  | cons x ys => exact getMore15 h hb hf
/-- The document's tape: its bytes, how many are gone, what was done. -/
structure RT15 (W : World) (b rb : Nat) (X V : Value) (xs : List Int) (k : Nat) (L : List (Int × Int)) : Prop where
  box : W.heap[rb]? = some (.cells #[X, .int .i64 k, V] 127 (0, 0))
  own : OwnB 0 W X xs
  low : ∀ g, X.ownBlock = some g → g < b
  done : Owns W b 182 2 AnyC14 V L.length (cellsD L)
  few : L.length ≤ 100000
  le : k ≤ xs.length
  rb : b ≤ rb
section
variable {W W' : World} {b rb : Nat} {X V : Value} {xs : List Int} {k : Nat} {L : List (Int × Int)}
theorem RT15.toR (h : RT15 W b rb X V xs k L) : RTape14 b W rb X V xs k L := by
  refine ⟨h.box, ?_, h.done, h.few, h.le, h.rb⟩
  refine ⟨h.own.2.1, by have := h.own.1; unfold maxLen; omega, ?_⟩
  rcases h.own.2.2 with h0 | ⟨g, off, cap, cur, h1, h2, h3, h4, h5⟩
  · exact .inl h0
  · refine .inr ⟨_, cap, h1, h2, fun _ => h.low g (by rw [h1]; rfl), fun i hi => ?_⟩
    have e : (⟨g, off, none⟩ : Addr).add i = ⟨g, off + i, none⟩ := by unfold Addr.add; split <;> simp_all
    rw [e, cell_of_row _ _ _ _ _ _ h4]
    exact h5 i hi
theorem RT15.but {R : Nat → Prop} (h : RT15 W b rb X V xs k L) (hb : But R W W') (h1 : ¬ R rb) (h2 : ∀ g, X.ownBlock = some g → ¬ R g) (h3 : ∀ g, V.ownBlock = some g → ¬ R g) : RT15 W' b rb X V xs k L :=
  ⟨hb.heap h.box h1, h.own.but' hb h2, h.low, h.done.but hb h3, h.few, h.le, h.rb⟩
theorem RT15.ofR {V' : Value} {k' : Nat} {L' : List (Int × Int)} (h : RT15 W b rb X V xs k L) (hR : RTape14 b W' rb X V' xs k' L') (hw : Wt14 rb V V' W W') : RT15 W' b rb X V' xs k' L' := by
  refine ⟨hR.box, h.own.but' hw.but (fun g hg => ?_), h.low, hR.done, hR.few, hR.le, hR.rb⟩
  obtain ⟨c, hc⟩ := h.own.blk hg
  rintro (rfl | e)
  · exact types14 hc h.box (by decide)
  · obtain ⟨_, c', hc'⟩ := typed14 h.done e
    exact types14 hc hc' (by decide)
end
/-- What a call of the document's tape leaves. -/
def RTDone15 (W : World) (b rb : Nat) (X V : Value) (v : Value) (xs : List Int) (k : Nat) (L : List (Int × Int)) (e : Ending) (W' : World) : Prop :=
  ∃ V', e = .returned v ∧ RT15 W' b rb X V' xs k L ∧ Wt14 rb V V' W W'
theorem rput15 {W : World} {b rb : Nat} {X V : Value} {xs : List Int} {k : Nat} {L : List (Int × Int)} (h : RT15 W b rb X V xs k L) (hf : L.length < 100000) (n : Int) :
    Calls Tryz.prog 153 #[.pointer (some ⟨rb, 0, none⟩), .int .i64 n] W (RTDone15 W b rb X V (.int .i64 0) xs k (L ++ [(2, n % 256)])) := by
  refine (rput14 h.toR hf n).mono ?_
  rintro e W' ⟨V', rfl, hR, hw⟩
  exact ⟨V', rfl, h.ofR hR hw, hw⟩
theorem rget15 {W : World} {b rb : Nat} {X V : Value} {xs : List Int} {k : Nat} {L : List (Int × Int)} (h : RT15 W b rb X V xs k L) (hf : L.length < 100000) (hl : xs.length ≤ 1000000) :
    ∃ k', xs.drop k' = (xs.drop k).tail ∧ Calls Tryz.prog 152 #[.pointer (some ⟨rb, 0, none⟩)] W (RTDone15 W b rb X V (.tuple #[.int .i64 (hd15 (xs.drop k)), .int .i64 0]) xs k' (L ++ [(1, hd15 (xs.drop k))])) := by
  by_cases hk : k < xs.length
  · have e : xs.drop k = xs.getD k 0 :: xs.drop (k + 1) := by
      rw [List.drop_eq_getElem_cons hk]; simp [List.getD, List.getElem?_eq_getElem hk]
    refine ⟨k + 1, by rw [e]; rfl, ?_⟩
    rw [e]
    refine (rgetMore14 h.toR hf hk hl).mono ?_
    rintro e W' ⟨V', rfl, hR, hw⟩
    exact ⟨V', rfl, h.ofR hR hw, hw⟩
  · have e : xs.drop k = [] := List.drop_eq_nil_of_le (by omega)
    refine ⟨k, by rw [e]; rfl, ?_⟩
    rw [e]
    refine (rgetEnd14 h.toR hf hk hl).mono ?_
    rintro e W' ⟨V', rfl, hR, hw⟩
    exact ⟨V', rfl, h.ofR hR hw, hw⟩
end Go.Proofs.YtkfdgpgildanbaaGreat
