/- The document's own tape: Put, Get. Contracts; no condition but that the tape lies in memory. -/
import Derived.Test.YtkfdgpgildanbaaGreatDeed14E
namespace Go.Proofs.YtkfdgpgildanbaaGreat
open Go.RowKit
set_option linter.unusedVariables false
set_option linter.unusedSimpArgs false

/-- The document's tape in its box: all bytes, which came in, a place, what was done. -/
structure RTape14 (base : Nat) (W : World) (rb : Nat) (X V : Value) (xs : List Int) (k : Nat) (L : List (Int × Int)) : Prop where
  box : W.heap[rb]? = some (.cells #[X, .int .i64 k, V] 127 (0, 0))
  all : IsBytes W base X xs
  done : Owns W base 182 2 AnyC14 V L.length (cellsD L)
  few : L.length ≤ 100000
  le : k ≤ xs.length
  rb : base ≤ rb
section
variable {base : Nat} {W W' : World} {rb : Nat} {X V : Value} {xs : List Int} {k : Nat} {L : List (Int × Int)}
theorem RTape14.cells (h : RTape14 base W rb X V xs k L) : W.cell? ⟨rb, 0, none⟩ = some X ∧ W.cell? ⟨rb, 1, none⟩ = some (.int .i64 k) ∧ W.cell? ⟨rb, 2, none⟩ = some V := cells3_14 h.box
theorem RTape14.lt (h : RTape14 base W rb X V xs k L) : rb < W.heap.size := heap_lt h.box
theorem RTape14.free (h : RTape14 base W rb X V xs k L) (o : Nat) : W.frozen? ⟨rb, o, none⟩ = false := frozen_of_row W rb o _ _ h.box
theorem RTape14.but {R : Nat → Prop} (h : RTape14 base W rb X V xs k L) (hb : But R W W') (h1 : ¬ R rb) (h2 : ∀ j, j < base → ¬ R j) (h3 : ∀ g, V.ownBlock = some g → ¬ R g) : RTape14 base W' rb X V xs k L :=
  ⟨hb.heap h.box h1, h.all.but hb (Nat.le_trans h.rb (Nat.le_of_lt h.lt)) h2, h.done.but hb h3, h.few, h.le, h.rb⟩
theorem RTape14.grow (h : RTape14 base W rb X V xs k L) (hb : Below W.heap.size W W') : RTape14 base W' rb X V xs k L :=
  h.but (But.of_below (R := NoBlock) hb) (fun h => h) (fun _ _ h => h) (fun _ _ h => h)
theorem RTape14.ne (h : RTape14 base W rb X V xs k L) : some rb ≠ V.ownBlock := fun e => by
  obtain ⟨_, c, hc⟩ := typed14 h.done e.symm
  exact types14 hc h.box (by decide)
theorem RTape14.more {V' : Value} {a b : Int} (h : RTape14 base W rb X V xs k L) (hM : MoreD base W W' V V' L a b) (hf : L.length < 100000) :
    RTape14 base (W'.setCell ⟨rb, 2, none⟩ V') rb X V' xs k (L ++ [(a, b)]) ∧ Wt14 rb V V' W (W'.setCell ⟨rb, 2, none⟩ V') := by
  have hbx : W'.heap[rb]? = some (.cells #[X, .int .i64 k, V] 127 (0, 0)) := (hM.blk rb h.lt h.ne).trans h.box
  have hset := heap_setCell_same W' rb 2 _ _ V' hbx
  have hb1 : But (fun k => k = rb ∨ V.ownBlock = some k) W W' := ⟨hM.bel.os, hM.bel.tape, hM.bel.output, hM.size, fun k hk hn => hM.blk k hk (fun e => hn (.inr e.symm))⟩
  have hbut : But (fun k => k = rb ∨ V.ownBlock = some k) W (W'.setCell ⟨rb, 2, none⟩ V') := hb1.setCell (p := ⟨rb, 2, none⟩) (.inl (.inl rfl)) _
  have hbut2 : But (OneBlock rb) W' (W'.setCell ⟨rb, 2, none⟩ V') := (But.refl (OneBlock rb) W').setCell (p := ⟨rb, 2, none⟩) (.inl rfl) _
  refine ⟨⟨hset, h.all.but hbut (Nat.le_trans h.rb (Nat.le_of_lt h.lt)) (fun j hj => ?_), ?_, by simp; omega, h.le, h.rb⟩, ⟨hbut, hM.whr⟩⟩
  · rintro (rfl | e)
    · have := h.rb; omega
    · have := (typed14 h.done e).1; omega
  · rw [List.length_append]
    refine hM.own.but hbut2 (fun g hg e => ?_)
    have e' : g = rb := e
    subst e'
    obtain ⟨_, c, hc⟩ := typed14 hM.own hg
    exact types14 hc hbx (by decide)
theorem RTape14.next (h : RTape14 base W rb X V xs k L) (hk : k < xs.length) {n : Int} (hn : n = (k : Int) + 1) : RTape14 base (W.setCell ⟨rb, 1, none⟩ (.int .i64 n)) rb X V xs (k + 1) L := by
  have hset := heap_setCell_same W rb 1 _ _ (.int .i64 n) h.box
  have hbut : But (OneBlock rb) W (W.setCell ⟨rb, 1, none⟩ (.int .i64 n)) := (But.refl (OneBlock rb) W).setCell (p := ⟨rb, 1, none⟩) (.inl rfl) _
  have e1 : ∀ g, OneBlock rb g → g = rb := fun g e => e
  subst hn
  refine ⟨hset, h.all.but hbut (Nat.le_trans h.rb (Nat.le_of_lt h.lt)) (fun j hj e => ?_), h.done.but hbut (fun g hg e => ?_), h.few, hk, h.rb⟩
  · have := h.rb; have := e1 _ e; omega
  · have := e1 _ e
    subst this
    exact h.ne hg.symm
end
/-- What a call of the document's tape leaves. -/
def RTapeDone (base rb : Nat) (w : World) (X V : Value) (v : Value) (xs : List Int) (k : Nat) (L : List (Int × Int)) (e : Ending) (w' : World) : Prop :=
  ∃ V', e = .returned v ∧ RTape14 base w' rb X V' xs k L ∧ Wt14 rb V V' w w'
theorem Wt14.undraw {tb : Nat} {V V' : Value} {w w' : World} {q : Nat} (h : Wt14 tb V V' (w.drewN q) w') : Wt14 tb V V' w w' := ⟨⟨h.but.os, h.but.tape, h.but.output, h.but.size, h.but.block⟩, h.whr⟩
theorem mod256_14 (b : Int) : (wrap64 (b.tmod 256 + 256)).tmod 256 = b % 256 := by
  have h1 := Int.tmod_lt_of_pos b (show (0 : Int) < 256 by decide)
  have h2 := Int.lt_tmod_of_pos b (show (0 : Int) < 256 by decide)
  rw [IntWalk.wrap64_in _ (by omega), Int.tmod_eq_emod_of_nonneg (by omega)]
  have h3 := Int.tmod_add_mul_tdiv b 256
  omega
set_option maxRecDepth 100000 in
set_option maxHeartbeats 4000000 in
theorem rput14 {base rb : Nat} {w : World} {X V : Value} {xs : List Int} {k : Nat} {L : List (Int × Int)} (h : RTape14 base w rb X V xs k L) (hf : L.length < 100000) (b : Int) :
    Calls Tryz.prog 153 #[.pointer (some ⟨rb, 0, none⟩), .int .i64 b] w (RTapeDone base rb w X V (.int .i64 0) xs k (L ++ [(2, b % 256)])) := by
  obtain ⟨c0, c1, c2⟩ := h.cells
  obtain ⟨A, cap, hVe⟩ := owns_len14 h.done
  subst hVe
  have H := Lib.hid h
  have HB := Lib.hid (Nat.le_trans h.rb (Nat.le_of_lt h.lt))
  have HF := Lib.hid hf
  have HQ := Lib.hid (mod256_14 b)
  have HO : Hid (Owns w base 182 2 AnyC14 (.slice A L.length cap) L.length (cellsD L)) := Lib.hid h.done
  have hI : decide ((100000 : Int) ≤ (L.length : Int)) = false := decide_eq_false (by omega)
  clear h hf
  go_enter Tryz.func153, Tryz.ntmps153
  go_wp2_with (at_builtin; refine wpList_deed rfl (.tmp 15) (.tmp 21) rfl Tryz.underlying91 rfl rfl rfl HO.out HB.out (by have := HF.out; omega) ?_; intro V' W' hM; have HP := Lib.hid (H.out.more hM HF.out); have hbx := (hM.blk _ H.out.lt H.out.ne).trans H.out.box; obtain ⟨d0, d1, d2⟩ := cells3_14 hbx; have g2 := frozen_of_row W' rb 2 _ _ hbx; obtain ⟨A', cap', hVe⟩ := owns_len14 hM.own; subst hVe; clear hM hbx)
  go_ret
  exact ⟨_, rfl, by have h := HP.out.1; rw [HQ.out] at h; exact h, HP.out.2⟩
set_option maxRecDepth 100000 in
set_option maxHeartbeats 4000000 in
theorem rgetEnd14 {base rb : Nat} {w : World} {X V : Value} {xs : List Int} {k : Nat} {L : List (Int × Int)} (h : RTape14 base w rb X V xs k L) (hf : L.length < 100000) (hk : ¬ k < xs.length) (hl : xs.length ≤ 1000000) :
    Calls Tryz.prog 152 #[.pointer (some ⟨rb, 0, none⟩)] w (RTapeDone base rb w X V (.tuple #[.int .i64 (-1), .int .i64 0]) xs k (L ++ [(1, -1)])) := by
  obtain ⟨c0, c1, c2⟩ := h.cells
  obtain ⟨A, cap, hVe⟩ := owns_len14 h.done
  obtain ⟨XA, xcap, hXe⟩ := h.all.len
  have hkI : decide (k < xs.length) = false := decide_eq_false hk
  have hkI2 : ¬ (k : Int) < (xs.length : Int) := by omega
  subst hVe hXe
  have H : Hid (∀ q, RTape14 base (w.drewN q) rb (.slice XA xs.length xcap) (.slice A L.length cap) xs k L) := Lib.hid (fun q => h.grow (below_drewN (Below.refl _ _) q))
  have HB := Lib.hid (Nat.le_trans h.rb (Nat.le_of_lt h.lt))
  have HF := Lib.hid hf
  have hI : decide ((100000 : Int) ≤ (L.length : Int)) = false := decide_eq_false (by omega)
  clear h hf hk
  go_enter Tryz.func152, Tryz.ntmps152
  go_wp2
  go_quiet (fail)
  go_wp2_with (at_builtin; refine wpList_deed rfl (.tmp 43) (.tmp 46) rfl Tryz.underlying91 rfl rfl rfl (H.out _).done HB.out (by have := HF.out; omega) ?_; intro V' W' hM; have HP := Lib.hid ((H.out _).more hM HF.out); have hbx := (hM.blk _ (H.out 0).lt (H.out 0).ne).trans (H.out 0).box; obtain ⟨d0, d1, d2⟩ := cells3_14 hbx; have g2 := frozen_of_row W' rb 2 _ _ hbx; obtain ⟨A', cap', hVe⟩ := owns_len14 hM.own; subst hVe; clear hM hbx)
  go_ret2
  exact ⟨_, rfl, HP.out.1, HP.out.2.undraw⟩
set_option maxRecDepth 100000 in
set_option maxHeartbeats 4000000 in
theorem rgetMore14 {base rb : Nat} {w : World} {X V : Value} {xs : List Int} {k : Nat} {L : List (Int × Int)} (h : RTape14 base w rb X V xs k L) (hf : L.length < 100000) (hk : k < xs.length) (hl : xs.length ≤ 1000000) :
    Calls Tryz.prog 152 #[.pointer (some ⟨rb, 0, none⟩)] w (RTapeDone base rb w X V (.tuple #[.int .i64 (xs.getD k 0), .int .i64 0]) xs (k + 1) (L ++ [(1, xs.getD k 0)])) := by
  obtain ⟨c0, c1, c2⟩ := h.cells
  obtain ⟨A, cap, hVe⟩ := owns_len14 h.done
  obtain ⟨xg, xo, xcap, hXe, hcp, hxb, hx⟩ := h.all.plain (by omega)
  have hx0 := hx k hk
  have hbd := getD_bd h.all.1 hk
  have hkI : decide (k < xs.length) = true := decide_eq_true hk
  have hkI2 : (k : Int) < (xs.length : Int) := by omega
  have hk0 : (0 : Int) ≤ (k : Int) := by omega
  obtain ⟨m, hm⟩ : ∃ m : Nat, m = k + 1 := ⟨_, rfl⟩
  have hs : IntKind.i64.wrap ((k : Int) + 1) = (m : Int) := by rw [IntWalk.i64_in _ (by omega)]; omega
  have hs2 : (k : Int) + 1 = (m : Int) := by omega
  subst hVe hXe
  obtain ⟨x, hxe⟩ : ∃ x, x = xs.getD k 0 := ⟨_, rfl⟩
  rw [← hxe] at hx0 hbd ⊢
  have x0 : 0 ≤ x := hbd.1
  have x1 : x < 256 := hbd.2
  have HN : Hid (∀ q, RTape14 base ((w.drewN q).setCell ⟨rb, 1, none⟩ (.int .i64 (m : Int))) rb (.slice (some ⟨xg, xo, none⟩) xs.length xcap) (.slice A L.length cap) xs (k + 1) L) := Lib.hid (fun q => (h.grow (below_drewN (Below.refl _ _) q)).next hk hs2.symm)
  have HB : Hid (∀ q, base ≤ ((w.drewN q).setCell ⟨rb, 1, none⟩ (.int .i64 (m : Int))).heap.size) := Lib.hid (fun q => by have := Nat.le_trans h.rb (Nat.le_of_lt h.lt); simpa [World.setCell] using this)
  have HW : Hid (∀ q, But (fun k => k = rb ∨ (Value.slice A L.length cap).ownBlock = some k) w ((w.drewN q).setCell ⟨rb, 1, none⟩ (.int .i64 (m : Int)))) := Lib.hid (fun q => ((But.refl _ w).drewN q).setCell (p := ⟨rb, 1, none⟩) (.inl (.inl rfl)) _)
  have HF := Lib.hid hf
  have hI : decide ((100000 : Int) ≤ (L.length : Int)) = false := decide_eq_false (by omega)
  have g1 := h.free 1
  have HD : Hid (∀ q, (w.drewN q).cell? ⟨rb, 0, none⟩ = some (.slice (some ⟨xg, xo, none⟩) xs.length xcap)) := Lib.hid (fun q => h.cells.1)
  clear h hf hk hx hbd hcp hxb hm hxe
  go_enter Tryz.func152, Tryz.ntmps152
  go_wp2
  go_quiet (fail)
  generalize nq = q1 at *
  go_wp2
  go_quiet (fail)
  go_wp2_with (at_builtin; refine wpList_deed rfl (.tmp 43) (.tmp 46) rfl Tryz.underlying91 rfl rfl (by simp [World.setCell]) (HN.out (q1 + nq)).done (HB.out (q1 + nq)) (by have := HF.out; omega) ?_; intro V' W' hM; have HP := Lib.hid ((HN.out (q1 + nq)).more hM HF.out); have hbx := (hM.blk _ (HN.out (q1 + nq)).lt (HN.out (q1 + nq)).ne).trans (HN.out (q1 + nq)).box; obtain ⟨d0, d1, d2⟩ := cells3_14 hbx; have g2 := frozen_of_row W' rb 2 _ _ hbx; obtain ⟨A', cap', hVe⟩ := owns_len14 hM.own; subst hVe; clear hM hbx)
  go_ret2
  exact ⟨_, rfl, HP.out.1, (HW.out (q1 + nq)).trans HP.out.2.but, by have h := HP.out.2.whr; simpa [World.setCell] using h⟩
end Go.Proofs.YtkfdgpgildanbaaGreat
