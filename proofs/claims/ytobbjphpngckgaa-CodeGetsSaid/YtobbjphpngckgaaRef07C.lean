/- The document's own Length and Get of layer 7. Contracts; no condition but that the bytes are few. -/
import Derived.Test.YtobbjphpngckgaaRef07B
import Derived.StillTailTactics
namespace Go.Proofs.Ytobbjphpngckgaa
open Go.RowKit Go.Shelf
set_option linter.unusedVariables false
set_option linter.unusedSimpArgs false

set_option maxHeartbeats 2000000 in
theorem rlength7_any (op a b c n : Int) (X : Value) (args : List Int) (w : World) (hX : IsNums .i64 w w.heap.size X args) (hin : InI n) :
    Calls Try.prog 19 #[.agg (insCells op a b c n X)] w (Makes w (.int .i64 (lenV ⟨op, a, b, c, n, args⟩))) := by
  have hB0 : Below w.heap.size w (w.alloc (.cells (insCells op a b c n X) 35)) := (Below.refl _ w).alloc (Nat.le_refl _) _
  have hX0 := (hX.below hB0 (Nat.le_refl _)).more hB0.size
  have HP := Lib.hid (rput7_any op a b c n X args _ hX0 hin)
  have HB0 := Lib.hid hB0
  obtain ⟨XA, Xc, rfl⟩ := hX.len
  have hk0 := heap_alloc_new w (.cells (insCells op a b c n (.slice XA args.length Xc)) 35)
  obtain ⟨c0, c1, c2, c3, c4, c5⟩ := cells6 hk0
  clear hX0 hB0 hk0 hX
  go_enter Try.func19, Try.ntmps19
  go_wp2_with (go_at_call 17; (with_reducible refine HP.out.mono ?_); intro e w1 hp; obtain ⟨A1, L1, c1', e1, rfl, hl⟩ := puti_len HB0.out hp; clear hp)
  go_ret
  obtain ⟨hL, hb⟩ := hl.out
  subst hL
  exact ⟨rfl, hb⟩

/-- What the document's own Get has made. -/
structure RgAt (w W : World) (B ib : Nat) (X : Value) (b : List Int) (op n : Int) (V P : Value) (args rs : List Int) : Prop where
  ins : W.heap[w.heap.size]? = some (.cells (insCells 0 0 0 0 0 (.slice none 0 0)) 35 (0, 0))
  fau : flt W (w.heap.size + 1) 0 0
  box : W.heap[ib]? = some (.cells (insCells op 0 0 0 n V) 35 (0, 0))
  own : OutN B W V args
  reg : OutN B W P rs
  bel : Below w.heap.size w W
  lib : w.heap.size + 1 < ib
  lB : ib < B
  apart : ∀ g, V.ownBlock = some g → some g ≠ P.ownBlock
section
variable {w W W1 : World} {B ib : Nat} {X V P V1 P1 : Value} {b args rs args1 rs1 : List Int} {op n n1 : Int}
theorem RgAt.call (h : RgAt w W B ib X b op n V P args rs) (hb : Below W.heap.size W W1) : RgAt w W1 B ib X b op n V P args rs :=
  ⟨(hb.block _ (heap_lt h.ins)).trans h.ins, (hb.block _ (heap_lt h.fau)).trans h.fau, (hb.block _ (heap_lt h.box)).trans h.box, Owns.below h.own hb (Nat.le_refl _), Owns.below h.reg hb (Nat.le_refl _), h.bel.trans (hb.mono h.bel.size), h.lib, h.lB, h.apart⟩
theorem RgAt.drew (h : RgAt w W B ib X b op n V P args rs) : RgAt w W.drew B ib X b op n V P args rs := ⟨h.ins, h.fau, h.box, Owns.drew h.own, Owns.drew h.reg, h.bel.drew, h.lib, h.lB, h.apart⟩
theorem RgAt.size (h : RgAt w W B ib X b op n V P args rs) : ib < W.heap.size := heap_lt h.box
/-- A number is laid. -/
theorem RgAt.num (h : RgAt w W B ib X b op n V P args rs) : RgAt w (W.setCell ⟨ib, 4, none⟩ (.int .i64 n1)) B ib X b op n1 V P args rs := by
  have hb := only1 W ib 4 (.int .i64 n1)
  have := h.lib
  have := h.lB
  refine ⟨hb.heap h.ins (show ¬ w.heap.size = ib by omega), hb.heap h.fau (show ¬ w.heap.size + 1 = ib by omega), heap_setCell_same W ib 4 _ _ (.int .i64 n1) h.box, own_one h.own hb h.lB, own_one h.reg hb h.lB, below_one h.bel hb (by omega) h.bel.size, h.lib, h.lB, h.apart⟩
/-- A register more. -/
theorem RgAt.more (h : RgAt w W B ib X b op n V P args rs) (hBs : B ≤ W.heap.size) (ho : OutN B W1 P1 rs1) (hb : Below B W W1) (hk : ∀ i, i < W.heap.size → some i ≠ P.ownBlock → W1.heap[i]? = W.heap[i]?) (hs : W.heap.size ≤ W1.heap.size) (hw : P1.ownBlock = P.ownBlock ∨ P1.ownBlock = some (W.heap.size + 1)) : RgAt w W1 B ib X b op n V P1 args rs1 := by
  have h1 := h.lib
  have h2 := h.lB
  refine ⟨(hb.block _ (by omega)).trans h.ins, ?_, (hb.block _ (by omega)).trans h.box, ?_, ho, h.bel.trans (hb.mono (by omega)), h.lib, h.lB, fun g hg => ?_⟩
  · have := h.fau
    unfold flt at this ⊢
    rw [hb.block _ (by omega)]
    exact this
  · exact Owns.of_blocks h.own (fun g hg => hk g (h.own.lt hg).2 (h.apart g hg)) hs
  · rcases hw with hw | hw
    · rw [hw]; exact h.apart g hg
    · rw [hw]
      intro e
      have := (h.own.lt hg).2
      injection e with e
      omega
/-- An argument more, and the list in its field. -/
theorem RgAt.arg (h : RgAt w W B ib X b op n V P args rs) (hBs : B ≤ W.heap.size) (ho : OutN B W1 V1 args1) (hb : Below B W W1) (hk : ∀ i, i < W.heap.size → some i ≠ V.ownBlock → W1.heap[i]? = W.heap[i]?) (hs : W.heap.size ≤ W1.heap.size) (hw : V1.ownBlock = V.ownBlock ∨ V1.ownBlock = some (W.heap.size + 1)) :
    RgAt w (W1.setCell ⟨ib, 5, none⟩ V1) B ib X b op n V1 P args1 rs ∧ W1.heap[ib]? = some (.cells (insCells op 0 0 0 n V) 35 (0, 0)) := by
  have h1 := h.lib
  have h2 := h.lB
  have hbox := (hb.block _ (by omega)).trans h.box
  have hi := only1 W1 ib 5 V1
  have hap : ∀ g, V1.ownBlock = some g → some g ≠ P.ownBlock := fun g hg => by
    rcases hw with hw | hw
    · exact h.apart g (by rw [← hw]; exact hg)
    · intro e
      rw [hg] at hw
      have := (h.reg.lt e.symm).2
      injection hw with hw
      omega
  refine ⟨⟨hi.heap ((hb.block _ (by omega)).trans h.ins) (show ¬ w.heap.size = ib by omega), hi.heap ?_ (show ¬ w.heap.size + 1 = ib by omega), heap_setCell_same W1 ib 5 _ _ V1 hbox, own_one ho hi h.lB, own_one (Owns.of_blocks h.reg (fun g hg => hk g (h.reg.lt hg).2 (fun e => h.apart g e.symm hg.symm)) hs) hi h.lB, below_one (h.bel.trans (hb.mono (by omega))) hi (by omega) (Nat.le_trans h.bel.size hs), h.lib, h.lB, hap⟩, hbox⟩
  rw [hb.block _ (by omega)]
  exact h.fau
end
structure Early (w W : World) : Prop where
  ins : W.heap[w.heap.size]? = some (.cells (insCells 0 0 0 0 0 (.slice none 0 0)) 35 (0, 0))
  fau : flt W (w.heap.size + 1) 0 0
  bel : Below w.heap.size w W
theorem Early.grow {w W W1 : World} (h : Early w W) (hb : Below W.heap.size W W1) : Early w W1 := ⟨(hb.block _ (heap_lt h.ins)).trans h.ins, (hb.block _ (heap_lt h.fau)).trans h.fau, h.bel.trans (hb.mono h.bel.size)⟩
theorem early_end {w W W1 : World} (h : Early w W) (hb : Below W.heap.size W W1) (z k : Int) :
    W1.heap[w.heap.size]? = some (.cells (insCells 0 0 0 0 0 (.slice none 0 0)) 35 (0, 0)) ∧ flt W1 (w.heap.size + 1) 0 0 ∧
    Below w.heap.size w (set2 (set6 W1 w.heap.size (.int .i64 0) (.int .i64 0) (.int .i64 0) (.int .i64 0) (.int .i64 0) (.slice none 0 0)) (w.heap.size + 1) (.int .i64 z) (.int .i64 k)) := by
  have h1 := h.grow hb
  have h2 := below_one h1.bel (only6 W1 w.heap.size (.int .i64 0) (.int .i64 0) (.int .i64 0) (.int .i64 0) (.int .i64 0) (.slice none 0 0)) (Nat.le_refl _) h1.bel.size
  exact ⟨h1.ins, h1.fau, below_one h2 (only2 _ _ _ _) (Nat.le_succ _) h2.size⟩
set_option maxRecDepth 100000 in
set_option maxHeartbeats 4000000 in
theorem rget7_early (X : Value) (b : List Int) (k : Int) (w : World) (hX : IsBytes w w.heap.size X b) (h : k < 0 ∨ b.length < k ∨ k = b.length ∨ 33 ≤ b.getD k.toNat 0) :
    Calls Try.prog 23 #[X, .int .i64 k] w (GotDone w (gotV b k)) := by
  have hb0 : Below w.heap.size w ((w.alloc (.cells (insCells 0 0 0 0 0 (.slice none 0 0)) 35)).alloc (.cells #[.int .i64 0, .int .i64 0] 41)) := ((Below.refl _ w).alloc (Nat.le_refl _) _).alloc (by simp) _
  have hm := hX.2.1
  unfold maxLen at hm
  have hF := fun z k W => rfault_any z k W
  have HF := Lib.hid hF
  have HB0 := Lib.hid hb0
  obtain ⟨A, cap, hXe⟩ := hX.len
  subst hXe
  have HX := Lib.hid hX
  clear hF
  have hi0 : ((w.alloc (.cells (insCells 0 0 0 0 0 (.slice none 0 0)) 35)).alloc (.cells #[.int .i64 0, .int .i64 0] 41)).heap[w.heap.size]? = some (.cells (insCells 0 0 0 0 0 (.slice none 0 0)) 35 (0, 0)) := by
    rw [Below.heap_alloc _ _ _ (by simp)]
    exact heap_alloc_new _ _
  have hf0 : flt ((w.alloc (.cells (insCells 0 0 0 0 0 (.slice none 0 0)) 35)).alloc (.cells #[.int .i64 0, .int .i64 0] 41)) (w.heap.size + 1) 0 0 := by
    have := heap_alloc_new (w.alloc (.cells (insCells 0 0 0 0 0 (.slice none 0 0)) 35)) (.cells #[.int .i64 0, .int .i64 0] 41)
    rw [World.size_alloc] at this
    exact this
  have H0 := Lib.hid (Early.mk hi0 hf0 hb0)
  clear hb0 hi0 hf0
  by_cases h1 : k < 0
  · have HG : Hid ((gotV b k).err = 2 ∧ (gotV b k).at_ = 0) := Lib.hid (by unfold gotV; rw [if_pos (.inl h1)]; exact ⟨rfl, rfl⟩)
    clear h hX
    go_enter Try.func23, Try.ntmps23
    go_wp2_with (go_at_call 47; (with_reducible refine (HF.out _ _ _).mono ?_); rintro e w1 ⟨rfl, hb⟩; have HE := Lib.hid (early_end H0.out hb 2 0); have hr1 := HE.out.1; have hf1 := HE.out.2.1; obtain ⟨d0, d1, d2, d3, d4, d5⟩ := cells6 hr1; have g0 := free6 hr1 0; have g1 := free6 hr1 1; have g2 := free6 hr1 2; have g3 := free6 hr1 3; have g4 := free6 hr1 4; have g5 := free6 hr1 5; have q0 := flt0 hf1; have q1 := flt1 hf1; have r0 := fltf hf1 0; have r1 := fltf hf1 1; clear hb hr1 hf1)
    refine bodyPost_ret (v := .tuple #[.agg (insCells 0 0 0 0 0 (.slice none 0 0)), .int .i64 0, .agg #[.int .i64 2, .int .i64 0]]) (by simp [results, Try.results23, go_sem, d0, d1, d2, d3, d4, d5, q0, q1]) rfl ?_
    exact got_bad HG.out (by decide) HE.out.2.2 rfl
  by_cases h2 : (b.length : Int) < k
  · have HG : Hid ((gotV b k).err = 2 ∧ (gotV b k).at_ = 0) := Lib.hid (by unfold gotV; rw [if_pos (.inr h2)]; exact ⟨rfl, rfl⟩)
    clear h hX
    go_enter Try.func23, Try.ntmps23
    go_wp2_with (go_at_call 47; (with_reducible refine (HF.out _ _ _).mono ?_); rintro e w1 ⟨rfl, hb⟩; have HE := Lib.hid (early_end H0.out hb 2 0); have hr1 := HE.out.1; have hf1 := HE.out.2.1; obtain ⟨d0, d1, d2, d3, d4, d5⟩ := cells6 hr1; have g0 := free6 hr1 0; have g1 := free6 hr1 1; have g2 := free6 hr1 2; have g3 := free6 hr1 3; have g4 := free6 hr1 4; have g5 := free6 hr1 5; have q0 := flt0 hf1; have q1 := flt1 hf1; have r0 := fltf hf1 0; have r1 := fltf hf1 1; clear hb hr1 hf1)
    refine bodyPost_ret (v := .tuple #[.agg (insCells 0 0 0 0 0 (.slice none 0 0)), .int .i64 0, .agg #[.int .i64 2, .int .i64 0]]) (by simp [results, Try.results23, go_sem, d0, d1, d2, d3, d4, d5, q0, q1]) rfl ?_
    exact got_bad HG.out (by decide) HE.out.2.2 rfl
  by_cases h3 : k = b.length
  · have HG : Hid ((gotV b k).err = 4 ∧ (gotV b k).at_ = b.length) := Lib.hid (by
      unfold gotV
      rw [if_neg (by omega)]
      unfold getI
      rw [if_pos (by omega)]
      exact ⟨rfl, rfl⟩)
    subst h3
    clear h hX h1 h2
    go_enter Try.func23, Try.ntmps23
    go_wp2_with (go_at_call 47; (with_reducible refine (HF.out _ _ _).mono ?_); rintro e w1 ⟨rfl, hb⟩; have HE := Lib.hid (early_end H0.out hb 4 b.length); have hr1 := HE.out.1; have hf1 := HE.out.2.1; obtain ⟨d0, d1, d2, d3, d4, d5⟩ := cells6 hr1; have g0 := free6 hr1 0; have g1 := free6 hr1 1; have g2 := free6 hr1 2; have g3 := free6 hr1 3; have g4 := free6 hr1 4; have g5 := free6 hr1 5; have q0 := flt0 hf1; have q1 := flt1 hf1; have r0 := fltf hf1 0; have r1 := fltf hf1 1; clear hb hr1 hf1)
    refine bodyPost_ret (v := .tuple #[.agg (insCells 0 0 0 0 0 (.slice none 0 0)), .int .i64 0, .agg #[.int .i64 4, .int .i64 b.length]]) (by simp [results, Try.results23, go_sem, d0, d1, d2, d3, d4, d5, q0, q1]) rfl ?_
    exact got_bad HG.out (by decide) HE.out.2.2 rfl
  have h4 : 33 ≤ b.getD k.toNat 0 := by
    rcases h with h | h | h | h
    · exact absurd h h1
    · exact absurd h h2
    · exact absurd h h3
    · exact h
  obtain ⟨kn, hkn⟩ : ∃ kn : Nat, k = kn := ⟨k.toNat, by omega⟩
  subst hkn
  rw [Int.toNat_natCast] at h4
  have HG : Hid ((gotV b kn).err = 16 ∧ (gotV b kn).at_ = kn) := Lib.hid (by
    unfold gotV
    rw [if_neg (by omega), Int.toNat_natCast]
    unfold getI
    rw [if_neg (by omega), if_pos h4]
    exact ⟨rfl, rfl⟩)
  obtain ⟨g, off, cap', hXe, hcp, hgB, hcl⟩ := hX.plain (by omega)
  cases hXe
  have hc1 : ((w.alloc (.cells (insCells 0 0 0 0 0 (.slice none 0 0)) 35)).alloc (.cells #[.int .i64 0, .int .i64 0] 41)).cell? ⟨g, off + kn, none⟩ = some (.int .u8 (b.getD kn 0)) := (H0.out.bel.cell (p := ⟨g, off + kn, none⟩) hgB).trans (hcl kn (by omega))
  have hx := hX.1 _ (getD_mem (show kn < b.length by omega))
  obtain ⟨op, hop⟩ : ∃ op, op = b.getD kn 0 := ⟨_, rfl⟩
  rw [← hop] at hc1 h4 hx
  have H1 := Lib.hid (H0.out.grow ((Below.refl _ _).alloc (Nat.le_refl _) (.cells (insCells op 0 0 0 0 (.slice none 0 0)) 35)))
  have hx1 := hx.1
  have hx2 := hx.2
  have k1 : (kn : Int) < (b.length : Int) := by omega
  have hne : ¬ (kn : Int) = (b.length : Int) := by omega
  have hnb : ((kn : Int) == (b.length : Int)) = false := by simpa using hne
  clear h hX h1 h2 h3 hcl hx hop hne
  go_enter Try.func23, Try.ntmps23
  go_wp2_with (go_at_call 47; (with_reducible refine (HF.out _ _ _).mono ?_); rintro e w1 ⟨rfl, hb⟩; have HE := Lib.hid (early_end H1.out hb 16 kn); have hr1 := HE.out.1; have hf1 := HE.out.2.1; obtain ⟨d0, d1, d2, d3, d4, d5⟩ := cells6 hr1; have g0 := free6 hr1 0; have g1 := free6 hr1 1; have g2 := free6 hr1 2; have g3 := free6 hr1 3; have g4 := free6 hr1 4; have g5 := free6 hr1 5; have q0 := flt0 hf1; have q1 := flt1 hf1; have r0 := fltf hf1 0; have r1 := fltf hf1 1; clear hb hr1 hf1)
  refine bodyPost_ret (v := .tuple #[.agg (insCells 0 0 0 0 0 (.slice none 0 0)), .int .i64 0, .agg #[.int .i64 16, .int .i64 kn]]) (by simp [results, Try.results23, go_sem, d0, d1, d2, d3, d4, d5, q0, q1]) rfl ?_
  exact got_bad HG.out (by decide) HE.out.2.2 rfl
end Go.Proofs.Ytobbjphpngckgaa
