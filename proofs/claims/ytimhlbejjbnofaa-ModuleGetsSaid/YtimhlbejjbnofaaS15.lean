/- Lemmas of Ref07C, Ref07D, Ref07E, each with its own remark. -/
import Derived.Test.YtimhlbejjbnofaaS14
import Derived.StillTailTactics
import Derived.Deep.RegionLaw
import Derived.Test.YtimhlbejjbnofaaS08
/- (Ref07C) The document's own Length and Get of layer 7. Contracts; no condition but that the bytes are few. -/
namespace Go.Proofs.Ytimhlbejjbnofaa
open Go.RowKit Go.Shelf
set_option linter.unusedVariables false
set_option linter.unusedSimpArgs false

/-- What the document's own Get has made. -/
structure RgAt (w W : World) (B ib : Nat) (X : Value) (b : List Int) (op n : Int) (V P : Value) (args rs : List Int) : Prop where
  ins : W.heap[w.heap.size]? = some (.cells (insCells 0 0 0 0 0 (.slice none 0 0)) 51 (0, 0))
  fau : flt W (w.heap.size + 1) 0 0
  box : W.heap[ib]? = some (.cells (insCells op 0 0 0 n V) 51 (0, 0))
  own : OutN B W V args
  reg : OutN B W P rs
  bel : Below w.heap.size w W
  lib : w.heap.size + 1 < ib
  lB : ib < B
  apart : ∀ g, V.ownBlock = some g → some g ≠ P.ownBlock
section
variable {w W W1 : World} {B ib : Nat} {X V P V1 P1 : Value} {b args rs args1 rs1 : List Int} {op n n1 : Int}
theorem RgAt.call (h : RgAt w W B ib X b op n V P args rs) (hb : Below W.heap.size W W1) : RgAt w W1 B ib X b op n V P args rs :=
  ⟨(hb.block _ (heap_lt h.ins)).trans h.ins, (hb.block _ (heap_lt h.fau)).trans h.fau, (hb.block _ (heap_lt h.box)).trans h.box, Owns.below h.own hb (Nat.le_refl _), Owns.below h.reg hb (Nat.le_refl _), h.bel.trans (hb.mono h.bel.size), h.lib, h.lB, h.apart⟩
theorem RgAt.drew (h : RgAt w W B ib X b op n V P args rs) : RgAt w W.drew B ib X b op n V P args rs := ⟨h.ins, h.fau, h.box, Owns.drew h.own, Owns.drew h.reg, h.bel.drew, h.lib, h.lB, h.apart⟩
theorem RgAt.size (h : RgAt w W B ib X b op n V P args rs) : ib < W.heap.size := heap_lt h.box
/-- A number is laid. -/
theorem RgAt.num (h : RgAt w W B ib X b op n V P args rs) : RgAt w (W.setCell ⟨ib, 4, none⟩ (.int .i64 n1)) B ib X b op n1 V P args rs := by
  have hb := only1 W ib 4 (.int .i64 n1)
  have := h.lib
  have := h.lB
  refine ⟨hb.heap h.ins (show ¬ w.heap.size = ib by omega), hb.heap h.fau (show ¬ w.heap.size + 1 = ib by omega), heap_setCell_same W ib 4 _ _ (.int .i64 n1) h.box, own_one h.own hb h.lB, own_one h.reg hb h.lB, below_one h.bel hb (by omega) h.bel.size, h.lib, h.lB, h.apart⟩
/-- A register more. -/
theorem RgAt.more (h : RgAt w W B ib X b op n V P args rs) (hBs : B ≤ W.heap.size) (ho : OutN B W1 P1 rs1) (hb : Below B W W1) (hk : ∀ i, i < W.heap.size → some i ≠ P.ownBlock → W1.heap[i]? = W.heap[i]?) (hs : W.heap.size ≤ W1.heap.size) (hw : P1.ownBlock = P.ownBlock ∨ P1.ownBlock = some (W.heap.size + 1)) : RgAt w W1 B ib X b op n V P1 args rs1 := by
  have h1 := h.lib
  have h2 := h.lB
  refine ⟨(hb.block _ (by omega)).trans h.ins, ?_, (hb.block _ (by omega)).trans h.box, ?_, ho, h.bel.trans (hb.mono (by omega)), h.lib, h.lB, fun g hg => ?_⟩
  · have := h.fau
    unfold flt at this ⊢
    rw [hb.block _ (by omega)]
    exact this
  · exact Owns.of_blocks h.own (fun g hg => hk g (h.own.lt hg).2 (h.apart g hg)) hs
  · rcases hw with hw | hw
    · rw [hw]; exact h.apart g hg
    · rw [hw]
      intro e
      have := (h.own.lt hg).2
      injection e with e
      omega
/-- An argument more, and the list in its field. -/
theorem RgAt.arg (h : RgAt w W B ib X b op n V P args rs) (hBs : B ≤ W.heap.size) (ho : OutN B W1 V1 args1) (hb : Below B W W1) (hk : ∀ i, i < W.heap.size → some i ≠ V.ownBlock → W1.heap[i]? = W.heap[i]?) (hs : W.heap.size ≤ W1.heap.size) (hw : V1.ownBlock = V.ownBlock ∨ V1.ownBlock = some (W.heap.size + 1)) :
    RgAt w (W1.setCell ⟨ib, 5, none⟩ V1) B ib X b op n V1 P args1 rs ∧ W1.heap[ib]? = some (.cells (insCells op 0 0 0 n V) 51 (0, 0)) := by
  have h1 := h.lib
  have h2 := h.lB
  have hbox := (hb.block _ (by omega)).trans h.box
  have hi := only1 W1 ib 5 V1
  have hap : ∀ g, V1.ownBlock = some g → some g ≠ P.ownBlock := fun g hg => by
    rcases hw with hw | hw
    · exact h.apart g (by rw [← hw]; exact hg)
    · intro e
      rw [hg] at hw
      have := (h.reg.lt e.symm).2
      injection hw with hw
      omega
  refine ⟨⟨hi.heap ((hb.block _ (by omega)).trans h.ins) (show ¬ w.heap.size = ib by omega), hi.heap ?_ (show ¬ w.heap.size + 1 = ib by omega), heap_setCell_same W1 ib 5 _ _ V1 hbox, own_one ho hi h.lB, own_one (Owns.of_blocks h.reg (fun g hg => hk g (h.reg.lt hg).2 (fun e => h.apart g e.symm hg.symm)) hs) hi h.lB, below_one (h.bel.trans (hb.mono (by omega))) hi (by omega) (Nat.le_trans h.bel.size hs), h.lib, h.lB, hap⟩, hbox⟩
  rw [hb.block _ (by omega)]
  exact h.fau
end
structure Early (w W : World) : Prop where
  ins : W.heap[w.heap.size]? = some (.cells (insCells 0 0 0 0 0 (.slice none 0 0)) 51 (0, 0))
  fau : flt W (w.heap.size + 1) 0 0
  bel : Below w.heap.size w W
theorem Early.grow {w W W1 : World} (h : Early w W) (hb : Below W.heap.size W W1) : Early w W1 := ⟨(hb.block _ (heap_lt h.ins)).trans h.ins, (hb.block _ (heap_lt h.fau)).trans h.fau, h.bel.trans (hb.mono h.bel.size)⟩
theorem early_end {w W W1 : World} (h : Early w W) (hb : Below W.heap.size W W1) (z k : Int) :
    W1.heap[w.heap.size]? = some (.cells (insCells 0 0 0 0 0 (.slice none 0 0)) 51 (0, 0)) ∧ flt W1 (w.heap.size + 1) 0 0 ∧
    Below w.heap.size w (set2 (set6 W1 w.heap.size (.int .i64 0) (.int .i64 0) (.int .i64 0) (.int .i64 0) (.int .i64 0) (.slice none 0 0)) (w.heap.size + 1) (.int .i64 z) (.int .i64 k)) := by
  have h1 := h.grow hb
  have h2 := below_one h1.bel (only6 W1 w.heap.size (.int .i64 0) (.int .i64 0) (.int .i64 0) (.int .i64 0) (.int .i64 0) (.slice none 0 0)) (Nat.le_refl _) h1.bel.size
  exact ⟨h1.ins, h1.fau, below_one h2 (only2 _ _ _ _) (Nat.le_succ _) h2.size⟩
set_option maxRecDepth 100000 in
set_option maxHeartbeats 4000000 in
theorem rget7_early (X : Value) (b : List Int) (k : Int) (w : World) (hX : IsBytes w w.heap.size X b) (h : k < 0 ∨ b.length < k ∨ k = b.length ∨ 33 ≤ b.getD k.toNat 0) :
    Calls Try.prog 88 #[X, .int .i64 k] w (GotDone w (gotV b k)) := by
  have hb0 : Below w.heap.size w ((w.alloc (.cells (insCells 0 0 0 0 0 (.slice none 0 0)) 51)).alloc (.cells #[.int .i64 0, .int .i64 0] 38)) := ((Below.refl _ w).alloc (Nat.le_refl _) _).alloc (by simp) _
  have hm := hX.2.1
  unfold maxLen at hm
  have hF := fun z k W => rfault_any z k W
  have HF := Lib.hid hF
  have HB0 := Lib.hid hb0
  obtain ⟨A, cap, hXe⟩ := hX.len
  subst hXe
  have HX := Lib.hid hX
  clear hF
  have hi0 : ((w.alloc (.cells (insCells 0 0 0 0 0 (.slice none 0 0)) 51)).alloc (.cells #[.int .i64 0, .int .i64 0] 38)).heap[w.heap.size]? = some (.cells (insCells 0 0 0 0 0 (.slice none 0 0)) 51 (0, 0)) := by
    rw [Below.heap_alloc _ _ _ (by simp)]
    exact heap_alloc_new _ _
  have hf0 : flt ((w.alloc (.cells (insCells 0 0 0 0 0 (.slice none 0 0)) 51)).alloc (.cells #[.int .i64 0, .int .i64 0] 38)) (w.heap.size + 1) 0 0 := by
    have := heap_alloc_new (w.alloc (.cells (insCells 0 0 0 0 0 (.slice none 0 0)) 51)) (.cells #[.int .i64 0, .int .i64 0] 38)
    rw [World.size_alloc] at this
    exact this
  have H0 := Lib.hid (Early.mk hi0 hf0 hb0)
  clear hb0 hi0 hf0
  by_cases h1 : k < 0
  · have HG : Hid ((gotV b k).err = 2 ∧ (gotV b k).at_ = 0) := Lib.hid (by unfold gotV; rw [if_pos (.inl h1)]; exact ⟨rfl, rfl⟩)
    clear h hX
    go_enter Try.func88, Try.ntmps88
    go_wp2_with (go_at_call 98; (with_reducible refine (HF.out _ _ _).mono ?_); rintro e w1 ⟨rfl, hb⟩; have HE := Lib.hid (early_end H0.out hb 2 0); have hr1 := HE.out.1; have hf1 := HE.out.2.1; obtain ⟨d0, d1, d2, d3, d4, d5⟩ := cells6 hr1; have g0 := free6 hr1 0; have g1 := free6 hr1 1; have g2 := free6 hr1 2; have g3 := free6 hr1 3; have g4 := free6 hr1 4; have g5 := free6 hr1 5; have q0 := flt0 hf1; have q1 := flt1 hf1; have r0 := fltf hf1 0; have r1 := fltf hf1 1; clear hb hr1 hf1)
    refine bodyPost_ret (v := .tuple #[.agg (insCells 0 0 0 0 0 (.slice none 0 0)), .int .i64 0, .agg #[.int .i64 2, .int .i64 0]]) (by simp [results, Try.results88, go_sem, d0, d1, d2, d3, d4, d5, q0, q1]) rfl ?_
    exact got_bad HG.out (by decide) HE.out.2.2 rfl
  by_cases h2 : (b.length : Int) < k
  · have HG : Hid ((gotV b k).err = 2 ∧ (gotV b k).at_ = 0) := Lib.hid (by unfold gotV; rw [if_pos (.inr h2)]; exact ⟨rfl, rfl⟩)
    clear h hX
    go_enter Try.func88, Try.ntmps88
    go_wp2_with (go_at_call 98; (with_reducible refine (HF.out _ _ _).mono ?_); rintro e w1 ⟨rfl, hb⟩; have HE := Lib.hid (early_end H0.out hb 2 0); have hr1 := HE.out.1; have hf1 := HE.out.2.1; obtain ⟨d0, d1, d2, d3, d4, d5⟩ := cells6 hr1; have g0 := free6 hr1 0; have g1 := free6 hr1 1; have g2 := free6 hr1 2; have g3 := free6 hr1 3; have g4 := free6 hr1 4; have g5 := free6 hr1 5; have q0 := flt0 hf1; have q1 := flt1 hf1; have r0 := fltf hf1 0; have r1 := fltf hf1 1; clear hb hr1 hf1)
    refine bodyPost_ret (v := .tuple #[.agg (insCells 0 0 0 0 0 (.slice none 0 0)), .int .i64 0, .agg #[.int .i64 2, .int .i64 0]]) (by simp [results, Try.results88, go_sem, d0, d1, d2, d3, d4, d5, q0, q1]) rfl ?_
    exact got_bad HG.out (by decide) HE.out.2.2 rfl
  by_cases h3 : k = b.length
  · have HG : Hid ((gotV b k).err = 4 ∧ (gotV b k).at_ = b.length) := Lib.hid (by
      unfold gotV
      rw [if_neg (by omega)]
      unfold getI
      rw [if_pos (by omega)]
      exact ⟨rfl, rfl⟩)
    subst h3
    clear h hX h1 h2
    go_enter Try.func88, Try.ntmps88
    go_wp2_with (go_at_call 98; (with_reducible refine (HF.out _ _ _).mono ?_); rintro e w1 ⟨rfl, hb⟩; have HE := Lib.hid (early_end H0.out hb 4 b.length); have hr1 := HE.out.1; have hf1 := HE.out.2.1; obtain ⟨d0, d1, d2, d3, d4, d5⟩ := cells6 hr1; have g0 := free6 hr1 0; have g1 := free6 hr1 1; have g2 := free6 hr1 2; have g3 := free6 hr1 3; have g4 := free6 hr1 4; have g5 := free6 hr1 5; have q0 := flt0 hf1; have q1 := flt1 hf1; have r0 := fltf hf1 0; have r1 := fltf hf1 1; clear hb hr1 hf1)
    refine bodyPost_ret (v := .tuple #[.agg (insCells 0 0 0 0 0 (.slice none 0 0)), .int .i64 0, .agg #[.int .i64 4, .int .i64 b.length]]) (by simp [results, Try.results88, go_sem, d0, d1, d2, d3, d4, d5, q0, q1]) rfl ?_
    exact got_bad HG.out (by decide) HE.out.2.2 rfl
  have h4 : 33 ≤ b.getD k.toNat 0 := by
    rcases h with h | h | h | h
    · exact absurd h h1
    · exact absurd h h2
    · exact absurd h h3
    · exact h
  obtain ⟨kn, hkn⟩ : ∃ kn : Nat, k = kn := ⟨k.toNat, by omega⟩
  subst hkn
  rw [Int.toNat_natCast] at h4
  have HG : Hid ((gotV b kn).err = 16 ∧ (gotV b kn).at_ = kn) := Lib.hid (by
    unfold gotV
    rw [if_neg (by omega), Int.toNat_natCast]
    unfold getI
    rw [if_neg (by omega), if_pos h4]
    exact ⟨rfl, rfl⟩)
  obtain ⟨g, off, cap', hXe, hcp, hgB, hcl⟩ := hX.plain (by omega)
  cases hXe
  have hc1 : ((w.alloc (.cells (insCells 0 0 0 0 0 (.slice none 0 0)) 51)).alloc (.cells #[.int .i64 0, .int .i64 0] 38)).cell? ⟨g, off + kn, none⟩ = some (.int .u8 (b.getD kn 0)) := (H0.out.bel.cell (p := ⟨g, off + kn, none⟩) hgB).trans (hcl kn (by omega))
  have hx := hX.1 _ (getD_mem (show kn < b.length by omega))
  obtain ⟨op, hop⟩ : ∃ op, op = b.getD kn 0 := ⟨_, rfl⟩
  rw [← hop] at hc1 h4 hx
  have H1 := Lib.hid (H0.out.grow ((Below.refl _ _).alloc (Nat.le_refl _) (.cells (insCells op 0 0 0 0 (.slice none 0 0)) 51)))
  have hx1 := hx.1
  have hx2 := hx.2
  have k1 : (kn : Int) < (b.length : Int) := by omega
  have hne : ¬ (kn : Int) = (b.length : Int) := by omega
  have hnb : ((kn : Int) == (b.length : Int)) = false := by simpa using hne
  clear h hX h1 h2 h3 hcl hx hop hne
  go_enter Try.func88, Try.ntmps88
  go_wp2_with (go_at_call 98; (with_reducible refine (HF.out _ _ _).mono ?_); rintro e w1 ⟨rfl, hb⟩; have HE := Lib.hid (early_end H1.out hb 16 kn); have hr1 := HE.out.1; have hf1 := HE.out.2.1; obtain ⟨d0, d1, d2, d3, d4, d5⟩ := cells6 hr1; have g0 := free6 hr1 0; have g1 := free6 hr1 1; have g2 := free6 hr1 2; have g3 := free6 hr1 3; have g4 := free6 hr1 4; have g5 := free6 hr1 5; have q0 := flt0 hf1; have q1 := flt1 hf1; have r0 := fltf hf1 0; have r1 := fltf hf1 1; clear hb hr1 hf1)
  refine bodyPost_ret (v := .tuple #[.agg (insCells 0 0 0 0 0 (.slice none 0 0)), .int .i64 0, .agg #[.int .i64 16, .int .i64 kn]]) (by simp [results, Try.results88, go_sem, d0, d1, d2, d3, d4, d5, q0, q1]) rfl ?_
  exact got_bad HG.out (by decide) HE.out.2.2 rfl
end Go.Proofs.Ytimhlbejjbnofaa

/- (Ref07D) The document's own Get of layer 7, where an operation stands at the place. Contracts; no condition but that the bytes are few. -/
namespace Go.Proofs.Ytimhlbejjbnofaa
open Go.RowKit Go.Shelf
set_option linter.unusedVariables false
set_option linter.unusedSimpArgs false

theorem width_cases (q : Int) : widthV q = 1 ∨ widthV q = 2 ∨ widthV q = 8 := by unfold widthV; (repeat' split) <;> omega
theorem readQ_l_end {b : List Int} {s : RdV} (h : b.length < s.pos + 1) : readQ b 108 s = (4, s) := by unfold readQ; rw [if_pos rfl, if_pos h]
theorem readQ_l_many {b : List Int} {s : RdV} (h : s.pos + 1 ≤ b.length) (h8 : 8 < b.getD s.pos 0) : readQ b 108 s = (3, s) := by unfold readQ; rw [if_pos rfl, if_neg (by omega), if_pos h8]
theorem readQ_l_cut {b : List Int} {s : RdV} (h : s.pos + 1 ≤ b.length) (h8 : ¬ 8 < b.getD s.pos 0) (hc : b.length < s.pos + 1 + (b.getD s.pos 0).toNat) : readQ b 108 s = (4, s) := by unfold readQ; rw [if_pos rfl, if_neg (by omega), if_neg h8, if_pos hc]
theorem readQ_l_yes {b : List Int} {s : RdV} (h : s.pos + 1 ≤ b.length) (h8 : ¬ 8 < b.getD s.pos 0) (hc : s.pos + 1 + (b.getD s.pos 0).toNat ≤ b.length) : readQ b 108 s = (0, ⟨s.pos + 1 + (b.getD s.pos 0).toNat, s.rs, s.n, (b.drop (s.pos + 1)).take (b.getD s.pos 0).toNat⟩) := by unfold readQ; rw [if_pos rfl, if_neg (by omega), if_neg h8, if_neg (by omega)]
theorem wrap_in (x : Int) : InI (wrapI x) := by unfold InI wrapI; rw [IntKind.wrap_i64]; omega
theorem early_of {w W : World} {B ib : Nat} {X V P : Value} {b args rs : List Int} {op n : Int} (h : RgAt w W B ib X b op n V P args rs) : Early w W := ⟨h.ins, h.fau, h.bel⟩
theorem rget_part {w W : World} {g off cap : Nat} {b : List Int} (hX : IsBytes w w.heap.size (.slice (some ⟨g, off, none⟩) b.length cap) b) (hcl : ∀ i, i < b.length → w.cell? ⟨g, off + i, none⟩ = some (.int .u8 (b.getD i 0))) (hgB : g < w.heap.size) (hb : Below w.heap.size w W) (hcp : b.length ≤ cap) {p s qq : Nat} (hs : sizedB s = true) (hle : p + s ≤ b.length) (hq : qq = p + s) :
    Calls Try.prog 99 #[.slice (some ⟨g, off + p, none⟩) (qq - p) (cap - p)] W fun e w' => e = .returned (.tuple #[.int .u64 (numV ((b.drop p).take s)), .int .i64 0]) ∧ W = w' := by
  have hB : IsBytes W w.heap.size (.slice (some ⟨g, off, none⟩) b.length cap) b := hX.below hb (Nat.le_refl _)
  have hcl' : ∀ i, i < b.length → W.cell? ⟨g, off + i, none⟩ = some (.int .u8 (b.getD i 0)) := fun i hi => (hb.cell (p := ⟨g, off + i, none⟩) hgB).trans (hcl i hi)
  have hg := rget_any _ _ W _ (bytes_part hB hcl' hgB hle (show s ≤ cap - p by omega))
  have hl : ((b.drop p).take s).length = s := part_len hle
  rw [(getV_num (xs := (b.drop p).take s) (by rw [hl]; exact hs)).1, (getV_num (xs := (b.drop p).take s) (by rw [hl]; exact hs)).2] at hg
  rw [show qq - p = s by omega]
  exact hg
/-- An append of one number, as a step of a region that draws. -/
theorem step_outW {W : World} {ops : Array Oper} {o : Oper} {a : Act} {K : Act → World → Prop} {Q : Exit → Act → World → Prop} {E : Prop} (hgd : o.guard = none) (s x : Operand)
    (ho : o.op = .call { callee := .builtin .append, args := #[s, x], argTypes := #[49, 49] }) {V : Value} {xs : List Int} {z : Int} {base : Nat} (hs : a.eval s = V) (hx : a.eval x = .slice (some ⟨W.heap.size, 0, none⟩) 1 1) (h : OutN base W V xs)
    (hb : base ≤ W.heap.size) (hl : xs.length ≤ 1000000)
    (hK : ∀ V' W', OutN base W' V' (xs ++ [z]) → Below base W W' → (∀ i, i < W.heap.size → some i ≠ V.ownBlock → W'.heap[i]? = W.heap[i]?) → W.heap.size ≤ W'.heap.size → (V'.ownBlock = V.ownBlock ∨ V'.ownBlock = some (W.heap.size + 1)) → K (a.put o.dst V') W') :
    if Region.wanted o (yielded ops a.tmps) = true then Oper.wp Try.prog o a (W.alloc (.cells #[.int .i64 z] 3)) K Q else E := by
  rw [if_pos (by simp [Region.wanted, hgd])]
  obtain ⟨i, hi, h1, h2, h3⟩ := info_parts int_info
  have ha : Below W.heap.size W (W.alloc (.cells #[.int .i64 z] 3)) := (Below.refl W.heap.size W).alloc (Nat.le_refl _) (.cells #[.int .i64 z] 3)
  have hg := Owns.below h ha (Nat.le_refl _)
  obtain ⟨V', W', hr, ho', hg'⟩ := run_append_q (P := Try.prog) _ base 49 o.type 3 i _ 1 8 Try.underlying49 hi h1 h2 h3 rfl (by decide) (IsNum .i64) (zero_num .i64) V xs.length (xs.map (Value.int .i64)) hg ⟨W.heap.size, 0, none⟩ 1 1 [.int .i64 z] rfl (news_one _ _ _) (by intro u hu; simp at hu; subst hu; rfl) (by intro u hu; simp at hu; subst hu; exact ⟨_, rfl⟩) (by unfold maxLen; omega) (by omega) (by simp; omega)
  obtain ⟨V2, W2, hr2, _, _, hw2⟩ := run_append_where (P := Try.prog) _ base 49 o.type 3 i _ 1 8 Try.underlying49 hi h1 h2 h3 rfl (by decide) V xs.length (xs.map (Value.int .i64)) hg.1 ⟨W.heap.size, 0, none⟩ 1 1 (by decide) [.int .i64 z] rfl (news_one _ _ _) (by intro u hu; simp at hu; subst hu; rfl) (by unfold maxLen; omega) (by omega) (by simp; omega)
  rw [hr] at hr2
  injection hr2 with e1 e2
  subst e1 e2
  have e : World.grownBy (W.alloc (.cells #[.int .i64 z] 3)) W' V.ownBlock := hg'
  unfold Oper.wp execOp
  simp only [ho, resolve, invoke, builtin, Sem.run_bind, Sem.run_pure, Result.andThen_ok, List.map_toArray, List.map_cons, List.map_nil, hs, hx, hr]
  exact hK V' W' (by rw [OutN, List.length_append, List.map_append]; exact ho') ((ha.mono hb).grown e (by simp; omega) fun j hj => (h.lt hj).1) (fun i hi hn => (e.block i (by simp; omega) hn).trans (ha.block i hi)) (Nat.le_trans (by simp) e.size) (by simpa using hw2)
theorem not_again {L : List Int} (h : GoodL (108 :: L)) : 108 ∉ L := by
  intro hm
  have h1 := h.one
  rw [List.filter_cons_of_pos (by decide), List.length_cons] at h1
  have : (108 : Int) ∈ L.filter (fun q => q == 108) := List.mem_filter.2 ⟨hm, by decide⟩
  have := List.length_pos_of_mem this
  omega
theorem part_snoc {b : List Int} {p i : Nat} (h : p + i < b.length) : (b.drop p).take (i + 1) = (b.drop p).take i ++ [b.getD (p + i) 0] := by
  rw [take_snoc' (by simp; omega)]
  simp [List.getD]
theorem news_three (w : World) (x y z : Value) (t : TypeId) : ∀ j u, [x, y, z][j]? = some u → (w.alloc (.cells #[x, y, z] t)).cell? ((⟨w.heap.size, 0, none⟩ : Addr).add j) = some u :=
  World.news_of_block (cs := #[x, y, z]) (heap_alloc_new w _)
/-- An append of three zeros, at the operation. -/
theorem wpList_out3 {W : World} {ops : Array Oper} {rest : List Oper} {o : Oper} {a : Act} {Q : Exit → Act → World → Prop} (hgd : o.guard = none) (s x : Operand)
    (ho : o.op = .call { callee := .builtin .append, args := #[s, x], argTypes := #[49, 49] }) {V : Value} {xs : List Int} {base : Nat} (hs : a.eval s = V) (hx : a.eval x = .slice (some ⟨W.heap.size, 0, none⟩) 3 3) (h : OutN base W V xs)
    (hb : base ≤ W.heap.size) (hl : xs.length ≤ 1000000)
    (hK : ∀ g cap W', OutN base W' (.slice (some ⟨g, 0, none⟩) (xs.length + 3) cap) (xs ++ [0, 0, 0]) → xs.length + 3 ≤ cap → Below base W W' → (∀ i, i < W.heap.size → some i ≠ V.ownBlock → W'.heap[i]? = W.heap[i]?) → W.heap.size ≤ W'.heap.size → (some g = V.ownBlock ∨ g = W.heap.size + 1) → wpList Try.prog ops Q rest (a.put o.dst (.slice (some ⟨g, 0, none⟩) (xs.length + 3) cap)) W') :
    wpList Try.prog ops Q (o :: rest) a (W.alloc (.cells #[.int .i64 0, .int .i64 0, .int .i64 0] 3)) := by
  obtain ⟨i, hi, h1, h2, h3⟩ := info_parts int_info
  have ha : Below W.heap.size W (W.alloc (.cells #[.int .i64 0, .int .i64 0, .int .i64 0] 3)) := (Below.refl W.heap.size W).alloc (Nat.le_refl _) (.cells #[.int .i64 0, .int .i64 0, .int .i64 0] 3)
  have hg := Owns.below h ha (Nat.le_refl _)
  refine wpList_plain hgd fun _ hK' => ?_
  obtain ⟨V', W', hr, ho', hg'⟩ := run_append_q (P := Try.prog) _ base 49 o.type 3 i _ 1 8 Try.underlying49 hi h1 h2 h3 rfl (by decide) (IsNum .i64) (zero_num .i64) V xs.length (xs.map (Value.int .i64)) hg ⟨W.heap.size, 0, none⟩ 3 3 [.int .i64 0, .int .i64 0, .int .i64 0] rfl (news_three _ _ _ _ _) (by intro u hu; simp at hu; subst hu; rfl) (by intro u hu; simp at hu; subst hu; exact ⟨_, rfl⟩) (by unfold maxLen; omega) (by omega) (by simp; omega)
  obtain ⟨V2, W2, hr2, _, _, hw2⟩ := run_append_where (P := Try.prog) _ base 49 o.type 3 i _ 1 8 Try.underlying49 hi h1 h2 h3 rfl (by decide) V xs.length (xs.map (Value.int .i64)) hg.1 ⟨W.heap.size, 0, none⟩ 3 3 (by decide) [.int .i64 0, .int .i64 0, .int .i64 0] rfl (news_three _ _ _ _ _) (by intro u hu; simp at hu; subst hu; rfl) (by unfold maxLen; omega) (by omega) (by simp; omega)
  rw [hr] at hr2
  injection hr2 with e1 e2
  subst e1 e2
  have e : World.grownBy (W.alloc (.cells #[.int .i64 0, .int .i64 0, .int .i64 0] 3)) W' V.ownBlock := hg'
  unfold Oper.wp execOp
  simp only [ho, resolve, invoke, builtin, Sem.run_bind, Sem.run_pure, Result.andThen_ok, List.map_toArray, List.map_cons, List.map_nil, hs, hx, hr]
  have ho2 : OutN base W' V' (xs ++ [0, 0, 0]) := by rw [OutN, List.length_append, List.map_append]; exact ho'
  rcases ho'.1.2 with ⟨rfl, h0⟩ | ⟨g, cap, cur, rfl, q1, q2, q3, q4, q5, q6⟩
  · omega
  · exact hK' _ _ (hK g cap W' ho2 q3 ((ha.mono hb).grown e (by simp; omega) fun j hj => (h.lt hj).1) (fun i hi hn => (e.block i (by simp; omega) hn).trans (ha.block i hi)) (Nat.le_trans (by simp) e.size) (by simpa [Value.ownBlock, eq_comm] using hw2))
theorem pad_at (rs : List Int) (j : Nat) : (rs ++ [0, 0, 0]).getD j 0 = rs.getD j 0 := by
  by_cases h : j < rs.length
  · simp [List.getD, List.getElem?_append_left h]
  · rw [List.getD, List.getD, List.getElem?_append_right (by omega), List.getElem?_eq_none (by omega : rs.length ≤ j)]
    rcases (show j - rs.length = 0 ∨ j - rs.length = 1 ∨ j - rs.length = 2 ∨ 3 ≤ j - rs.length by omega) with e | e | e | e
    · rw [e]; rfl
    · rw [e]; rfl
    · rw [e]; rfl
    · rw [List.getElem?_eq_none (by simpa using e)]
theorem pad_cells {base g cap n : Nat} {W : World} {rs : List Int} (h : OutN base W (.slice (some ⟨g, 0, none⟩) n cap) (rs ++ [0, 0, 0])) : W.cell? ⟨g, 0, none⟩ = some (.int .i64 (rs.getD 0 0)) ∧ W.cell? ⟨g, 1, none⟩ = some (.int .i64 (rs.getD 1 0)) ∧ W.cell? ⟨g, 2, none⟩ = some (.int .i64 (rs.getD 2 0)) := by
  have hc : ∀ j, j < 3 → W.cell? ⟨g, j, none⟩ = some (.int .i64 (rs.getD j 0)) := by
    intro j hj
    have hl : j < (rs ++ [0, 0, 0]).length := by simp; omega
    have := h.1.cells (g := g) rfl j (.int .i64 ((rs ++ [0, 0, 0]).getD j 0)) (by rw [List.getElem?_map, List.getElem?_eq_getElem hl]; simp [List.getD, List.getElem?_eq_getElem hl])
    rw [pad_at] at this
    rw [← this]
    congr 1
    unfold Addr.add
    split <;> simp_all
  exact ⟨hc 0 (by omega), hc 1 (by omega), hc 2 (by omega)⟩
/-- What the document's own Get has made at its end. -/
structure FinAt (w W : World) (B ib : Nat) (op a b c n : Int) (V : Value) (args : List Int) : Prop where
  ins : W.heap[w.heap.size]? = some (.cells (insCells 0 0 0 0 0 (.slice none 0 0)) 51 (0, 0))
  fau : flt W (w.heap.size + 1) 0 0
  box : W.heap[ib]? = some (.cells (insCells op a b c n V) 51 (0, 0))
  own : OutN B W V args
  bel : Below w.heap.size w W
  lB : w.heap.size + 1 < B
theorem FinAt.grow {w W W1 : World} {B ib : Nat} {op a b c n : Int} {V : Value} {args : List Int} (h : FinAt w W B ib op a b c n V args) (hb : Below W.heap.size W W1) : FinAt w W1 B ib op a b c n V args :=
  ⟨(hb.block _ (heap_lt h.ins)).trans h.ins, (hb.block _ (heap_lt h.fau)).trans h.fau, (hb.block _ (heap_lt h.box)).trans h.box, Owns.below h.own hb (Nat.le_refl _), h.bel.trans (hb.mono h.bel.size), h.lB⟩
theorem FinAt.nums {w W : World} {B ib : Nat} {op a b c n : Int} {V : Value} {args : List Int} (h : FinAt w W B ib op a b c n V args) : IsNums .i64 W W.heap.size V args := IsNums.of_owns h.own (Nat.le_refl _)
theorem FinAt.early {w W : World} {B ib : Nat} {op a b c n : Int} {V : Value} {args : List Int} (h : FinAt w W B ib op a b c n V args) : Early w W := ⟨h.ins, h.fau, h.bel⟩
theorem RgAt.fin {w W : World} {B ib : Nat} {X V P : Value} {b args rs : List Int} {op n : Int} (h : RgAt w W B ib X b op n V P args rs) (a b' c : Int) : FinAt w (((W.setCell ⟨ib, 1, none⟩ (.int .i64 a)).setCell ⟨ib, 2, none⟩ (.int .i64 b')).setCell ⟨ib, 3, none⟩ (.int .i64 c)) B ib op a b' c n V args := by
  have hb := (((But.refl (OneBlock ib) W).setCell (p := ⟨ib, 1, none⟩) (.inl rfl) (.int .i64 a)).setCell (p := ⟨ib, 2, none⟩) (.inl rfl) (.int .i64 b')).setCell (p := ⟨ib, 3, none⟩) (.inl rfl) (.int .i64 c)
  have h1 := h.lib
  have h2 := h.lB
  refine ⟨hb.heap h.ins (show ¬ w.heap.size = ib by omega), hb.heap h.fau (show ¬ w.heap.size + 1 = ib by omega), ?_, own_one h.own hb h.lB, below_one h.bel hb (by omega) h.bel.size, by omega⟩
  exact heap_setCell_same _ ib 3 _ _ (.int .i64 c) (heap_setCell_same _ ib 2 _ _ (.int .i64 b') (heap_setCell_same W ib 1 _ _ (.int .i64 a) h.box))
theorem fin_end {w W : World} {B ib : Nat} {op a b c n : Int} {V : Value} {args : List Int} (h : FinAt w W B ib op a b c n V args) :
    Below w.heap.size w (set2 (set6 W w.heap.size (.int .i64 op) (.int .i64 a) (.int .i64 b) (.int .i64 c) (.int .i64 n) V) (w.heap.size + 1) (.int .i64 0) (.int .i64 0)) ∧ OutN w.heap.size (set2 (set6 W w.heap.size (.int .i64 op) (.int .i64 a) (.int .i64 b) (.int .i64 c) (.int .i64 n) V) (w.heap.size + 1) (.int .i64 0) (.int .i64 0)) V args := by
  have h0 := h.lB
  have h1 := below_one h.bel (only6 W w.heap.size (.int .i64 op) (.int .i64 a) (.int .i64 b) (.int .i64 c) (.int .i64 n) V) (Nat.le_refl _) h.bel.size
  exact ⟨below_one h1 (only2 _ _ _ _) (Nat.le_succ _) h1.size, Owns.base (own_one (own_one h.own (only6 W w.heap.size (.int .i64 op) (.int .i64 a) (.int .i64 b) (.int .i64 c) (.int .i64 n) V) (by omega)) (only2 _ (w.heap.size + 1) (.int .i64 0) (.int .i64 0)) (by omega)) (by omega)⟩
theorem part_one7 {b : List Int} {p : Nat} (h : p < b.length) : numV ((b.drop p).take 1) = b.getD p 0 := by rw [show (b.drop p).take 1 = [b.getD p 0] from by rw [getD_cons h]; simp, numV_one]
set_option maxRecDepth 100000 in
set_option maxHeartbeats 16000000 in
theorem rget7_main (X : Value) (b : List Int) (k : Nat) (w : World) (hX : IsBytes w w.heap.size X b) (hs : b.length ≤ 1000000) (hk : k < b.length) (h33 : ¬ 33 ≤ b.getD k 0) :
    Calls Try.prog 88 #[X, .int .i64 k] w (GotDone w (getI b k)) := by
  have HF := Lib.hid (fun z k W => rfault_any z k W)
  obtain ⟨g, off, cap, hXe, hcp, hgB, hcl⟩ := hX.plain (by omega)
  subst hXe
  have hx := hX.1 _ (getD_mem hk)
  have HBY := Lib.hid hX.1
  have hg : getI b k = if (readL b (lettersOf (shapeI (b.getD k 0))) (startV k)).1 = 4 then ⟨4, b.length, .zero, 0⟩
      else if (readL b (lettersOf (shapeI (b.getD k 0))) (startV k)).1 = 3 then ⟨3, k, .zero, 0⟩
      else if (insOf (b.getD k 0) (readL b (lettersOf (shapeI (b.getD k 0))) (startV k)).2).chk ≠ 0 then ⟨5, k, .zero, 0⟩
      else ⟨0, 0, insOf (b.getD k 0) (readL b (lettersOf (shapeI (b.getD k 0))) (startV k)).2, (readL b (lettersOf (shapeI (b.getD k 0))) (startV k)).2.pos⟩ := by
    conv => lhs; unfold getI
    rw [if_neg (by omega), if_neg h33]
  have hb0 : Below w.heap.size w ((w.alloc (.cells (insCells 0 0 0 0 0 (.slice none 0 0)) 51)).alloc (.cells #[.int .i64 0, .int .i64 0] 38)) := ((Below.refl _ w).alloc (Nat.le_refl _) _).alloc (by simp) _
  have hc1 : ((w.alloc (.cells (insCells 0 0 0 0 0 (.slice none 0 0)) 51)).alloc (.cells #[.int .i64 0, .int .i64 0] 38)).cell? ⟨g, off + k, none⟩ = some (.int .u8 (b.getD k 0)) := (hb0.cell (p := ⟨g, off + k, none⟩) hgB).trans (hcl k hk)
  obtain ⟨op, hop⟩ : ∃ op, op = b.getD k 0 := ⟨_, rfl⟩
  rw [← hop] at hg hc1 h33 hx
  have hx1 := hx.1
  have hx2 := hx.2
  have h0 : RgAt w (((w.alloc (.cells (insCells 0 0 0 0 0 (.slice none 0 0)) 51)).alloc (.cells #[.int .i64 0, .int .i64 0] 38)).alloc (.cells (insCells op 0 0 0 0 (.slice none 0 0)) 51)) (w.heap.size + 3) (w.heap.size + 2) (.slice (some ⟨g, off, none⟩) b.length cap) b op 0 (.slice none 0 0) (.slice none 0 0) [] [] := by
    refine ⟨?_, ?_, ?_, Owns.nil _ _ _ _ _, Owns.nil _ _ _ _ _, hb0.alloc (by simp; omega) _, by omega, by omega, fun g hg => by simp [Value.ownBlock] at hg⟩
    · rw [Below.heap_alloc _ _ _ (by simp; omega), Below.heap_alloc _ _ _ (by simp)]
      exact heap_alloc_new _ _
    · show _ = _
      rw [Below.heap_alloc _ _ _ (by simp)]
      have := heap_alloc_new (w.alloc (.cells (insCells 0 0 0 0 0 (.slice none 0 0)) 51)) (.cells #[.int .i64 0, .int .i64 0] 38)
      rwa [World.size_alloc] at this
    · have := heap_alloc_new ((w.alloc (.cells (insCells 0 0 0 0 0 (.slice none 0 0)) 51)).alloc (.cells #[.int .i64 0, .int .i64 0] 38)) (.cells (insCells op 0 0 0 0 (.slice none 0 0)) 51)
      simpa using this
  have H0 := Lib.hid h0
  obtain ⟨sh, hsh⟩ : ∃ sh, sh = shapeI op := ⟨_, rfl⟩
  rw [← hsh] at hg
  have HS := Lib.hid (fun W => rshape_any op W)
  rw [← hsh] at HS
  have HSH := Lib.hid (show okShape sh = true by rw [hsh]; exact shapes_ok op)
  have HGL := Lib.hid (show GoodL (lettersOf sh) by rw [hsh]; exact goodL_of op)
  obtain ⟨r, hr⟩ : ∃ r, r = readL b (lettersOf sh) (startV k) := ⟨_, rfl⟩
  rw [← hr] at hg
  have HG := Lib.hid hg
  have HR0 := Lib.hid hr
  have HCL := Lib.hid hcl
  have HGB := Lib.hid hgB
  have HXB := Lib.hid hX
  have hss : sh.size ≤ 3 := by rw [hsh]; exact shapes_small op
  have k1 : (k : Int) < (b.length : Int) := by omega
  have hne : ((k : Int) == (b.length : Int)) = false := by simpa using (by omega : ¬ (k : Int) = (b.length : Int))
  have h33' : op < 33 := by omega
  have HKL := Lib.hid hk
  clear hX hcl hx hg hb0 hop h0 hsh hr h33 hgB
  go_enter Try.func88, Try.ntmps88
  go_wp2_with (go_at_call 75; (with_reducible refine (HS.out _).mono ?_); rintro e w1 ⟨rfl, rfl⟩)
  obtain ⟨ib, hib⟩ : ∃ ib, ib = w.heap.size + 2 := ⟨_, rfl⟩
  obtain ⟨BB, hBB⟩ : ∃ BB, BB = w.heap.size + 3 := ⟨_, rfl⟩
  have HIB := Lib.hid hib
  have HBB := Lib.hid (show BB = ib + 1 by omega)
  rw [← hib, ← hBB] at H0
  clear hib hBB
  go_loopw [9, 10, 11] (fun to R i wr => ∃ (m : Nat) (s : RdV) (V : Value), m ≤ sh.size ∧ i = .int .i64 m ∧ to = .int .i64 s.pos ∧ s.pos ≤ b.length ∧ s.rs.length ≤ m ∧ Hid (r = readL b ((lettersOf sh).drop m) s ∧ InI s.n ∧ (108 ∈ (lettersOf sh).drop m → s.args = []) ∧ RgAt w wr BB ib (.slice (some ⟨g, off, none⟩) b.length cap) b op s.n V R s.args s.rs)) (fun _ _ i _ => sh.size - (intOf i).toNat)
  case atStart => exact ⟨0, startV k, _, Nat.zero_le _, rfl, by simp [startV], by have := HKL.out; simp only [startV]; omega, by simp [startV], ⟨HR0.out, by simp only [startV]; unfold InI; omega, fun _ => rfl, H0.out⟩⟩
  case round =>
    obtain ⟨m, ⟨ps, rs, n, args⟩, V, hm, rfl, rfl, hps, hrl, HR⟩ := hrel
    dsimp only at hps hrl HR ⊢
    clear H0 HR0 hc1
    obtain ⟨hE, hN, hA, hR⟩ := HR.out
    have HE := Lib.hid hE
    have HN := Lib.hid hN
    have HR1 := Lib.hid hR
    by_cases hlt : m < sh.size
    · have hdr := letters_drop sh hlt
      rw [hdr] at hE hA
      obtain ⟨q, hq⟩ : ∃ q : Int, q = (sh[m].toNat : Int) := ⟨_, rfl⟩
      rw [← hq] at hE hA hdr
      have HE := Lib.hid hE
      have HA := Lib.hid hA
      have hgl := HGL.out
      have hGd : GoodL (q :: (lettersOf sh).drop (m + 1)) := by
        refine ⟨fun x hx => hgl.mem x (List.mem_of_mem_drop (by rw [hdr]; exact hx)), Nat.le_trans ?_ hgl.one, Nat.le_trans ?_ hgl.num⟩
        · exact ((by rw [← hdr]; exact List.drop_sublist _ _ : (q :: (lettersOf sh).drop (m + 1)).Sublist (lettersOf sh)).filter _).length_le
        · exact ((by rw [← hdr]; exact List.drop_sublist _ _ : (q :: (lettersOf sh).drop (m + 1)).Sublist (lettersOf sh)).filter _).length_le
      have HGD := Lib.hid hGd
      obtain ⟨d0, d1, d2, d3, d4, d5⟩ := cells6 hR.box
      clear hE hA hN hgl hGd hdr HR
      by_cases hq8 : q = 108
      · have HWd := Lib.hid (fun W => rwidth_any q W)
        rw [show rwidthV q = 0 by unfold rwidthV; rw [if_pos hq8], hq] at HWd
        have H1 := Lib.hid (early_of HR1.out)
        have HB := Lib.hid HR1.out.bel
        have hargs : args = [] := HA.out (by rw [hq8]; simp)
        subst hargs
        have hnot := not_again (by have := HGD.out; rw [hq8] at this; exact this)
        have HNOT := Lib.hid hnot
        have HE := Lib.hid (by have := HE.out; rw [hq8] at this; exact this)
        by_cases ha : b.length < ps + 1
        · have HQ : Hid (r.1 = 4) := Lib.hid (by rw [HE.out, readL_stop (readQ_l_end (s := ⟨ps, rs, n, []⟩) ha) (by decide)])
          have HGG : Hid ((getI b k).err = 4 ∧ (getI b k).at_ = b.length) := Lib.hid (by rw [HG.out, if_pos HQ.out]; exact ⟨rfl, rfl⟩)
          have havI : (b.length : Int) < (ps : Int) + 1 := by omega
          clear hR ha hq8 hq hnot
          go_wp2_with (first
            | (go_at_call 78; (with_reducible refine (HWd.out _).mono ?_); rintro e w3 ⟨rfl, rfl⟩)
            | (go_at_call 98; (with_reducible refine (HF.out _ _ _).mono ?_); rintro e w1 ⟨rfl, hb⟩; have HE1 := Lib.hid (early_end H1.out hb 4 b.length); have hr1 := HE1.out.1; have hf1 := HE1.out.2.1; obtain ⟨d0, d1, d2, d3, d4, d5⟩ := cells6 hr1; have g0 := free6 hr1 0; have g1 := free6 hr1 1; have g2 := free6 hr1 2; have g3 := free6 hr1 3; have g4 := free6 hr1 4; have g5 := free6 hr1 5; have q0 := flt0 hf1; have q1 := flt1 hf1; have r0 := fltf hf1 0; have r1 := fltf hf1 1; clear hb hr1 hf1))
          refine bodyPost_ret (v := .tuple #[.agg (insCells 0 0 0 0 0 (.slice none 0 0)), .int .i64 0, .agg #[.int .i64 4, .int .i64 b.length]]) (by simp [results, Try.results88, go_sem, d0, d1, d2, d3, d4, d5, q0, q1]) rfl ?_
          exact got_bad HGG.out (by decide) HE1.out.2.2 rfl
        · have hpl : ps < b.length := by omega
          have hbx := HBY.out _ (getD_mem hpl)
          have hcx : wr.cell? ⟨g, off + ps, none⟩ = some (.int .u8 (b.getD ps 0)) := (HB.out.cell (p := ⟨g, off + ps, none⟩) HGB.out).trans (HCL.out ps hpl)
          obtain ⟨c, hcq⟩ : ∃ c : Nat, b.getD ps 0 = c := ⟨(b.getD ps 0).toNat, by omega⟩
          rw [hcq] at hbx hcx
          have hc2 : c < 256 := by omega
          have hno : ¬ (b.length : Int) < (ps : Int) + 1 := by omega
          have hpI : (ps : Int) < (b.length : Int) := by omega
          by_cases h8 : 8 < c
          · have HQ : Hid (r.1 = 3) := Lib.hid (by rw [HE.out, readL_stop (readQ_l_many (s := ⟨ps, rs, n, []⟩) (by dsimp only; omega) (by dsimp only; rw [hcq]; omega)) (by decide)])
            have HGG : Hid ((getI b k).err = 3 ∧ (getI b k).at_ = k) := Lib.hid (by rw [HG.out, if_neg (by rw [HQ.out]; decide), if_pos HQ.out]; exact ⟨rfl, rfl⟩)
            have h8I : (8 : Int) < (c : Int) := by omega
            clear hR ha hq8 hq hnot h8 hcq hbx hpl
            go_wp2_with (first
              | (go_at_call 78; (with_reducible refine (HWd.out _).mono ?_); rintro e w3 ⟨rfl, rfl⟩)
              | (go_at_call 98; (with_reducible refine (HF.out _ _ _).mono ?_); rintro e w1 ⟨rfl, hb⟩; have HE1 := Lib.hid (early_end H1.out hb 3 k); have hr1 := HE1.out.1; have hf1 := HE1.out.2.1; obtain ⟨d0, d1, d2, d3, d4, d5⟩ := cells6 hr1; have g0 := free6 hr1 0; have g1 := free6 hr1 1; have g2 := free6 hr1 2; have g3 := free6 hr1 3; have g4 := free6 hr1 4; have g5 := free6 hr1 5; have q0 := flt0 hf1; have q1 := flt1 hf1; have r0 := fltf hf1 0; have r1 := fltf hf1 1; clear hb hr1 hf1))
            refine bodyPost_ret (v := .tuple #[.agg (insCells 0 0 0 0 0 (.slice none 0 0)), .int .i64 0, .agg #[.int .i64 3, .int .i64 k]]) (by simp [results, Try.results88, go_sem, d0, d1, d2, d3, d4, d5, q0, q1]) rfl ?_
            exact got_bad HGG.out (by decide) HE1.out.2.2 rfl
          · have h8I : ¬ (8 : Int) < (c : Int) := by omega
            by_cases hct : b.length < ps + 1 + c
            · have HQ : Hid (r.1 = 4) := Lib.hid (by rw [HE.out, readL_stop (readQ_l_cut (s := ⟨ps, rs, n, []⟩) (by dsimp only; omega) (by dsimp only; rw [hcq]; omega) (by dsimp only; rw [hcq]; omega)) (by decide)])
              have HGG : Hid ((getI b k).err = 4 ∧ (getI b k).at_ = b.length) := Lib.hid (by rw [HG.out, if_pos HQ.out]; exact ⟨rfl, rfl⟩)
              have havI : (b.length : Int) < (ps : Int) + 1 + (c : Int) := by omega
              clear hR ha hq8 hq hnot h8 hcq hbx hpl hct
              go_wp2_with (first
                | (go_at_call 78; (with_reducible refine (HWd.out _).mono ?_); rintro e w3 ⟨rfl, rfl⟩)
                | (go_at_call 98; (with_reducible refine (HF.out _ _ _).mono ?_); rintro e w1 ⟨rfl, hb⟩; have HE1 := Lib.hid (early_end H1.out hb 4 b.length); have hr1 := HE1.out.1; have hf1 := HE1.out.2.1; obtain ⟨d0, d1, d2, d3, d4, d5⟩ := cells6 hr1; have g0 := free6 hr1 0; have g1 := free6 hr1 1; have g2 := free6 hr1 2; have g3 := free6 hr1 3; have g4 := free6 hr1 4; have g5 := free6 hr1 5; have q0 := flt0 hf1; have q1 := flt1 hf1; have r0 := fltf hf1 0; have r1 := fltf hf1 1; clear hb hr1 hf1))
              refine bodyPost_ret (v := .tuple #[.agg (insCells 0 0 0 0 0 (.slice none 0 0)), .int .i64 0, .agg #[.int .i64 4, .int .i64 b.length]]) (by simp [results, Try.results88, go_sem, d0, d1, d2, d3, d4, d5, q0, q1]) rfl ?_
              exact got_bad HGG.out (by decide) HE1.out.2.2 rfl
            · have HQ := Lib.hid (HE.out.trans (readL_go (readQ_l_yes (s := ⟨ps, rs, n, []⟩) (by dsimp only; omega) (by dsimp only; rw [hcq]; omega) (by dsimp only; rw [hcq]; omega))))
              have HQ := Lib.hid (by have := HQ.out; dsimp only at this; rw [hcq, Int.toNat_natCast] at this; exact this)
              have havI : ¬ (b.length : Int) < (ps : Int) + 1 + (c : Int) := by omega
              have hib := HIB.out
              have HBS : Hid (∀ W V2 ys, RgAt w W BB ib (.slice (some ⟨g, off, none⟩) b.length cap) b op n V2 u10 ys rs → BB ≤ W.heap.size) := Lib.hid (fun W V2 ys h => by have := h.size; have := HBB.out; omega)
              have hctL := Lib.hid hct
              have HRL : Hid (rs.length ≤ m) := Lib.hid hrl
              clear hR ha hq8 hq hnot h8 hcq hbx hpl hct hrl
              go_wp2_with (go_at_call 78; (with_reducible refine (HWd.out _).mono ?_); rintro e w3 ⟨rfl, rfl⟩)
              go_loopw [15] (fun j wi => ∃ (i : Nat) (V2 : Value), i ≤ c ∧ j = .int .i64 i ∧ Hid (RgAt w wi BB ib (.slice (some ⟨g, off, none⟩) b.length cap) b op n V2 u10 ((b.drop (ps + 1)).take i) rs)) (fun j _ => c - (intOf j).toNat)
              case atStart => exact ⟨0, V, by omega, rfl, HR1.out⟩
              case round =>
                obtain ⟨i, V2, hi, rfl, HR2⟩ := hrel
                by_cases hlt2 : i < c
                · have hpi : ps + 1 + i < b.length := by have := hctL.out; omega
                  have hbz := HBY.out _ (getD_mem hpi)
                  have hR2 := HR2.out
                  have hcz : wr.cell? ⟨g, off + (ps + 1 + i), none⟩ = some (.int .u8 (b.getD (ps + 1 + i) 0)) := (hR2.bel.cell (p := ⟨g, off + (ps + 1 + i), none⟩) HGB.out).trans (HCL.out _ hpi)
                  have HPS := Lib.hid (part_snoc hpi)
                  obtain ⟨z, hz⟩ : ∃ z, z = b.getD (ps + 1 + i) 0 := ⟨_, rfl⟩
                  rw [← hz] at hbz hcz HPS
                  have hwz : IntKind.i64.wrap z = z := by rw [IntKind.wrap_i64]; omega
                  obtain ⟨pi, hpi2⟩ : ∃ pi, pi = ps + 1 + i := ⟨_, rfl⟩
                  rw [← hpi2] at hcz
                  have hadd : IntKind.i64.wrap ((ps : Int) + 1 + (i : Int)) = (pi : Int) := by rw [IntKind.wrap_i64]; omega
                  have hpI2 : (pi : Int) < (b.length : Int) := by omega
                  have hadd0 : IntKind.i64.wrap ((ps : Int) + 1) = (ps : Int) + 1 := by rw [IntKind.wrap_i64]; omega
                  have hpi0 : (0 : Int) ≤ (pi : Int) := by omega
                  have hpI3 : (pi : Int) ≤ 1000000 := by omega
                  obtain ⟨_, _, _, _, _, e5⟩ := cells6 hR2.box
                  rw [hib] at e5
                  have k0 : (i : Int) < (c : Int) := by omega
                  have HBS2 := Lib.hid (HBS.out _ _ _ hR2)
                  have HAL : Hid (((b.drop (ps + 1)).take i).length ≤ 255) := Lib.hid (by simp; omega)
                  obtain ⟨ys, hys⟩ : ∃ ys, ys = (b.drop (ps + 1)).take i := ⟨_, rfl⟩
                  rw [← hys] at HAL HR2 HPS
                  have HL4 : Hid ((ys ++ [z]).length = ys.length + 1) := Lib.hid (by simp)
                  clear hys
                  clear hR2 hbz hz hpi hpi2 d0 d1 d2 d3 d4 d5
                  go_wp2
                  have HW := Lib.hid HR2.out.drew
                  have hibL := HIB.out
                  have e6 : (wr.alloc (.cells #[.int .i64 z] 3)).cell? ⟨w.heap.size + 2, 5, none⟩ = some V2 := (((Below.refl wr.heap.size wr).alloc (Nat.le_refl _) (.cells #[.int .i64 z] 3)).cell (p := ⟨w.heap.size + 2, 5, none⟩) (by have := HR2.out.size; rw [hib] at this; exact this)).trans e5
                  go_region_law (refine step_outW (W := wr.drew) (V := V2) (xs := ys) (z := z) (base := BB) rfl (.tmp 116) (.tmp 125) rfl rfl rfl HW.out.own HBS2.out (by have := HAL.out; omega) ?_; intro V4 w4 hc hb hk4 hs4 hw4; obtain ⟨vA4, vc4, hve4⟩ := owns_len hc; rw [HL4.out] at hve4; subst hve4; have HA4 := Lib.hid (HW.out.arg HBS2.out hc hb hk4 hs4 hw4); have hbx := HA4.out.2; rw [hib] at hbx; obtain ⟨e0, e1, e2, e3, e4, e5'⟩ := cells6 hbx; have f5 := free6 hbx 5; clear hc hb hk4 hs4 hw4 hbx)
                  all_goals go_wp2
                  all_goals
                    go_roundw
                    case rel => exact ⟨i + 1, _, by omega, by go_num, by rw [HPS.out]; have h := HA4.out.1; rw [hib] at h ⊢; exact Lib.hid h⟩
                    case measure => simp [intOf]; omega
                · obtain rfl : i = c := by omega
                  obtain ⟨qq, hqq⟩ : ∃ qq, qq = ps + 1 + i := ⟨_, rfl⟩
                  have hadd : IntKind.i64.wrap ((ps : Int) + 1 + (i : Int)) = (qq : Int) := by rw [IntKind.wrap_i64]; omega
                  have HQQ := Lib.hid hqq
                  rw [← hqq] at HQ
                  clear hqq
                  go_wp2
                  go_roundw
                  case rel => exact ⟨m + 1, ⟨qq, rs, n, (b.drop (ps + 1)).take i⟩, V2, by omega, by go_num, rfl, by have := hctL.out; have := HQQ.out; dsimp only; omega, by have := HRL.out; dsimp only; omega, ⟨HQ.out, HN.out, fun h => absurd h HNOT.out, HR2.out⟩⟩
                  case measure => simp [intOf]; omega
      · have HWd := Lib.hid (fun W => rwidth_any q W)
        rw [show rwidthV q = widthV q by unfold rwidthV; rw [if_neg hq8]] at HWd
        have HRg := Lib.hid (fun W => rreg_any q W)
        obtain ⟨sw, hsw⟩ : ∃ sw, sw = widthV q := ⟨_, rfl⟩
        have hwc := width_cases q
        rw [← hsw] at HWd hwc
        rw [hq] at HWd
        by_cases hav : b.length < ps + widthV q
        · have HQ : Hid (r.1 = 4) := Lib.hid (by
            cases hreg : isReg q
            · rw [HE.out, readL_stop (readQ_num_no (s := ⟨ps, rs, n, args⟩) hreg hq8 hav) (by decide)]
            · rw [HE.out, readL_stop (readQ_reg_no (s := ⟨ps, rs, n, args⟩) hreg (by rw [reg_width hreg] at hav; exact hav)) (by decide)])
          have HGG : Hid ((getI b k).err = 4 ∧ (getI b k).at_ = b.length) := Lib.hid (by rw [HG.out, if_pos HQ.out]; exact ⟨rfl, rfl⟩)
          have H1 := Lib.hid (early_of HR1.out)
          rw [← hsw] at hav
          rcases hwc with hw | hw | hw
          · rw [hw] at HWd hav
            have havI : (b.length : Int) < (ps : Int) + 1 := by omega
            clear hR hav hw hq8 hq hsw HRg
            go_wp2_with (first
              | (go_at_call 78; (with_reducible refine (HWd.out _).mono ?_); rintro e w3 ⟨rfl, rfl⟩)
              | (go_at_call 98; (with_reducible refine (HF.out _ _ _).mono ?_); rintro e w1 ⟨rfl, hb⟩; have HE1 := Lib.hid (early_end H1.out hb 4 b.length); have hr1 := HE1.out.1; have hf1 := HE1.out.2.1; obtain ⟨d0, d1, d2, d3, d4, d5⟩ := cells6 hr1; have g0 := free6 hr1 0; have g1 := free6 hr1 1; have g2 := free6 hr1 2; have g3 := free6 hr1 3; have g4 := free6 hr1 4; have g5 := free6 hr1 5; have q0 := flt0 hf1; have q1 := flt1 hf1; have r0 := fltf hf1 0; have r1 := fltf hf1 1; clear hb hr1 hf1))
            refine bodyPost_ret (v := .tuple #[.agg (insCells 0 0 0 0 0 (.slice none 0 0)), .int .i64 0, .agg #[.int .i64 4, .int .i64 b.length]]) (by simp [results, Try.results88, go_sem, d0, d1, d2, d3, d4, d5, q0, q1]) rfl ?_
            exact got_bad HGG.out (by decide) HE1.out.2.2 rfl
          · rw [hw] at HWd hav
            have havI : (b.length : Int) < (ps : Int) + 2 := by omega
            clear hR hav hw hq8 hq hsw HRg
            go_wp2_with (first
              | (go_at_call 78; (with_reducible refine (HWd.out _).mono ?_); rintro e w3 ⟨rfl, rfl⟩)
              | (go_at_call 98; (with_reducible refine (HF.out _ _ _).mono ?_); rintro e w1 ⟨rfl, hb⟩; have HE1 := Lib.hid (early_end H1.out hb 4 b.length); have hr1 := HE1.out.1; have hf1 := HE1.out.2.1; obtain ⟨d0, d1, d2, d3, d4, d5⟩ := cells6 hr1; have g0 := free6 hr1 0; have g1 := free6 hr1 1; have g2 := free6 hr1 2; have g3 := free6 hr1 3; have g4 := free6 hr1 4; have g5 := free6 hr1 5; have q0 := flt0 hf1; have q1 := flt1 hf1; have r0 := fltf hf1 0; have r1 := fltf hf1 1; clear hb hr1 hf1))
            refine bodyPost_ret (v := .tuple #[.agg (insCells 0 0 0 0 0 (.slice none 0 0)), .int .i64 0, .agg #[.int .i64 4, .int .i64 b.length]]) (by simp [results, Try.results88, go_sem, d0, d1, d2, d3, d4, d5, q0, q1]) rfl ?_
            exact got_bad HGG.out (by decide) HE1.out.2.2 rfl
          · rw [hw] at HWd hav
            have havI : (b.length : Int) < (ps : Int) + 8 := by omega
            clear hR hav hw hq8 hq hsw HRg
            go_wp2_with (first
              | (go_at_call 78; (with_reducible refine (HWd.out _).mono ?_); rintro e w3 ⟨rfl, rfl⟩)
              | (go_at_call 98; (with_reducible refine (HF.out _ _ _).mono ?_); rintro e w1 ⟨rfl, hb⟩; have HE1 := Lib.hid (early_end H1.out hb 4 b.length); have hr1 := HE1.out.1; have hf1 := HE1.out.2.1; obtain ⟨d0, d1, d2, d3, d4, d5⟩ := cells6 hr1; have g0 := free6 hr1 0; have g1 := free6 hr1 1; have g2 := free6 hr1 2; have g3 := free6 hr1 3; have g4 := free6 hr1 4; have g5 := free6 hr1 5; have q0 := flt0 hf1; have q1 := flt1 hf1; have r0 := fltf hf1 0; have r1 := fltf hf1 1; clear hb hr1 hf1))
            refine bodyPost_ret (v := .tuple #[.agg (insCells 0 0 0 0 0 (.slice none 0 0)), .int .i64 0, .agg #[.int .i64 4, .int .i64 b.length]]) (by simp [results, Try.results88, go_sem, d0, d1, d2, d3, d4, d5, q0, q1]) rfl ?_
            exact got_bad HGG.out (by decide) HE1.out.2.2 rfl
        · have hav' : ps + widthV q ≤ b.length := by omega
          have HB := Lib.hid HR1.out.bel
          cases hreg : isReg q
          · have HQ := Lib.hid (HE.out.trans (readL_go (readQ_num_yes (s := ⟨ps, rs, n, args⟩) hreg hq8 hav')))
            have hib := HIB.out
            have f4 := free6 hR.box 4
            rw [hreg, hq] at HRg
            rw [← hsw] at hav' HQ
            rcases hwc with hw | hw | hw
            · have hav1 : ps + 1 ≤ b.length := by omega
              rw [hw] at HWd HQ
              obtain ⟨qq, hqq⟩ : ∃ qq, qq = ps + 1 := ⟨_, rfl⟩
              have HG1 := Lib.hid (rget_part HXB.out HCL.out HGB.out HB.out hcp (s := 1) rfl hav1 hqq)
              obtain ⟨x, hxx⟩ : ∃ x, x = numV ((b.drop ps).take 1) := ⟨_, rfl⟩
              rw [← hxx] at HG1 HQ
              rw [← hqq, wrap_same] at HQ
              dsimp only at HQ
              have hadd : IntKind.i64.wrap ((ps : Int) + 1) = (qq : Int) := by rw [IntKind.wrap_i64]; omega
              have hno : ¬ (b.length : Int) < (ps : Int) + 1 := by omega
              have hno2 : ¬ (b.length : Int) < (qq : Int) := by omega
              have q1 : (ps : Int) ≤ (qq : Int) := by omega
              have q2 : (qq : Int) ≤ (b.length : Int) := by omega
              have q3 : (qq : Int) ≤ (cap : Int) := by omega
              have hcp2 : ¬ cap = ps := by omega
              have HA4 := Lib.hid (HR1.out.num (n1 := wrap64 x))
              rw [hib] at d4 f4 HA4
              clear hR hav hav1 hav' hq8 hq hsw hw hreg hxx hqq hib
              go_wp2_with (first
                | (go_at_call 78; (with_reducible refine (HWd.out _).mono ?_); rintro e w3 ⟨rfl, rfl⟩)
                | (go_at_call 99; (with_reducible refine HG1.out.mono ?_); rintro e w4 ⟨rfl, rfl⟩)
                | (go_at_call 79; (with_reducible refine (HRg.out _).mono ?_); rintro e w5 ⟨rfl, rfl⟩))
              go_roundw
              case rel => exact ⟨m + 1, ⟨qq, rs, wrap64 x, args⟩, V, by omega, by go_num, rfl, by dsimp only; omega, by simp; omega, ⟨HQ.out, wrap_same x ▸ wrap_in x, fun h => HA.out (by simp [h]), by rw [HIB.out]; exact HA4.out⟩⟩
              case measure => simp [intOf]; omega
            · have hav1 : ps + 2 ≤ b.length := by omega
              rw [hw] at HWd HQ
              obtain ⟨qq, hqq⟩ : ∃ qq, qq = ps + 2 := ⟨_, rfl⟩
              have HG1 := Lib.hid (rget_part HXB.out HCL.out HGB.out HB.out hcp (s := 2) rfl hav1 hqq)
              obtain ⟨x, hxx⟩ : ∃ x, x = numV ((b.drop ps).take 2) := ⟨_, rfl⟩
              rw [← hxx] at HG1 HQ
              rw [← hqq, wrap_same] at HQ
              dsimp only at HQ
              have hadd : IntKind.i64.wrap ((ps : Int) + 2) = (qq : Int) := by rw [IntKind.wrap_i64]; omega
              have hno : ¬ (b.length : Int) < (ps : Int) + 2 := by omega
              have hno2 : ¬ (b.length : Int) < (qq : Int) := by omega
              have q1 : (ps : Int) ≤ (qq : Int) := by omega
              have q2 : (qq : Int) ≤ (b.length : Int) := by omega
              have q3 : (qq : Int) ≤ (cap : Int) := by omega
              have hcp2 : ¬ cap = ps := by omega
              have HA4 := Lib.hid (HR1.out.num (n1 := wrap64 x))
              rw [hib] at d4 f4 HA4
              clear hR hav hav1 hav' hq8 hq hsw hw hreg hxx hqq hib
              go_wp2_with (first
                | (go_at_call 78; (with_reducible refine (HWd.out _).mono ?_); rintro e w3 ⟨rfl, rfl⟩)
                | (go_at_call 99; (with_reducible refine HG1.out.mono ?_); rintro e w4 ⟨rfl, rfl⟩)
                | (go_at_call 79; (with_reducible refine (HRg.out _).mono ?_); rintro e w5 ⟨rfl, rfl⟩))
              go_roundw
              case rel => exact ⟨m + 1, ⟨qq, rs, wrap64 x, args⟩, V, by omega, by go_num, rfl, by dsimp only; omega, by simp; omega, ⟨HQ.out, wrap_same x ▸ wrap_in x, fun h => HA.out (by simp [h]), by rw [HIB.out]; exact HA4.out⟩⟩
              case measure => simp [intOf]; omega
            · have hav1 : ps + 8 ≤ b.length := by omega
              rw [hw] at HWd HQ
              obtain ⟨qq, hqq⟩ : ∃ qq, qq = ps + 8 := ⟨_, rfl⟩
              have HG1 := Lib.hid (rget_part HXB.out HCL.out HGB.out HB.out hcp (s := 8) rfl hav1 hqq)
              obtain ⟨x, hxx⟩ : ∃ x, x = numV ((b.drop ps).take 8) := ⟨_, rfl⟩
              rw [← hxx] at HG1 HQ
              rw [← hqq, wrap_same] at HQ
              dsimp only at HQ
              have hadd : IntKind.i64.wrap ((ps : Int) + 8) = (qq : Int) := by rw [IntKind.wrap_i64]; omega
              have hno : ¬ (b.length : Int) < (ps : Int) + 8 := by omega
              have hno2 : ¬ (b.length : Int) < (qq : Int) := by omega
              have q1 : (ps : Int) ≤ (qq : Int) := by omega
              have q2 : (qq : Int) ≤ (b.length : Int) := by omega
              have q3 : (qq : Int) ≤ (cap : Int) := by omega
              have hcp2 : ¬ cap = ps := by omega
              have HA4 := Lib.hid (HR1.out.num (n1 := wrap64 x))
              rw [hib] at d4 f4 HA4
              clear hR hav hav1 hav' hq8 hq hsw hw hreg hxx hqq hib
              go_wp2_with (first
                | (go_at_call 78; (with_reducible refine (HWd.out _).mono ?_); rintro e w3 ⟨rfl, rfl⟩)
                | (go_at_call 99; (with_reducible refine HG1.out.mono ?_); rintro e w4 ⟨rfl, rfl⟩)
                | (go_at_call 79; (with_reducible refine (HRg.out _).mono ?_); rintro e w5 ⟨rfl, rfl⟩))
              go_roundw
              case rel => exact ⟨m + 1, ⟨qq, rs, wrap64 x, args⟩, V, by omega, by go_num, rfl, by dsimp only; omega, by simp; omega, ⟨HQ.out, wrap_same x ▸ wrap_in x, fun h => HA.out (by simp [h]), by rw [HIB.out]; exact HA4.out⟩⟩
              case measure => simp [intOf]; omega
          · have hw1 := reg_width hreg
            rw [hsw, hw1] at HWd
            rw [hw1] at hav'
            have hpl : ps < b.length := by omega
            have hbx := HBY.out _ (getD_mem hpl)
            have HQ := Lib.hid (HE.out.trans (readL_go (readQ_reg_yes (s := ⟨ps, rs, n, args⟩) hreg hav')))
            obtain ⟨qq, hqq⟩ : ∃ qq, qq = ps + 1 := ⟨_, rfl⟩
            have HG1 := Lib.hid (rget_part HXB.out HCL.out HGB.out HB.out hcp (s := 1) rfl hav' hqq)
            rw [part_one7 hpl] at HG1
            obtain ⟨x, hxx⟩ : ∃ x, x = b.getD ps 0 := ⟨_, rfl⟩
            rw [← hxx] at HG1 HQ hbx
            rw [← hqq] at HQ
            dsimp only at HQ
            have hwx : IntKind.i64.wrap x = x := by rw [IntKind.wrap_i64]; omega
            have hadd : IntKind.i64.wrap ((ps : Int) + 1) = (qq : Int) := by rw [IntKind.wrap_i64]; omega
            have hno : ¬ (b.length : Int) < (ps : Int) + 1 := by omega
            have hno2 : ¬ (b.length : Int) < (qq : Int) := by omega
            have q1 : (ps : Int) ≤ (qq : Int) := by omega
            have q2 : (qq : Int) ≤ (b.length : Int) := by omega
            have q3 : (qq : Int) ≤ (cap : Int) := by omega
            have hcp2 : ¬ cap = ps := by omega
            have HWX := Lib.hid hwx
            have HQQ := Lib.hid hqq
            have HBS : Hid (BB ≤ wr.heap.size) := Lib.hid (by have := HR1.out.size; have := HBB.out; omega)
            have HRL : Hid (rs.length ≤ 3) := Lib.hid (by omega)
            rw [hreg, hq] at HRg
            clear hR hav hav' hq8 hq hsw hwc hw1 hreg hpl hbx hxx hqq
            go_wp2_with (first
              | (go_at_call 78; (with_reducible refine (HWd.out _).mono ?_); rintro e w3 ⟨rfl, rfl⟩)
              | (go_at_call 99; (with_reducible refine HG1.out.mono ?_); rintro e w4 ⟨rfl, rfl⟩)
              | (go_at_call 79; (with_reducible refine (HRg.out _).mono ?_); rintro e w5 ⟨rfl, rfl⟩)
              | (at_builtin; refine @wpList_outW wr _ _ _ _ _ rfl (.tmp 149) (.tmp 152) rfl _ rs x BB rfl rfl HR1.out.reg HBS.out (by have := HRL.out; omega) ?_; intro V4 w4 hc hb hk4 hs4 hw4; have HA4 := Lib.hid (HR1.out.more HBS.out hc hb hk4 hs4 hw4); clear hc hb hk4 hs4 hw4))
            go_roundw
            case rel => exact ⟨m + 1, ⟨qq, rs ++ [x], n, args⟩, V, by omega, by go_num, rfl, by dsimp only; omega, by simp; omega, ⟨HQ.out, HN.out, fun h => HA.out (by simp [h]), HA4.out⟩⟩
            case measure => simp [intOf]; omega
    · obtain rfl : m = sh.size := by omega
      have hr0 : r = (0, ⟨ps, rs, n, args⟩) := by rw [hE, List.drop_eq_nil_of_le (by rw [letters_len]; exact Nat.le_refl _)]; rfl
      have hG := HG.out
      rw [hr0, if_neg (by simp), if_neg (by simp)] at hG
      have hib : ib = w.heap.size + 1 + 1 := HIB.out
      have HBS : Hid (BB ≤ wr.heap.size) := Lib.hid (by have := hR.size; have := HBB.out; omega)
      have HRL : Hid (rs.length ≤ 3) := Lib.hid (by omega)
      obtain ⟨vA, vc, hve⟩ := owns_len hR.own
      subst hve
      have HCk := Lib.hid (fun W hX => rcheck_any op (rs.getD 0 0) (rs.getD 1 0) (rs.getD 2 0) n (.slice vA args.length vc) args 64 4096 W hX)
      have hce : rcheckV op (rs.getD 0 0) (rs.getD 1 0) (rs.getD 2 0) n args 64 4096 = InsV.chk (insOf op ⟨ps, rs, n, args⟩) := (check_same op _ _ _ n args 64 4096 hN).symm
      rw [hce] at HCk
      have hG2 : getI b k = if InsV.chk (insOf op ⟨ps, rs, n, args⟩) ≠ 0 then ⟨5, k, .zero, 0⟩ else ⟨0, 0, insOf op ⟨ps, rs, n, args⟩, ps⟩ := hG
      have hyi : insOf op ⟨ps, rs, n, args⟩ = ⟨op, rs.getD 0 0, rs.getD 1 0, rs.getD 2 0, n, args⟩ := rfl
      rw [hyi] at hG2 HCk
      obtain ⟨z1, hz1⟩ : ∃ z1, z1 = rs.getD 0 0 := ⟨_, rfl⟩
      obtain ⟨z2, hz2⟩ : ∃ z2, z2 = rs.getD 1 0 := ⟨_, rfl⟩
      obtain ⟨z3, hz3⟩ : ∃ z3, z3 = rs.getD 2 0 := ⟨_, rfl⟩
      rw [← hz1, ← hz2, ← hz3] at HCk hG2
      have HZZ := Lib.hid (And.intro hz1 (And.intro hz2 hz3))
      have HG2 := Lib.hid hG2
      clear hr0 hG HG hE hA hN hR HR HE HN hce hG2 hyi hz1 hz2 hz3
      generalize InsV.chk ⟨op, z1, z2, z3, n, args⟩ = ch at HCk HG2
      by_cases hz : ch = 0
      · subst hz
        have HGG : Hid (getI b k = ⟨0, 0, ⟨op, z1, z2, z3, n, args⟩, ps⟩) := Lib.hid (by rw [HG2.out, if_neg (by simp)])
        go_wp2_with (first
          | (at_builtin; refine @wpList_out3 wr _ _ _ _ _ rfl (.tmp 157) (.tmp 158) rfl u10 rs BB rfl rfl HR1.out.reg HBS.out (by have := HRL.out; omega) ?_; intro g4 c4 w4 hc hcp4 hb hk4 hs4 hw4; have HA4 := Lib.hid (HR1.out.more (P1 := .slice (some ⟨g4, 0, none⟩) (rs.length + 3) c4) HBS.out hc hb hk4 hs4 (hw4.imp id (congrArg some))); have HF3 := Lib.hid (HA4.out.fin z1 z2 z3); rw [hib] at HF3; have hbx := HA4.out.box; rw [hib] at hbx; obtain ⟨d0, d1, d2, d3, d4, d5⟩ := cells6 hbx; have f1 := free6 hbx 1; have f2 := free6 hbx 2; have f3 := free6 hbx 3; have hpc := pad_cells hc; rw [← HZZ.out.1, ← HZZ.out.2.1, ← HZZ.out.2.2] at hpc; obtain ⟨p0, p1, p2⟩ := hpc; have hgB := (hc.lt (g := g4) (by simp [Value.ownBlock])).1; have hgn : ¬ g4 = w.heap.size + 1 + 1 := (by have := HBB.out; omega); have hgn2 : ¬ w.heap.size + 1 + 1 = g4 := (by have := HBB.out; omega); clear hc hb hk4 hs4 hw4 hbx)
          | (go_at_call 57; refine (HCk.out _ HF3.out.nums).mono ?_; rintro e w5 ⟨rfl, hb5⟩; have HF5 := Lib.hid (HF3.out.grow hb5); have hbx := HF5.out.box; have hin := HF5.out.ins; have hfl := HF5.out.fau; obtain ⟨d0, d1, d2, d3, d4, d5⟩ := cells6 hbx; obtain ⟨i0, i1, i2, i3, i4, i5⟩ := cells6 hin; have g0 := free6 hin 0; have g1 := free6 hin 1; have g2 := free6 hin 2; have g3 := free6 hin 3; have g4 := free6 hin 4; have g5 := free6 hin 5; have q0 := flt0 hfl; have q1 := flt1 hfl; have r0 := fltf hfl 0; have r1 := fltf hfl 1; clear hb5 hbx hin hfl))
        refine bodyPost_ret (v := .tuple #[.agg (insCells op z1 z2 z3 n (.slice vA args.length vc)), .int .i64 ps, .agg #[.int .i64 0, .int .i64 0]]) (by simp [results, Try.results88, go_sem, i0, i1, i2, i3, i4, i5, q0, q1]) rfl ?_
        exact got_good HGG.out (fin_end HF5.out).1 (fin_end HF5.out).2 rfl
      · have HGG : Hid ((getI b k).err = 5 ∧ (getI b k).at_ = k) := Lib.hid (by rw [HG2.out, if_pos hz]; exact ⟨rfl, rfl⟩)
        have hne5 : (ch != 0) = true := by simpa using hz
        clear hz
        go_wp2_with (first
          | (at_builtin; refine @wpList_out3 wr _ _ _ _ _ rfl (.tmp 157) (.tmp 158) rfl u10 rs BB rfl rfl HR1.out.reg HBS.out (by have := HRL.out; omega) ?_; intro g4 c4 w4 hc hcp4 hb hk4 hs4 hw4; have HA4 := Lib.hid (HR1.out.more (P1 := .slice (some ⟨g4, 0, none⟩) (rs.length + 3) c4) HBS.out hc hb hk4 hs4 (hw4.imp id (congrArg some))); have HF3 := Lib.hid (HA4.out.fin z1 z2 z3); rw [hib] at HF3; have hbx := HA4.out.box; rw [hib] at hbx; obtain ⟨d0, d1, d2, d3, d4, d5⟩ := cells6 hbx; have f1 := free6 hbx 1; have f2 := free6 hbx 2; have f3 := free6 hbx 3; have hpc := pad_cells hc; rw [← HZZ.out.1, ← HZZ.out.2.1, ← HZZ.out.2.2] at hpc; obtain ⟨p0, p1, p2⟩ := hpc; have hgB := (hc.lt (g := g4) (by simp [Value.ownBlock])).1; have hgn : ¬ g4 = w.heap.size + 1 + 1 := (by have := HBB.out; omega); have hgn2 : ¬ w.heap.size + 1 + 1 = g4 := (by have := HBB.out; omega); clear hc hb hk4 hs4 hw4 hbx)
          | (go_at_call 57; refine (HCk.out _ HF3.out.nums).mono ?_; rintro e w5 ⟨rfl, hb5⟩; have HF5 := Lib.hid (HF3.out.grow hb5); have H1 := Lib.hid HF5.out.early; clear hb5)
          | (go_at_call 98; (with_reducible refine (HF.out _ _ _).mono ?_); rintro e w1 ⟨rfl, hb⟩; have HE1 := Lib.hid (early_end H1.out hb 5 k); have hr1 := HE1.out.1; have hf1 := HE1.out.2.1; obtain ⟨d0, d1, d2, d3, d4, d5⟩ := cells6 hr1; have g0 := free6 hr1 0; have g1 := free6 hr1 1; have g2 := free6 hr1 2; have g3 := free6 hr1 3; have g4 := free6 hr1 4; have g5 := free6 hr1 5; have q0 := flt0 hf1; have q1 := flt1 hf1; have r0 := fltf hf1 0; have r1 := fltf hf1 1; clear hb hr1 hf1))
        refine bodyPost_ret (v := .tuple #[.agg (insCells 0 0 0 0 0 (.slice none 0 0)), .int .i64 0, .agg #[.int .i64 5, .int .i64 k]]) (by simp [results, Try.results88, go_sem, d0, d1, d2, d3, d4, d5, q0, q1]) rfl ?_
        exact got_bad HGG.out (by decide) HE1.out.2.2 rfl
end Go.Proofs.Ytimhlbejjbnofaa

/- (Ref07E) The document's own Get and Split of layer 7. Contracts; no condition but that the bytes are few. -/
namespace Go.Proofs.Ytimhlbejjbnofaa
open Go.RowKit Go.Shelf
set_option linter.unusedVariables false
set_option linter.unusedSimpArgs false

theorem rget7_any (X : Value) (b : List Int) (k : Int) (w : World) (hX : IsBytes w w.heap.size X b) (hs : b.length ≤ 1000000) :
    Calls Try.prog 88 #[X, .int .i64 k] w (GotDone w (gotV b k)) := by
  by_cases h : k < 0 ∨ b.length < k ∨ k = b.length ∨ 33 ≤ b.getD k.toNat 0
  · exact rget7_early X b k w hX h
  · rw [not_or, not_or, not_or] at h
    obtain ⟨h1, h2, h3, h4⟩ := h
    obtain ⟨kn, rfl⟩ : ∃ kn : Nat, k = kn := ⟨k.toNat, by omega⟩
    rw [Int.toNat_natCast] at h4
    have e : gotV b (kn : Int) = getI b kn := by unfold gotV; rw [if_neg (by omega), Int.toNat_natCast]
    rw [e]
    exact rget7_main X b kn w hX hs (by omega) h4
set_option maxRecDepth 100000 in
set_option maxHeartbeats 8000000 in
theorem rsplit7_any (X : Value) (b : List Int) (w : World) (hX : IsBytes w w.heap.size X b) : Calls Try.prog 70 #[X] w (SplitDone w (splitV b)) := by
  obtain ⟨A, cap, rfl⟩ := hX.len
  have hm := hX.2.1
  unfold maxLen at hm
  by_cases hl : 4096 < b.length
  · have hlI : (4096 : Int) < (b.length : Int) := by omega
    have HE : Hid ((splitV b).err = 3 ∧ (splitV b).at_ = 4096) := Lib.hid (by unfold splitV; rw [if_pos hl]; exact ⟨rfl, rfl⟩)
    clear hX hl
    go_enter Try.func70, Try.ntmps70
    go_wp2
    refine bodyPost_ret (v := .tuple #[.slice none 0 0, .slice none 0 0, .agg #[.int .i64 3, .int .i64 4096]]) (by simp [results, Try.results70, go_sem]) rfl ?_
    exact split_bad HE.out (by decide) ((Below.refl _ w).alloc (Nat.le_refl _) _) rfl
  have hlI : ¬ (4096 : Int) < (b.length : Int) := by omega
  have HE : Hid (splitV b = splitF b (b.length + 1) 0 [] []) := Lib.hid (by unfold splitV; rw [if_neg hl])
  have HX := Lib.hid hX
  have HBY := Lib.hid hX.1
  obtain ⟨n, hn⟩ : ∃ n, n = b.length := ⟨_, rfl⟩
  have HN := Lib.hid hn
  rw [← hn] at hm hl hlI HX HE ⊢
  have HLN := Lib.hid hl
  have h0 : SplAt w (w.alloc (.cells #[.int .i64 0, .int .i64 0] 38)) (.slice none 0 0) (.slice none 0 0) [] [] [] :=
    ⟨OwnC.nil _ _, Owns.nil _ _ _ _ _, (Below.refl _ w).alloc (Nat.le_refl _) _, heap_alloc_new w _, fun i hi => absurd hi (by simp), by simp⟩
  have H0 := Lib.hid h0
  clear hX h0 hn hl
  go_enter Try.func70, Try.ntmps70
  go_wp2
  go_loopw [5, 6, 7] (fun V P at_ wr => ∃ (f k : Nat) (l : List InsV) (ps : List Int) (Xs : List Value), at_ = .int .i64 k ∧ k ≤ n ∧ Hid (splitV b = splitF b f k l ps ∧ n + 1 ≤ f + k ∧ l.length ≤ k ∧ ps.length ≤ k ∧ SplAt w wr V P l ps Xs)) (fun _ _ at_ _ => n - (intOf at_).toNat)
  case atStart => exact ⟨n + 1, 0, [], [], [], rfl, Nat.zero_le _, ⟨HE.out, by omega, by simp, by simp, H0.out⟩⟩
  case round =>
    obtain ⟨f, k, l, ps, Xs, rfl, hk, HR⟩ := hrel
    obtain ⟨hs, hf, hll, hpl, hsp⟩ := HR.out
    have HS := Lib.hid hs
    have HSP := Lib.hid hsp
    have HLL := Lib.hid (And.intro hll hpl)
    obtain ⟨pA, pc, hpe⟩ := owns_len hsp.pls
    obtain ⟨vA, vc, hve⟩ := owns_len hsp.own.own
    subst hpe hve
    clear HR hs hsp hll hpl
    by_cases hlt : k < n
    · have hltI : (k : Int) < (n : Int) := by omega
      have hkl : k < b.length := by rw [← HN.out]; exact hlt
      have HKL := Lib.hid hkl
      obtain ⟨f', rfl⟩ : ∃ f', f = f' + 1 := ⟨f - 1, by omega⟩
      have HF := Lib.hid hf
      have hbl := HLN.out
      have hG := rget7_any (.slice A n cap) b k wr ((HX.out.below HSP.out.bel (Nat.le_refl _)).more HSP.out.bel.size) (by rw [← HN.out]; omega)
      rw [getI_gotV (by omega)] at hG
      by_cases hz : (getI b k).err = 0
      · have HG := Lib.hid (hG.mono fun e w' hh => And.intro hh.1 (hh.2.resolve_left (fun h => h.1 hz)))
        have HST := Lib.hid (HS.out.trans (split_step hkl hz))
        have HIN := Lib.hid (got_insB HBY.out (by omega) hz)
        have hpg := put_get HBY.out (show k ≤ b.length by omega) hz
        have HNX := Lib.hid (And.intro hpg.2.2.2.1 hpg.2.2.2.2)
        generalize getI b k = g at HG HST HIN HNX
        obtain ⟨ge, ga, ⟨op, a, b1, c, n1, args⟩, next⟩ := g
        dsimp only at HG HST HIN HNX
        clear hG hz hpg hkl hf hbl hlt
        go_wp2_with (first
          | (go_at_call 88; (with_reducible refine HG.out.mono ?_); rintro e w2 ⟨hb, _, X, rfl, hX⟩; obtain ⟨xA, xc, hxe⟩ := owns_len hX; subst hxe; have ha := ((Below.refl w2.heap.size w2).alloc (Nat.le_refl _) (.cells (insCells op a b1 c n1 (.slice xA args.length xc)) 51)).alloc (by simp) (.cells #[.int .i64 0, .int .i64 0] 38); have HX2 := Lib.hid (Owns.below hX ha (Nat.le_refl _)); have HS2 := Lib.hid ((HSP.out.call hb).call ha); have HWR := Lib.hid (Nat.le_trans hb.size ha.size); clear hb hX ha)
          | (at_builtin; refine wpList_outC rfl _ _ rfl (y := ⟨op, a, b1, c, n1, args⟩) rfl rfl (by simp) HS2.out.own (Owns.base HX2.out (Nat.zero_le _)) rfl HIN.out HS2.out.size (by have := HLL.out.1; have := HLN.out; omega) ?_; intro V3 w3 hc hb hk3 hkp; have HC3 := Lib.hid hc; have HB3 := Lib.hid hb; have HP3 := Lib.hid (hkp _ _ _ _ _ _ (show (3 : TypeId) ≠ 51 by decide) HS2.out.pls); clear hc hb hk3 hkp)
          | (at_builtin; refine @wpList_outW w3 _ _ _ _ _ rfl (.tmp 34) (.tmp 36) rfl (.slice pA ps.length pc) ps k (w.heap.size + 1) rfl rfl HP3.out (Nat.le_trans HS2.out.size HB3.out.size) (by have := HLL.out.2; have := HLN.out; omega) ?_; intro V4 w4 hc hb hk4 hs4 hw4; have HA := Lib.hid (HS2.out.app (y := ⟨op, a, b1, c, n1, args⟩) HX2.out (fun g hg => (HSP.out.pls.lt hg).2) HC3.out HB3.out HB3.out.size hc hb hk4 hs4 HP3.out hw4); clear hc hb hk4 hs4 hw4))
        have hnx := HNX.out
        have hfl := HF.out
        have hnn := HN.out
        have hll := HLL.out
        go_roundw
        case rel => exact ⟨f', next, _, _, _, rfl, by omega, ⟨HST.out, by omega, by simp; omega, by simp; omega, HA.out⟩⟩
        case measure => simp [intOf]; omega
      · have HG := Lib.hid (hG.mono fun e w' hh => And.intro hh.1 (hh.2.resolve_right (fun h => hz h.1)))
        have HST := Lib.hid (HS.out.trans (split_stop hkl hz))
        generalize getI b k = g at HG HST hz
        obtain ⟨ge, ga, y, next⟩ := g
        dsimp only at HG HST hz
        have HZ := Lib.hid hz
        have hne : (ge != 0) = true := by simpa using hz
        clear hG hz hkl hf hbl hlt
        go_wp2_with (go_at_call 88; (with_reducible refine HG.out.mono ?_); rintro e w2 ⟨hb, _, rfl⟩; have ha := ((Below.refl w2.heap.size w2).alloc (Nat.le_refl _) (.cells (insCells 0 0 0 0 0 (.slice none 0 0)) 51)).alloc (by simp) (.cells #[.int .i64 ge, .int .i64 ga] 38); have HS2 := Lib.hid ((HSP.out.call hb).call ha); clear hb ha; have q0 := flt0 HS2.out.fau; have q1 := flt1 HS2.out.fau; have r0 := fltf HS2.out.fau 0; have r1 := fltf HS2.out.fau 1)
        have HB := Lib.hid ((below_one HS2.out.bel (only2 _ w.heap.size (.int .i64 ge) (.int .i64 ga)) (Nat.le_refl _) HS2.out.bel.size).drew)
        go_region
        go_wp2
        refine bodyPost_ret (v := .tuple #[.slice none 0 0, .slice none 0 0, .agg #[.int .i64 ge, .int .i64 ga]]) (by simp [results, Try.results70, go_sem, q0, q1]) rfl ?_
        exact split_bad (by rw [HST.out]; exact ⟨rfl, rfl⟩) HZ.out HB.out rfl
    · obtain rfl : k = n := by omega
      have HSE : Hid (splitV b = ⟨0, 0, l, ps⟩) := Lib.hid (by rw [HS.out, HN.out]; exact split_end)
      have q0 := flt0 HSP.out.fau
      have q1 := flt1 HSP.out.fau
      have r0 := fltf HSP.out.fau 0
      have r1 := fltf HSP.out.fau 1
      clear hf
      have HB := Lib.hid (below_one HSP.out.bel (only2 wr w.heap.size (.int .i64 0) (.int .i64 0)) (Nat.le_refl _) HSP.out.bel.size)
      have HC := Lib.hid (HSP.out.own.but (only2 wr w.heap.size (.int .i64 0) (.int .i64 0)) (fun g hg e => by have := (HSP.out.own.own.lt hg).1; have e' : g = w.heap.size := e; omega) (fun i hi g hg e => by
        have e' : g = w.heap.size := e
        subst e'
        exact absurd hg.symm ((HSP.out.own.nums i hi).not_own HSP.out.fau (fun cur e => by injection e with _ e _; exact absurd e (by decide)))))
      have HP := Lib.hid (own_one HSP.out.pls (only2 wr w.heap.size (.int .i64 0) (.int .i64 0)) (Nat.lt_succ_self _))
      go_wp2
      refine bodyPost_ret (v := .tuple #[.slice vA l.length vc, .slice pA ps.length pc, .agg #[.int .i64 0, .int .i64 0]]) (by simp [results, Try.results70, go_sem, q0, q1]) rfl ?_
      exact split_good HSE.out HB.out (HC.out.base (Nat.le_succ _)) (Owns.base HP.out (Nat.le_succ _)) rfl
end Go.Proofs.Ytimhlbejjbnofaa
