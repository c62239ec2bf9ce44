/- Lemmas of Ref07C, Ref07D, Ref07E, each with its own remark. -/
import Derived.Test.YtfdblmjgpoocpaaGreatS14
import Derived.StillTailTactics
import Derived.Deep.RegionLaw
import Derived.Test.YtfdblmjgpoocpaaGreatS08
/- (Ref07C) The document's own Length and Get of layer 7. Contracts; no condition but that the bytes are few. -/
namespace Go.Proofs.YtfdblmjgpoocpaaGreat
open Go.RowKit Go.Shelf
set_option linter.unusedVariables false
set_option linter.unusedSimpArgs false

set_option maxHeartbeats 2000000 in
theorem rlength7_any (op a b c n : Int) (X : Value) (args : List Int) (w : World) (hX : IsNums .i64 w w.heap.size X args) (hin : InI n) :
    Calls Tryz.prog 92 #[.agg (insCells op a b c n X)] w (Makes w (.int .i64 (lenV ⟨op, a, b, c, n, args⟩))) := by
  have hB0 : Below w.heap.size w (w.alloc (.cells (insCells op a b c n X) 37)) := (Below.refl _ w).alloc (Nat.le_refl _) _
  have hX0 := (hX.below hB0 (Nat.le_refl _)).more hB0.size
  have HP := Lib.hid (rput7_any op a b c n X args _ hX0 hin)
  have HB0 := Lib.hid hB0
  obtain ⟨XA, Xc, rfl⟩ := hX.len
  have hk0 := heap_alloc_new w (.cells (insCells op a b c n (.slice XA args.length Xc)) 37)
  obtain ⟨c0, c1, c2, c3, c4, c5⟩ := cells6 hk0
  clear hX0 hB0 hk0 hX
  go_enter Tryz.func92, Tryz.ntmps92
  go_wp2_with (go_at_call 86; (with_reducible refine HP.out.mono ?_); intro e w1 hp; obtain ⟨A1, L1, c1', e1, rfl, hl⟩ := puti_len HB0.out hp; clear hp)
  go_ret
  obtain ⟨hL, hb⟩ := hl.out
  subst hL
  exact ⟨rfl, hb⟩

/-- What the document's own Get has made. -/
structure RgAt (w W : World) (B ib : Nat) (X : Value) (b : List Int) (op n : Int) (V P : Value) (args rs : List Int) : Prop where
  ins : W.heap[w.heap.size]? = some (.cells (insCells 0 0 0 0 0 (.slice none 0 0)) 37 (0, 0))
  fau : flt W (w.heap.size + 1) 0 0
  box : W.heap[ib]? = some (.cells (insCells op 0 0 0 n V) 37 (0, 0))
  own : OutN B W V args
  reg : OutN B W P rs
  bel : Below w.heap.size w W
  lib : w.heap.size + 1 < ib
  lB : ib < B
  apart : ∀ g, V.ownBlock = some g → some g ≠ P.ownBlock
section
variable {w W W1 : World} {B ib : Nat} {X V P V1 P1 : Value} {b args rs args1 rs1 : List Int} {op n n1 : Int}
theorem RgAt.call (h : RgAt w W B ib X b op n V P args rs) (hb : Below W.heap.size W W1) : RgAt w W1 B ib X b op n V P args rs :=
  ⟨(hb.block _ (heap_lt h.ins)).trans h.ins, (hb.block _ (heap_lt h.fau)).trans h.fau, (hb.block _ (heap_lt h.box)).trans h.box, Owns.below h.own hb (Nat.le_refl _), Owns.below h.reg hb (Nat.le_refl _), h.bel.trans (hb.mono h.bel.size), h.lib, h.lB, h.apart⟩
theorem RgAt.drew (h : RgAt w W B ib X b op n V P args rs) : RgAt w W.drew B ib X b op n V P args rs := ⟨h.ins, h.fau, h.box, Owns.drew h.own, Owns.drew h.reg, h.bel.drew, h.lib, h.lB, h.apart⟩
theorem RgAt.size (h : RgAt w W B ib X b op n V P args rs) : ib < W.heap.size := heap_lt h.box
/-- A number is laid. -/
theorem RgAt.num (h : RgAt w W B ib X b op n V P args rs) : RgAt w (W.setCell ⟨ib, 4, none⟩ (.int .i64 n1)) B ib X b op n1 V P args rs := by
  have hb := only1 W ib 4 (.int .i64 n1)
  have := h.lib
  have := h.lB
  refine ⟨hb.heap h.ins (show ¬ w.heap.size = ib by omega), hb.heap h.fau (show ¬ w.heap.size + 1 = ib by omega), heap_setCell_same W ib 4 _ _ (.int .i64 n1) h.box, own_one h.own hb h.lB, own_one h.reg hb h.lB, below_one h.bel hb (by omega) h.bel.size, h.lib, h.lB, h.apart⟩
/-- A register more. -/
theorem RgAt.more (h : RgAt w W B ib X b op n V P args rs) (hBs : B ≤ W.heap.size) (ho : OutN B W1 P1 rs1) (hb : Below B W W1) (hk : ∀ i, i < W.heap.size → some i ≠ P.ownBlock → W1.heap[i]? = W.heap[i]?) (hs : W.heap.size ≤ W1.heap.size) (hw : P1.ownBlock = P.ownBlock ∨ P1.ownBlock = some (W.heap.size + 1)) : RgAt w W1 B ib X b op n V P1 args rs1 := by
  have h1 := h.lib
  have h2 := h.lB
  refine ⟨(hb.block _ (by omega)).trans h.ins, ?_, (hb.block _ (by omega)).trans h.box, ?_, ho, h.bel.trans (hb.mono (by omega)), h.lib, h.lB, fun g hg => ?_⟩
  · have := h.fau
    unfold flt at this ⊢
    rw [hb.block _ (by omega)]
    exact this
  · exact Owns.of_blocks h.own (fun g hg => hk g (h.own.lt hg).2 (h.apart g hg)) hs
  · rcases hw with hw | hw
    · rw [hw]; exact h.apart g hg
    · rw [hw]
      intro e
      have := (h.own.lt hg).2
      injection e with e
      omega
/-- An argument more, and the list in its field. -/
theorem RgAt.arg (h : RgAt w W B ib X b op n V P args rs) (hBs : B ≤ W.heap.size) (ho : OutN B W1 V1 args1) (hb : Below B W W1) (hk : ∀ i, i < W.heap.size → some i ≠ V.ownBlock → W1.heap[i]? = W.heap[i]?) (hs : W.heap.size ≤ W1.heap.size) (hw : V1.ownBlock = V.ownBlock ∨ V1.ownBlock = some (W.heap.size + 1)) :
    RgAt w (W1.setCell ⟨ib, 5, none⟩ V1) B ib X b op n V1 P args1 rs ∧ W1.heap[ib]? = some (.cells (insCells op 0 0 0 n V) 37 (0, 0)) := by
  have h1 := h.lib
  have h2 := h.lB
  have hbox := (hb.block _ (by omega)).trans h.box
  have hi := only1 W1 ib 5 V1
  have hap : ∀ g, V1.ownBlock = some g → some g ≠ P.ownBlock := fun g hg => by
    rcases hw with hw | hw
    · exact h.apart g (by rw [← hw]; exact hg)
    · intro e
      rw [hg] at hw
      have := (h.reg.lt e.symm).2
      injection hw with hw
      omega
  refine ⟨⟨hi.heap ((hb.block _ (by omega)).trans h.ins) (show ¬ w.heap.size = ib by omega), hi.heap ?_ (show ¬ w.heap.size + 1 = ib by omega), heap_setCell_same W1 ib 5 _ _ V1 hbox, own_one ho hi h.lB, own_one (Owns.of_blocks h.reg (fun g hg => hk g (h.reg.lt hg).2 (fun e => h.apart g e.symm hg.symm)) hs) hi h.lB, below_one (h.bel.trans (hb.mono (by omega))) hi (by omega) (Nat.le_trans h.bel.size hs), h.lib, h.lB, hap⟩, hbox⟩
  rw [hb.block _ (by omega)]
  exact h.fau
end
structure Early (w W : World) : Prop where
  ins : W.heap[w.heap.size]? = some (.cells (insCells 0 0 0 0 0 (.slice none 0 0)) 37 (0, 0))
  fau : flt W (w.heap.size + 1) 0 0
  bel : Below w.heap.size w W
theorem Early.grow {w W W1 : World} (h : Early w W) (hb : Below W.heap.size W W1) : Early w W1 := ⟨(hb.block _ (heap_lt h.ins)).trans h.ins, (hb.block _ (heap_lt h.fau)).trans h.fau, h.bel.trans (hb.mono h.bel.size)⟩
theorem early_end {w W W1 : World} (h : Early w W) (hb : Below W.heap.size W W1) (z k : Int) :
    W1.heap[w.heap.size]? = some (.cells (insCells 0 0 0 0 0 (.slice none 0 0)) 37 (0, 0)) ∧ flt W1 (w.heap.size + 1) 0 0 ∧
    Below w.heap.size w (set2 (set6 W1 w.heap.size (.int .i64 0) (.int .i64 0) (.int .i64 0) (.int .i64 0) (.int .i64 0) (.slice none 0 0)) (w.heap.size + 1) (.int .i64 z) (.int .i64 k)) := by
  have h1 := h.grow hb
  have h2 := below_one h1.bel (only6 W1 w.heap.size (.int .i64 0) (.int .i64 0) (.int .i64 0) (.int .i64 0) (.int .i64 0) (.slice none 0 0)) (Nat.le_refl _) h1.bel.size
  exact ⟨h1.ins, h1.fau, below_one h2 (only2 _ _ _ _) (Nat.le_succ _) h2.size⟩
end Go.Proofs.YtfdblmjgpoocpaaGreat

/- (Ref07D) The document's own Get of layer 7, where an operation stands at the place. Contracts; no condition but that the bytes are few. -/
namespace Go.Proofs.YtfdblmjgpoocpaaGreat
open Go.RowKit Go.Shelf
set_option linter.unusedVariables false
set_option linter.unusedSimpArgs false

theorem width_cases (q : Int) : widthV q = 1 ∨ widthV q = 2 ∨ widthV q = 8 := by unfold widthV; (repeat' split) <;> omega
theorem readQ_l_end {b : List Int} {s : RdV} (h : b.length < s.pos + 1) : readQ b 108 s = (4, s) := by unfold readQ; rw [if_pos rfl, if_pos h]
theorem readQ_l_many {b : List Int} {s : RdV} (h : s.pos + 1 ≤ b.length) (h8 : 8 < b.getD s.pos 0) : readQ b 108 s = (3, s) := by unfold readQ; rw [if_pos rfl, if_neg (by omega), if_pos h8]
theorem readQ_l_cut {b : List Int} {s : RdV} (h : s.pos + 1 ≤ b.length) (h8 : ¬ 8 < b.getD s.pos 0) (hc : b.length < s.pos + 1 + (b.getD s.pos 0).toNat) : readQ b 108 s = (4, s) := by unfold readQ; rw [if_pos rfl, if_neg (by omega), if_neg h8, if_pos hc]
theorem readQ_l_yes {b : List Int} {s : RdV} (h : s.pos + 1 ≤ b.length) (h8 : ¬ 8 < b.getD s.pos 0) (hc : s.pos + 1 + (b.getD s.pos 0).toNat ≤ b.length) : readQ b 108 s = (0, ⟨s.pos + 1 + (b.getD s.pos 0).toNat, s.rs, s.n, (b.drop (s.pos + 1)).take (b.getD s.pos 0).toNat⟩) := by unfold readQ; rw [if_pos rfl, if_neg (by omega), if_neg h8, if_neg (by omega)]
theorem wrap_in (x : Int) : InI (wrapI x) := by unfold InI wrapI; rw [IntKind.wrap_i64]; omega
theorem early_of {w W : World} {B ib : Nat} {X V P : Value} {b args rs : List Int} {op n : Int} (h : RgAt w W B ib X b op n V P args rs) : Early w W := ⟨h.ins, h.fau, h.bel⟩
/-- An append of one number, as a step of a region that draws. -/
theorem step_outW {W : World} {ops : Array Oper} {o : Oper} {a : Act} {K : Act → World → Prop} {Q : Exit → Act → World → Prop} {E : Prop} (hgd : o.guard = none) (s x : Operand)
    (ho : o.op = .call { callee := .builtin .append, args := #[s, x], argTypes := #[35, 35] }) {V : Value} {xs : List Int} {z : Int} {base : Nat} (hs : a.eval s = V) (hx : a.eval x = .slice (some ⟨W.heap.size, 0, none⟩) 1 1) (h : OutN base W V xs)
    (hb : base ≤ W.heap.size) (hl : xs.length ≤ 1000000)
    (hK : ∀ V' W', OutN base W' V' (xs ++ [z]) → Below base W W' → (∀ i, i < W.heap.size → some i ≠ V.ownBlock → W'.heap[i]? = W.heap[i]?) → W.heap.size ≤ W'.heap.size → (V'.ownBlock = V.ownBlock ∨ V'.ownBlock = some (W.heap.size + 1)) → K (a.put o.dst V') W') :
    if Region.wanted o (yielded ops a.tmps) = true then Oper.wp Tryz.prog o a (W.alloc (.cells #[.int .i64 z] 3)) K Q else E := by
  rw [if_pos (by simp [Region.wanted, hgd])]
  obtain ⟨i, hi, h1, h2, h3⟩ := info_parts int_info
  have ha : Below W.heap.size W (W.alloc (.cells #[.int .i64 z] 3)) := (Below.refl W.heap.size W).alloc (Nat.le_refl _) (.cells #[.int .i64 z] 3)
  have hg := Owns.below h ha (Nat.le_refl _)
  obtain ⟨V', W', hr, ho', hg'⟩ := run_append_q (P := Tryz.prog) _ base 35 o.type 3 i _ 1 8 Tryz.underlying35 hi h1 h2 h3 rfl (by decide) (IsNum .i64) (zero_num .i64) V xs.length (xs.map (Value.int .i64)) hg ⟨W.heap.size, 0, none⟩ 1 1 [.int .i64 z] rfl (news_one _ _ _) (by intro u hu; simp at hu; subst hu; rfl) (by intro u hu; simp at hu; subst hu; exact ⟨_, rfl⟩) (by unfold maxLen; omega) (by omega) (by simp; omega)
  obtain ⟨V2, W2, hr2, _, _, hw2⟩ := run_append_where (P := Tryz.prog) _ base 35 o.type 3 i _ 1 8 Tryz.underlying35 hi h1 h2 h3 rfl (by decide) V xs.length (xs.map (Value.int .i64)) hg.1 ⟨W.heap.size, 0, none⟩ 1 1 (by decide) [.int .i64 z] rfl (news_one _ _ _) (by intro u hu; simp at hu; subst hu; rfl) (by unfold maxLen; omega) (by omega) (by simp; omega)
  rw [hr] at hr2
  injection hr2 with e1 e2
  subst e1 e2
  have e : World.grownBy (W.alloc (.cells #[.int .i64 z] 3)) W' V.ownBlock := hg'
  unfold Oper.wp execOp
  simp only [ho, resolve, invoke, builtin, Sem.run_bind, Sem.run_pure, Result.andThen_ok, List.map_toArray, List.map_cons, List.map_nil, hs, hx, hr]
  exact hK V' W' (by rw [OutN, List.length_append, List.map_append]; exact ho') ((ha.mono hb).grown e (by simp; omega) fun j hj => (h.lt hj).1) (fun i hi hn => (e.block i (by simp; omega) hn).trans (ha.block i hi)) (Nat.le_trans (by simp) e.size) (by simpa using hw2)
theorem not_again {L : List Int} (h : GoodL (108 :: L)) : 108 ∉ L := by
  intro hm
  have h1 := h.one
  rw [List.filter_cons_of_pos (by decide), List.length_cons] at h1
  have : (108 : Int) ∈ L.filter (fun q => q == 108) := List.mem_filter.2 ⟨hm, by decide⟩
  have := List.length_pos_of_mem this
  omega
theorem part_snoc {b : List Int} {p i : Nat} (h : p + i < b.length) : (b.drop p).take (i + 1) = (b.drop p).take i ++ [b.getD (p + i) 0] := by
  rw [take_snoc' (by simp; omega)]
  simp [List.getD]
theorem news_three (w : World) (x y z : Value) (t : TypeId) : ∀ j u, [x, y, z][j]? = some u → (w.alloc (.cells #[x, y, z] t)).cell? ((⟨w.heap.size, 0, none⟩ : Addr).add j) = some u :=
  World.news_of_block (cs := #[x, y, z]) (heap_alloc_new w _)
/-- An append of three zeros, at the operation. -/
theorem wpList_out3 {W : World} {ops : Array Oper} {rest : List Oper} {o : Oper} {a : Act} {Q : Exit → Act → World → Prop} (hgd : o.guard = none) (s x : Operand)
    (ho : o.op = .call { callee := .builtin .append, args := #[s, x], argTypes := #[35, 35] }) {V : Value} {xs : List Int} {base : Nat} (hs : a.eval s = V) (hx : a.eval x = .slice (some ⟨W.heap.size, 0, none⟩) 3 3) (h : OutN base W V xs)
    (hb : base ≤ W.heap.size) (hl : xs.length ≤ 1000000)
    (hK : ∀ g cap W', OutN base W' (.slice (some ⟨g, 0, none⟩) (xs.length + 3) cap) (xs ++ [0, 0, 0]) → xs.length + 3 ≤ cap → Below base W W' → (∀ i, i < W.heap.size → some i ≠ V.ownBlock → W'.heap[i]? = W.heap[i]?) → W.heap.size ≤ W'.heap.size → (some g = V.ownBlock ∨ g = W.heap.size + 1) → wpList Tryz.prog ops Q rest (a.put o.dst (.slice (some ⟨g, 0, none⟩) (xs.length + 3) cap)) W') :
    wpList Tryz.prog ops Q (o :: rest) a (W.alloc (.cells #[.int .i64 0, .int .i64 0, .int .i64 0] 3)) := by
  obtain ⟨i, hi, h1, h2, h3⟩ := info_parts int_info
  have ha : Below W.heap.size W (W.alloc (.cells #[.int .i64 0, .int .i64 0, .int .i64 0] 3)) := (Below.refl W.heap.size W).alloc (Nat.le_refl _) (.cells #[.int .i64 0, .int .i64 0, .int .i64 0] 3)
  have hg := Owns.below h ha (Nat.le_refl _)
  refine wpList_plain hgd fun _ hK' => ?_
  obtain ⟨V', W', hr, ho', hg'⟩ := run_append_q (P := Tryz.prog) _ base 35 o.type 3 i _ 1 8 Tryz.underlying35 hi h1 h2 h3 rfl (by decide) (IsNum .i64) (zero_num .i64) V xs.length (xs.map (Value.int .i64)) hg ⟨W.heap.size, 0, none⟩ 3 3 [.int .i64 0, .int .i64 0, .int .i64 0] rfl (news_three _ _ _ _ _) (by intro u hu; simp at hu; subst hu; rfl) (by intro u hu; simp at hu; subst hu; exact ⟨_, rfl⟩) (by unfold maxLen; omega) (by omega) (by simp; omega)
  obtain ⟨V2, W2, hr2, _, _, hw2⟩ := run_append_where (P := Tryz.prog) _ base 35 o.type 3 i _ 1 8 Tryz.underlying35 hi h1 h2 h3 rfl (by decide) V xs.length (xs.map (Value.int .i64)) hg.1 ⟨W.heap.size, 0, none⟩ 3 3 (by decide) [.int .i64 0, .int .i64 0, .int .i64 0] rfl (news_three _ _ _ _ _) (by intro u hu; simp at hu; subst hu; rfl) (by unfold maxLen; omega) (by omega) (by simp; omega)
  rw [hr] at hr2
  injection hr2 with e1 e2
  subst e1 e2
  have e : World.grownBy (W.alloc (.cells #[.int .i64 0, .int .i64 0, .int .i64 0] 3)) W' V.ownBlock := hg'
  unfold Oper.wp execOp
  simp only [ho, resolve, invoke, builtin, Sem.run_bind, Sem.run_pure, Result.andThen_ok, List.map_toArray, List.map_cons, List.map_nil, hs, hx, hr]
  have ho2 : OutN base W' V' (xs ++ [0, 0, 0]) := by rw [OutN, List.length_append, List.map_append]; exact ho'
  rcases ho'.1.2 with ⟨rfl, h0⟩ | ⟨g, cap, cur, rfl, q1, q2, q3, q4, q5, q6⟩
  · omega
  · exact hK' _ _ (hK g cap W' ho2 q3 ((ha.mono hb).grown e (by simp; omega) fun j hj => (h.lt hj).1) (fun i hi hn => (e.block i (by simp; omega) hn).trans (ha.block i hi)) (Nat.le_trans (by simp) e.size) (by simpa [Value.ownBlock, eq_comm] using hw2))
theorem pad_at (rs : List Int) (j : Nat) : (rs ++ [0, 0, 0]).getD j 0 = rs.getD j 0 := by
  by_cases h : j < rs.length
  · simp [List.getD, List.getElem?_append_left h]
  · rw [List.getD, List.getD, List.getElem?_append_right (by omega), List.getElem?_eq_none (by omega : rs.length ≤ j)]
    rcases (show j - rs.length = 0 ∨ j - rs.length = 1 ∨ j - rs.length = 2 ∨ 3 ≤ j - rs.length by omega) with e | e | e | e
    · rw [e]; rfl
    · rw [e]; rfl
    · rw [e]; rfl
    · rw [List.getElem?_eq_none (by simpa using e)]
theorem pad_cells {base g cap n : Nat} {W : World} {rs : List Int} (h : OutN base W (.slice (some ⟨g, 0, none⟩) n cap) (rs ++ [0, 0, 0])) : W.cell? ⟨g, 0, none⟩ = some (.int .i64 (rs.getD 0 0)) ∧ W.cell? ⟨g, 1, none⟩ = some (.int .i64 (rs.getD 1 0)) ∧ W.cell? ⟨g, 2, none⟩ = some (.int .i64 (rs.getD 2 0)) := by
  have hc : ∀ j, j < 3 → W.cell? ⟨g, j, none⟩ = some (.int .i64 (rs.getD j 0)) := by
    intro j hj
    have hl : j < (rs ++ [0, 0, 0]).length := by simp; omega
    have := h.1.cells (g := g) rfl j (.int .i64 ((rs ++ [0, 0, 0]).getD j 0)) (by rw [List.getElem?_map, List.getElem?_eq_getElem hl]; simp [List.getD, List.getElem?_eq_getElem hl])
    rw [pad_at] at this
    rw [← this]
    congr 1
    unfold Addr.add
    split <;> simp_all
  exact ⟨hc 0 (by omega), hc 1 (by omega), hc 2 (by omega)⟩
/-- What the document's own Get has made at its end. -/
structure FinAt (w W : World) (B ib : Nat) (op a b c n : Int) (V : Value) (args : List Int) : Prop where
  ins : W.heap[w.heap.size]? = some (.cells (insCells 0 0 0 0 0 (.slice none 0 0)) 37 (0, 0))
  fau : flt W (w.heap.size + 1) 0 0
  box : W.heap[ib]? = some (.cells (insCells op a b c n V) 37 (0, 0))
  own : OutN B W V args
  bel : Below w.heap.size w W
  lB : w.heap.size + 1 < B
theorem FinAt.grow {w W W1 : World} {B ib : Nat} {op a b c n : Int} {V : Value} {args : List Int} (h : FinAt w W B ib op a b c n V args) (hb : Below W.heap.size W W1) : FinAt w W1 B ib op a b c n V args :=
  ⟨(hb.block _ (heap_lt h.ins)).trans h.ins, (hb.block _ (heap_lt h.fau)).trans h.fau, (hb.block _ (heap_lt h.box)).trans h.box, Owns.below h.own hb (Nat.le_refl _), h.bel.trans (hb.mono h.bel.size), h.lB⟩
theorem FinAt.nums {w W : World} {B ib : Nat} {op a b c n : Int} {V : Value} {args : List Int} (h : FinAt w W B ib op a b c n V args) : IsNums .i64 W W.heap.size V args := IsNums.of_owns h.own (Nat.le_refl _)
theorem FinAt.early {w W : World} {B ib : Nat} {op a b c n : Int} {V : Value} {args : List Int} (h : FinAt w W B ib op a b c n V args) : Early w W := ⟨h.ins, h.fau, h.bel⟩
theorem RgAt.fin {w W : World} {B ib : Nat} {X V P : Value} {b args rs : List Int} {op n : Int} (h : RgAt w W B ib X b op n V P args rs) (a b' c : Int) : FinAt w (((W.setCell ⟨ib, 1, none⟩ (.int .i64 a)).setCell ⟨ib, 2, none⟩ (.int .i64 b')).setCell ⟨ib, 3, none⟩ (.int .i64 c)) B ib op a b' c n V args := by
  have hb := (((But.refl (OneBlock ib) W).setCell (p := ⟨ib, 1, none⟩) (.inl rfl) (.int .i64 a)).setCell (p := ⟨ib, 2, none⟩) (.inl rfl) (.int .i64 b')).setCell (p := ⟨ib, 3, none⟩) (.inl rfl) (.int .i64 c)
  have h1 := h.lib
  have h2 := h.lB
  refine ⟨hb.heap h.ins (show ¬ w.heap.size = ib by omega), hb.heap h.fau (show ¬ w.heap.size + 1 = ib by omega), ?_, own_one h.own hb h.lB, below_one h.bel hb (by omega) h.bel.size, by omega⟩
  exact heap_setCell_same _ ib 3 _ _ (.int .i64 c) (heap_setCell_same _ ib 2 _ _ (.int .i64 b') (heap_setCell_same W ib 1 _ _ (.int .i64 a) h.box))
theorem fin_end {w W : World} {B ib : Nat} {op a b c n : Int} {V : Value} {args : List Int} (h : FinAt w W B ib op a b c n V args) :
    Below w.heap.size w (set2 (set6 W w.heap.size (.int .i64 op) (.int .i64 a) (.int .i64 b) (.int .i64 c) (.int .i64 n) V) (w.heap.size + 1) (.int .i64 0) (.int .i64 0)) ∧ OutN w.heap.size (set2 (set6 W w.heap.size (.int .i64 op) (.int .i64 a) (.int .i64 b) (.int .i64 c) (.int .i64 n) V) (w.heap.size + 1) (.int .i64 0) (.int .i64 0)) V args := by
  have h0 := h.lB
  have h1 := below_one h.bel (only6 W w.heap.size (.int .i64 op) (.int .i64 a) (.int .i64 b) (.int .i64 c) (.int .i64 n) V) (Nat.le_refl _) h.bel.size
  exact ⟨below_one h1 (only2 _ _ _ _) (Nat.le_succ _) h1.size, Owns.base (own_one (own_one h.own (only6 W w.heap.size (.int .i64 op) (.int .i64 a) (.int .i64 b) (.int .i64 c) (.int .i64 n) V) (by omega)) (only2 _ (w.heap.size + 1) (.int .i64 0) (.int .i64 0)) (by omega)) (by omega)⟩
theorem part_one7 {b : List Int} {p : Nat} (h : p < b.length) : numV ((b.drop p).take 1) = b.getD p 0 := by rw [show (b.drop p).take 1 = [b.getD p 0] from by rw [getD_cons h]; simp, numV_one]
end Go.Proofs.YtfdblmjgpoocpaaGreat

/- (Ref07E) The document's own Get and Split of layer 7. Contracts; no condition but that the bytes are few. -/
namespace Go.Proofs.YtfdblmjgpoocpaaGreat
open Go.RowKit Go.Shelf
set_option linter.unusedVariables false
set_option linter.unusedSimpArgs false

end Go.Proofs.YtfdblmjgpoocpaaGreat
