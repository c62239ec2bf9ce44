/- The landed (*input).instruction: an instruction is read. Contract; no condition but that the input's place is within its bytes. -/
import Derived.Test.YtobbjphpngckgaaCode07F
namespace Go.Proofs.Ytobbjphpngckgaa
open Go.RowKit Go.Shelf
set_option linter.unusedVariables false
set_option linter.unusedSimpArgs false

abbrev set6 (W : World) (g : Nat) (v0 v1 v2 v3 v4 v5 : Value) : World := (((((W.setCell ⟨g, 0, none⟩ v0).setCell ⟨g, 1, none⟩ v1).setCell ⟨g, 2, none⟩ v2).setCell ⟨g, 3, none⟩ v3).setCell ⟨g, 4, none⟩ v4).setCell ⟨g, 5, none⟩ v5
theorem but_set6 {R : Nat → Prop} {w W : World} (h : But R w W) {g : Nat} (hg : R g ∨ w.heap.size ≤ g) (v0 v1 v2 v3 v4 v5 : Value) : But R w (set6 W g v0 v1 v2 v3 v4 v5) :=
  (((((h.setCell (p := ⟨g, 0, none⟩) hg v0).setCell (p := ⟨g, 1, none⟩) hg v1).setCell (p := ⟨g, 2, none⟩) hg v2).setCell (p := ⟨g, 3, none⟩) hg v3).setCell (p := ⟨g, 4, none⟩) hg v4).setCell (p := ⟨g, 5, none⟩) hg v5
theorem only6 (W : World) (g : Nat) (v0 v1 v2 v3 v4 v5 : Value) : But (OneBlock g) W (set6 W g v0 v1 v2 v3 v4 v5) := but_set6 (But.refl (OneBlock g) W) (.inl rfl) v0 v1 v2 v3 v4 v5

def InstrDone (w : World) (nb B : Nat) (X : Value) (p : Nat) (b : List Int) (e : Ending) (w' : World) : Prop :=
  But (OneBlock nb) w w' ∧ (((getI b p).err ≠ 0 ∧ e = .returned (.tuple #[.agg (insCells 0 0 0 0 0 (.slice none 0 0)), .int .i64 (getI b p).err]) ∧ ∃ p', InpAt w' nb B X p' b) ∨
   ((getI b p).err = 0 ∧ ∃ V, e = .returned (.tuple #[.agg (insCells (getI b p).y.op (getI b p).y.a (getI b p).y.b (getI b p).y.c (getI b p).y.n V), .int .i64 0]) ∧ InpAt w' nb B X (getI b p).next b ∧ OutN w.heap.size w' V (getI b p).y.args))
theorem instr_bad {w w' : World} {nb B p p' : Nat} {X : Value} {b : List Int} {z : Int} {e : Ending} (hz : (getI b p).err = z) (h0 : z ≠ 0) (hb : But (OneBlock nb) w w') (hi : InpAt w' nb B X p' b) (he : e = .returned (.tuple #[.agg (insCells 0 0 0 0 0 (.slice none 0 0)), .int .i64 z])) : InstrDone w nb B X p b e w' :=
  ⟨hb, .inl ⟨by rw [hz]; exact h0, by rw [hz]; exact he, p', hi⟩⟩
theorem instr_good {w w' : World} {nb B p : Nat} {X : Value} {b : List Int} {y : InsV} {next : Nat} {V : Value} {e : Ending} (hz : getI b p = ⟨0, 0, y, next⟩) (hb : But (OneBlock nb) w w') (hi : InpAt w' nb B X next b) (ho : OutN w.heap.size w' V y.args) (he : e = .returned (.tuple #[.agg (insCells y.op y.a y.b y.c y.n V), .int .i64 0])) : InstrDone w nb B X p b e w' :=
  ⟨hb, .inr (by rw [hz]; exact ⟨rfl, V, he, hi, ho⟩)⟩
theorem names_full : nameL.all (fun s => !s.toList.isEmpty) = true := by kernel_rfl
theorem name_full {op : Int} (h : 0 ≤ op ∧ op < 33) : (nameI op).toList.isEmpty = false := by
  have hl : nameL.length = 33 := by kernel_rfl
  have hk : op.toNat < nameL.length := by omega
  have e : nameI op = nameL[op.toNat] := by unfold nameI nameB; rw [if_pos h]; simp [List.getD, hk]
  rw [e]
  have := List.all_eq_true.1 names_full _ (List.getElem_mem hk)
  simpa using this
theorem instr_set {w w1 : World} {nb B p' : Nat} {X : Value} {b : List Int} (hb : But (OneBlock nb) w w1) (hi : InpAt w1 nb B X p' b) (hnw : nb < w.heap.size) (v0 v1 v2 v3 v4 v5 : Value) :
    But (OneBlock nb) w (set6 w1 w.heap.size v0 v1 v2 v3 v4 v5) ∧ InpAt (set6 w1 w.heap.size v0 v1 v2 v3 v4 v5) nb B X p' b := by
  refine ⟨but_set6 hb (.inr (Nat.le_refl _)) _ _ _ _ _ _, hi.but (only6 _ _ _ _ _ _ _ _) (show ¬ nb = w.heap.size by omega) (fun k hk e => ?_)⟩
  have e' : k = w.heap.size := e
  have := hi.low
  omega
theorem own_set {base : Nat} {w1 : World} {g : Nat} {V : Value} {xs : List Int} (h : OutN base w1 V xs) (hg : g < base) (v0 v1 v2 v3 v4 v5 : Value) : OutN base (set6 w1 g v0 v1 v2 v3 v4 v5) V xs := by
  refine Owns.but h (only6 _ _ _ _ _ _ _ _) (fun k hk e => ?_)
  have e' : k = g := e
  have := (h.lt hk).1
  omega
theorem but_two {w W w3 : World} {nb ib : Nat} (h : But (OneBlock nb) w W) (hb : But (TwoBlocks nb ib) W w3) (hi : w.heap.size ≤ ib) : But (OneBlock nb) w w3 :=
  ⟨hb.os.trans h.os, hb.tape.trans h.tape, hb.output.trans h.output, Nat.le_trans h.size hb.size, fun k hk hn => (hb.block k (Nat.lt_of_lt_of_le hk h.size) (fun e => by
    rcases e with e | e
    · exact hn e
    · omega)).trans (h.block k hk hn)⟩
set_option maxRecDepth 100000 in
set_option maxHeartbeats 8000000 in
theorem instr_any (nb B p : Nat) (X : Value) (b : List Int) (w : World) (h : InpAt w nb B X p b) (hp : p ≤ b.length) :
    Calls Try.prog 46 #[.pointer (some ⟨nb, 0, none⟩)] w (InstrDone w nb B X p b) := by
  have hnw := h.lt
  have hlow := h.low
  have hby := h.byt.1
  have hb0 : Below w.heap.size w (w.alloc (.cells (insCells 0 0 0 0 0 (.slice none 0 0)) 35)) := (Below.refl _ w).alloc (Nat.le_refl _) _
  have h0 := h.below hb0 hnw
  have HB0 := Lib.hid (But.of_below (R := OneBlock nb) hb0)
  have HRB := Lib.hid (heap_alloc_new w (.cells (insCells 0 0 0 0 0 (.slice none 0 0)) 35))
  have HS0 := Lib.hid (show (w.alloc (.cells (insCells 0 0 0 0 0 (.slice none 0 0)) 35)).heap.size = w.heap.size + 1 by simp)
  by_cases h1 : b.length < p + 1
  · have HN := Lib.hid (numin_no1 nb B p X b _ h0 hp h1)
    have HG : Hid ((getI b p).err = 4) := Lib.hid (by unfold getI; rw [if_pos (by omega)])
    clear h hb0 h0 h1 hby
    go_enter Try.func46, Try.ntmps46
    go_wp2_with (go_at_call 62; (with_reducible refine HN.out.mono ?_); rintro e w1 ⟨rfl, hi, hb⟩; have HI := Lib.hid (instr_set (HB0.out.trans hb) hi hnw (.int .i64 0) (.int .i64 0) (.int .i64 0) (.int .i64 0) (.int .i64 0) (.slice none 0 0)); have hr1 := hb.heap HRB.out (show ¬ w.heap.size = nb by omega); obtain ⟨d0, d1, d2, d3, d4, d5⟩ := cells6 hr1; have g0 := free6 hr1 0; have g1 := free6 hr1 1; have g2 := free6 hr1 2; have g3 := free6 hr1 3; have g4 := free6 hr1 4; have g5 := free6 hr1 5; clear hi hb hr1)
    refine bodyPost_ret (v := .tuple #[.agg (insCells 0 0 0 0 0 (.slice none 0 0)), .int .i64 4]) (by simp [results, Try.results46, go_sem, d0, d1, d2, d3, d4, d5]) rfl ?_
    exact instr_bad HG.out (by decide) HI.out.1 HI.out.2 rfl
  have hx := hby _ (getD_mem (show p < b.length by omega))
  have hg : getI b p = if 33 ≤ b.getD p 0 then ⟨16, p, .zero, 0⟩ else if (readL b (lettersOf (shapeI (b.getD p 0))) (startV p)).1 = 4 then ⟨4, b.length, .zero, 0⟩
      else if (readL b (lettersOf (shapeI (b.getD p 0))) (startV p)).1 = 3 then ⟨3, p, .zero, 0⟩
      else if (insOf (b.getD p 0) (readL b (lettersOf (shapeI (b.getD p 0))) (startV p)).2).chk ≠ 0 then ⟨5, p, .zero, 0⟩
      else ⟨0, 0, insOf (b.getD p 0) (readL b (lettersOf (shapeI (b.getD p 0))) (startV p)).2, (readL b (lettersOf (shapeI (b.getD p 0))) (startV p)).2.pos⟩ := by
    conv => lhs; unfold getI
    rw [if_neg (by omega)]
  have HN := Lib.hid (numin_yes1 nb B p X b _ h0 (by omega))
  obtain ⟨op, hop⟩ : ∃ op, op = b.getD p 0 := ⟨_, rfl⟩
  rw [← hop] at hg HN hx
  by_cases h33 : 33 ≤ op
  · rw [if_pos h33] at hg
    have HG : Hid ((getI b p).err = 16) := Lib.hid (by rw [hg])
    have HNm := Lib.hid (fun W => name_no (op := op) (by omega) W)
    clear h hb0 h0 h1 hby hg hx hop h33
    go_enter Try.func46, Try.ntmps46
    go_wp2_with (first
      | (go_at_call 62; (with_reducible refine HN.out.mono ?_); rintro e w1 ⟨rfl, hi, hb⟩; have HI1 := Lib.hid hi; have HB1 := Lib.hid (HB0.out.trans hb); have HR1 := Lib.hid (hb.heap HRB.out (show ¬ w.heap.size = nb by omega)); clear hi hb)
      | (go_at_call 63; (with_reducible refine (HNm.out _).mono ?_); rintro e w2 ⟨rfl, hb⟩; have HI := Lib.hid (instr_set (HB1.out.then_below hb HB1.out.size) (HI1.out.below hb HI1.out.lt) hnw (.int .i64 0) (.int .i64 0) (.int .i64 0) (.int .i64 0) (.int .i64 0) (.slice none 0 0)); have hr2 := (hb.block _ (heap_lt HR1.out)).trans HR1.out; obtain ⟨d0, d1, d2, d3, d4, d5⟩ := cells6 hr2; have g0 := free6 hr2 0; have g1 := free6 hr2 1; have g2 := free6 hr2 2; have g3 := free6 hr2 3; have g4 := free6 hr2 4; have g5 := free6 hr2 5; clear hb hr2))
    refine bodyPost_ret (v := .tuple #[.agg (insCells 0 0 0 0 0 (.slice none 0 0)), .int .i64 16]) (by simp [results, Try.results46, go_sem, d0, d1, d2, d3, d4, d5]) rfl ?_
    exact instr_bad HG.out (by decide) HI.out.1 HI.out.2 rfl
  rw [if_neg h33] at hg
  have hop33 : 0 ≤ op ∧ op < 33 := ⟨hx.1, by omega⟩
  have hnf := name_full hop33
  have HNm := Lib.hid (fun W => name_any op W)
  obtain ⟨r, hr⟩ : ∃ r, r = readL b (lettersOf (shapeI op)) (startV p) := ⟨_, rfl⟩
  rw [← hr] at hg
  have HFl := Lib.hid (fun W ib (hi : InpAt W nb B X (p + 1) b) hbox hBi => fields7_any nb B ib (p + 1) op X b W hi (show p + 1 ≤ b.length by omega) hbox hBi)
  rw [show readL b (lettersOf (shapeI op)) ⟨p + 1, [], 0, []⟩ = r from hr.symm] at HFl
  have hkinds := readL_kinds b (lettersOf (shapeI op)) (startV p)
  rw [← hr] at hkinds
  generalize nameI op = nm at hnf HNm
  have HNF := Lib.hid hnf
  have hn1 : ¬ nm.toList = [] := by intro e; rw [e] at hnf; simp at hnf
  have hn2 : (nm.toList == []) = false := by simpa using hn1
  clear h hb0 h0 h1 hby hx hop h33 hr
  by_cases hr0 : r.1 = 0
  · obtain ⟨s', hs'⟩ : ∃ s', s' = r.2 := ⟨_, rfl⟩
    have hr0' : r = (0, s') := by rw [hs', ← hr0]
    rw [hr0'] at hg HFl
    simp only [] at hg
    rw [if_neg (by decide), if_neg (by decide)] at hg
    obtain ⟨ps, rs, n, args⟩ := s'
    have hio : insOf op ⟨ps, rs, n, args⟩ = ⟨op, rs.getD 0 0, rs.getD 1 0, rs.getD 2 0, n, args⟩ := rfl
    rw [hio] at hg
    clear hio hkinds hs' hr0 hr0' hop33 hnf
    generalize hA : rs.getD 0 0 = a1 at hg
    generalize hB : rs.getD 1 0 = a2 at hg
    generalize hC : rs.getD 2 0 = a3 at hg
    have HFv : Hid (rs.getD 0 0 = a1 ∧ rs.getD 1 0 = a2 ∧ rs.getD 2 0 = a3) := Lib.hid ⟨hA, hB, hC⟩
    have HCk := Lib.hid (fun W V (h : IsNums .i64 W W.heap.size V args) => check7_any op a1 a2 a3 n V args W h)
    clear hA hB hC
    obtain ⟨z, hz⟩ : ∃ z, z = InsV.chk ⟨op, a1, a2, a3, n, args⟩ := ⟨_, rfl⟩
    rw [← hz] at HCk hg
    by_cases hz0 : z = 0
    · have HG : Hid (getI b p = ⟨0, 0, ⟨op, a1, a2, a3, n, args⟩, ps⟩) := Lib.hid (by rw [hg, if_neg (by simp [hz0])])
      rw [hz0] at HCk
      clear hg hz hz0 z
      go_enter Try.func46, Try.ntmps46
      go_wp2_with (first
        | (go_at_call 62; (with_reducible refine HN.out.mono ?_); rintro e w1 ⟨rfl, hi, hb⟩; have HI1 := Lib.hid hi; have HB1 := Lib.hid (HB0.out.trans hb); have HR1 := Lib.hid (hb.heap HRB.out (show ¬ w.heap.size = nb by omega)); clear hi hb)
        | (go_at_call 63; (with_reducible refine (HNm.out _).mono ?_); rintro e w2 ⟨rfl, hb⟩; have HI2 := Lib.hid (HI1.out.below hb HI1.out.lt); have HB2 := Lib.hid (HB1.out.then_below hb HB1.out.size); have HR2 := Lib.hid ((hb.block _ (heap_lt HR1.out)).trans HR1.out); clear hb; have ha := (Below.refl w2.heap.size w2).alloc (Nat.le_refl _) (.cells (insCells op 0 0 0 0 (.slice none 0 0)) 35); have HB3 := Lib.hid (HB2.out.then_below ha HB2.out.size); have HI3 := Lib.hid (HI2.out.below ha HI2.out.lt); have HR3 := Lib.hid ((ha.block _ (heap_lt HR2.out)).trans HR2.out); have HX3 := Lib.hid (heap_alloc_new w2 (.cells (insCells op 0 0 0 0 (.slice none 0 0)) 35)); have HS3 := Lib.hid (show (w2.alloc (.cells (insCells op 0 0 0 0 (.slice none 0 0)) 35)).heap.size = w2.heap.size + 1 by simp); clear ha)
        | (go_at_call 64; (with_reducible refine (HFl.out _ _ HI3.out HX3.out (by have := HI2.out.low; have := HI2.out.lt; omega)).mono ?_); rintro e w3 ⟨hb, ⟨p', hi, hpos⟩, rfl, hgd⟩; obtain ⟨V5, hx5, ho5⟩ := hgd rfl; have hpos' := hpos rfl; subst hpos'; have hlr := heap_lt HR2.out; have HLT : Hid (w.heap.size < (w2.alloc (.cells (insCells op 0 0 0 0 (.slice none 0 0)) 35)).heap.size) := Lib.hid (by rw [HS3.out]; omega); have HI5 := Lib.hid hi; have HB5 := Lib.hid (but_two HB3.out hb (by omega)); have HR5 := Lib.hid (hb.heap HR3.out (show ¬ (w.heap.size = nb ∨ w.heap.size = w2.heap.size) by omega)); dsimp only at hx5 ho5; rw [HFv.out.1, HFv.out.2.1, HFv.out.2.2] at hx5; obtain ⟨VA, Vc, hV5⟩ := owns_len ho5; subst hV5; have HX5 := Lib.hid hx5; have HO5 := Lib.hid ho5; have HNU := Lib.hid (IsNums.of_owns ho5 (Nat.le_refl _)); obtain ⟨k0, k1, k2, k3, k4, k5⟩ := cells6 hx5; clear hb hi hpos hgd hx5 ho5)
        | (go_at_call 36; (with_reducible refine (HCk.out _ _ HNU.out).mono ?_); rintro e w4 ⟨rfl, hb⟩; have HI4 := Lib.hid (HI5.out.below hb HI5.out.lt); have HB4 := Lib.hid (HB5.out.then_below hb HB5.out.size); have hr4 := (hb.block _ (heap_lt HR5.out)).trans HR5.out; have hx4 := (hb.block _ (heap_lt HX5.out)).trans HX5.out; have HO4 := Lib.hid (Owns.below HO5.out hb (Nat.le_refl _)); obtain ⟨d0, d1, d2, d3, d4, d5⟩ := cells6 hr4; have g0 := free6 hr4 0; have g1 := free6 hr4 1; have g2 := free6 hr4 2; have g3 := free6 hr4 3; have g4 := free6 hr4 4; have g5 := free6 hr4 5; obtain ⟨k0, k1, k2, k3, k4, k5⟩ := cells6 hx4; clear hb hr4 hx4))
      have HF := Lib.hid (instr_set HB4.out HI4.out hnw (.int .i64 op) (.int .i64 a1) (.int .i64 a2) (.int .i64 a3) (.int .i64 n) (.slice VA args.length Vc))
      have HO := Lib.hid (own_set HO4.out (g := w.heap.size) HLT.out (.int .i64 op) (.int .i64 a1) (.int .i64 a2) (.int .i64 a3) (.int .i64 n) (.slice VA args.length Vc))
      refine bodyPost_ret (v := .tuple #[.agg (insCells op a1 a2 a3 n (.slice VA args.length Vc)), .int .i64 0]) (by simp [results, Try.results46, go_sem, d0, d1, d2, d3, d4, d5]) rfl ?_
      exact instr_good HG.out HF.out.1 HF.out.2 (Owns.base HO.out (Nat.le_of_lt HLT.out)) rfl
    · have HG : Hid ((getI b p).err = 5) := Lib.hid (by rw [hg, if_pos hz0])
      have hne : (z != 0) = true := by simpa using hz0
      clear hg hz hz0
      go_enter Try.func46, Try.ntmps46
      go_wp2_with (first
        | (go_at_call 62; (with_reducible refine HN.out.mono ?_); rintro e w1 ⟨rfl, hi, hb⟩; have HI1 := Lib.hid hi; have HB1 := Lib.hid (HB0.out.trans hb); have HR1 := Lib.hid (hb.heap HRB.out (show ¬ w.heap.size = nb by omega)); clear hi hb)
        | (go_at_call 63; (with_reducible refine (HNm.out _).mono ?_); rintro e w2 ⟨rfl, hb⟩; have HI2 := Lib.hid (HI1.out.below hb HI1.out.lt); have HB2 := Lib.hid (HB1.out.then_below hb HB1.out.size); have HR2 := Lib.hid ((hb.block _ (heap_lt HR1.out)).trans HR1.out); clear hb; have ha := (Below.refl w2.heap.size w2).alloc (Nat.le_refl _) (.cells (insCells op 0 0 0 0 (.slice none 0 0)) 35); have HB3 := Lib.hid (HB2.out.then_below ha HB2.out.size); have HI3 := Lib.hid (HI2.out.below ha HI2.out.lt); have HR3 := Lib.hid ((ha.block _ (heap_lt HR2.out)).trans HR2.out); have HX3 := Lib.hid (heap_alloc_new w2 (.cells (insCells op 0 0 0 0 (.slice none 0 0)) 35)); have HS3 := Lib.hid (show (w2.alloc (.cells (insCells op 0 0 0 0 (.slice none 0 0)) 35)).heap.size = w2.heap.size + 1 by simp); clear ha)
        | (go_at_call 64; (with_reducible refine (HFl.out _ _ HI3.out HX3.out (by have := HI2.out.low; have := HI2.out.lt; omega)).mono ?_); rintro e w3 ⟨hb, ⟨p', hi, hpos⟩, rfl, hgd⟩; obtain ⟨V5, hx5, ho5⟩ := hgd rfl; have hpos' := hpos rfl; subst hpos'; have hlr := heap_lt HR2.out; have HLT : Hid (w.heap.size < (w2.alloc (.cells (insCells op 0 0 0 0 (.slice none 0 0)) 35)).heap.size) := Lib.hid (by rw [HS3.out]; omega); have HI5 := Lib.hid hi; have HB5 := Lib.hid (but_two HB3.out hb (by omega)); have HR5 := Lib.hid (hb.heap HR3.out (show ¬ (w.heap.size = nb ∨ w.heap.size = w2.heap.size) by omega)); dsimp only at hx5 ho5; rw [HFv.out.1, HFv.out.2.1, HFv.out.2.2] at hx5; obtain ⟨VA, Vc, hV5⟩ := owns_len ho5; subst hV5; have HX5 := Lib.hid hx5; have HO5 := Lib.hid ho5; have HNU := Lib.hid (IsNums.of_owns ho5 (Nat.le_refl _)); obtain ⟨k0, k1, k2, k3, k4, k5⟩ := cells6 hx5; clear hb hi hpos hgd hx5 ho5)
        | (go_at_call 36; (with_reducible refine (HCk.out _ _ HNU.out).mono ?_); rintro e w4 ⟨rfl, hb⟩; have HI4 := Lib.hid (HI5.out.below hb HI5.out.lt); have HB4 := Lib.hid (HB5.out.then_below hb HB5.out.size); have hr4 := (hb.block _ (heap_lt HR5.out)).trans HR5.out; obtain ⟨d0, d1, d2, d3, d4, d5⟩ := cells6 hr4; have g0 := free6 hr4 0; have g1 := free6 hr4 1; have g2 := free6 hr4 2; have g3 := free6 hr4 3; have g4 := free6 hr4 4; have g5 := free6 hr4 5; clear hb hr4))
      have HF := Lib.hid (instr_set HB4.out HI4.out hnw (.int .i64 0) (.int .i64 0) (.int .i64 0) (.int .i64 0) (.int .i64 0) (.slice none 0 0))
      refine bodyPost_ret (v := .tuple #[.agg (insCells 0 0 0 0 0 (.slice none 0 0)), .int .i64 5]) (by simp [results, Try.results46, go_sem, d0, d1, d2, d3, d4, d5]) rfl ?_
      exact instr_bad HG.out (by decide) HF.out.1 HF.out.2 rfl
  · obtain ⟨z, hz⟩ : ∃ z, z = r.1 := ⟨_, rfl⟩
    have HG : Hid ((getI b p).err = z) := Lib.hid (by rw [hg, hz]; rcases hkinds with h | h | h <;> simp [h] at hr0 ⊢)
    rw [← hz] at hr0
    have HZ := Lib.hid hr0
    have HZR := Lib.hid hz
    have hne : (z != 0) = true := by simpa using hr0
    clear hr0 hz hkinds hg hop33 hnf
    go_enter Try.func46, Try.ntmps46
    go_wp2_with (first
      | (go_at_call 62; (with_reducible refine HN.out.mono ?_); rintro e w1 ⟨rfl, hi, hb⟩; have HI1 := Lib.hid hi; have HB1 := Lib.hid (HB0.out.trans hb); have HR1 := Lib.hid (hb.heap HRB.out (show ¬ w.heap.size = nb by omega)); clear hi hb)
      | (go_at_call 63; (with_reducible refine (HNm.out _).mono ?_); rintro e w2 ⟨rfl, hb⟩; have HI2 := Lib.hid (HI1.out.below hb HI1.out.lt); have HB2 := Lib.hid (HB1.out.then_below hb HB1.out.size); have HR2 := Lib.hid ((hb.block _ (heap_lt HR1.out)).trans HR1.out); clear hb; have ha := (Below.refl w2.heap.size w2).alloc (Nat.le_refl _) (.cells (insCells op 0 0 0 0 (.slice none 0 0)) 35); have HB3 := Lib.hid (HB2.out.then_below ha HB2.out.size); have HI3 := Lib.hid (HI2.out.below ha HI2.out.lt); have HR3 := Lib.hid ((ha.block _ (heap_lt HR2.out)).trans HR2.out); have HX3 := Lib.hid (heap_alloc_new w2 (.cells (insCells op 0 0 0 0 (.slice none 0 0)) 35)); have HS3 := Lib.hid (show (w2.alloc (.cells (insCells op 0 0 0 0 (.slice none 0 0)) 35)).heap.size = w2.heap.size + 1 by simp); clear ha)
      | (go_at_call 64; (with_reducible refine (HFl.out _ _ HI3.out HX3.out (by have := HI2.out.low; have := HI2.out.lt; omega)).mono ?_); rintro e w3 ⟨hb, ⟨p', hi, _⟩, he, _⟩; rw [← HZR.out] at he; subst he; have hlr := heap_lt HR2.out; have HI := Lib.hid (instr_set (but_two HB3.out hb (by omega)) hi hnw (.int .i64 0) (.int .i64 0) (.int .i64 0) (.int .i64 0) (.int .i64 0) (.slice none 0 0)); have hr3 := hb.heap HR3.out (show ¬ (w.heap.size = nb ∨ w.heap.size = w2.heap.size) by omega); obtain ⟨d0, d1, d2, d3, d4, d5⟩ := cells6 hr3; have g0 := free6 hr3 0; have g1 := free6 hr3 1; have g2 := free6 hr3 2; have g3 := free6 hr3 3; have g4 := free6 hr3 4; have g5 := free6 hr3 5; clear hb hi hr3))
    refine bodyPost_ret (v := .tuple #[.agg (insCells 0 0 0 0 0 (.slice none 0 0)), .int .i64 z]) (by simp [results, Try.results46, go_sem, d0, d1, d2, d3, d4, d5]) rfl ?_
    exact instr_bad HG.out HZ.out HI.out.1 HI.out.2 rfl
end Go.Proofs.Ytobbjphpngckgaa
