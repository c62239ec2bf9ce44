/- The landed space: how it is laid out. Contract; no condition but that it lies in memory, planned. -/
import Derived.Test.YtkfdgpgildanbaaGreatSp15C
namespace Go.Proofs.YtkfdgpgildanbaaGreat
open Go.RowKit Go.Shelf
set_option linter.unusedVariables false
set_option linter.unusedSimpArgs false

/-- What is laid out in a box whose lock is held. -/
structure LayDone (w W : World) (sb : Nat) (D FV IN : Value) (Cs : List Value) (S : SpV) (p : Loc) : Prop where
  box : W.heap[sb]? = some (.cells #[.pointer (some ⟨sb, 0, none⟩), .int .u32 0, .int .i32 1, .int .u32 0, D, FV, .int .i64 S.size, IN, .int .u64 (floV S.m), .pointer (some ⟨p.mb, 0, none⟩), .pointer (some ⟨p.tb, 0, none⟩), .int .i64 S.fuel, .int .i64 S.f, .int .u64 S.at_, .int .i64 S.pc, .slice none 0 0, .int .i64 S.ek, .int .i64 S.ec] 80 (0, 0))
  mem : MemAt W p.mb p.bb p.c S.mem
  tape : Tape14 0 W p.tb p.X p.V S.left S.done
  lv : p.LV = .slice none 0 0 ∧ p.D = D ∧ p.FV = FV ∧ p.IN = IN ∧ p.Cs = Cs
  far : w.heap.size ≤ p.mb ∧ w.heap.size ≤ p.bb ∧ w.heap.size ≤ p.tb ∧ (∀ g, p.X.ownBlock = some g → w.heap.size ≤ g) ∧ (∀ g, p.V.ownBlock = some g → w.heap.size ≤ g)
  apart : ∀ g, p.X.ownBlock = some g → g ≠ p.bb
  but : But (OneBlock sb) w W
theorem tape_low15 {base base' tb : Nat} {W : World} {X V : Value} {xs : List Int} {L : List (Int × Int)} (h : Tape14 base W tb X V xs L) (hb : base' ≤ base) : Tape14 base' W tb X V xs L := ⟨h.box, h.left.base' hb, h.done.base hb, h.few⟩
theorem ownF_box15 {w W : World} {sb : Nat} {c : Array Value} {V : Value} {l : List FunV} {Cs : List Value} (h : OwnF 112 0 w V l Cs) (hb : But (OneBlock sb) w W) (hx : w.heap[sb]? = some (.cells c 80 (0, 0))) : OwnF 112 0 W V l Cs := by
  refine h.but hb (fun g hg e => ?_) (fun k hk => by omega) (fun k c hc e => ?_) (fun k c hc e => ?_)
  · have e' : g = sb := e
    subst e'
    obtain ⟨_, c', hc'⟩ := typed14 h.own hg
    exact types14 hc' hx (by decide)
  · have e' : k = sb := e
    subst e'
    exact types14 hc hx (by decide)
  · have e' : k = sb := e
    subst e'
    exact types14 hc hx (by decide)
theorem top_n {n : Nat} (h0 : 16 ≤ n) (h1 : n ≤ 65536) (h2 : n % 16 = 0) : topV n = n ∧ topE n = 0 := by
  unfold topV topE dnV
  rw [if_pos (by omega), if_pos (by omega)]
  omega
set_option maxRecDepth 100000 in
set_option maxHeartbeats 8000000 in
theorem lay15 {w : World} {sb n : Nat} {m : ModV} {inp : List Int} {fuel : Int} {D FV IN : Value} {Cs : List Value}
    (hbox : w.heap[sb]? = some (.cells #[.pointer (some ⟨sb, 0, none⟩), .int .u32 0, .int .i32 1, .int .u32 0, D, FV, .int .i64 n, IN, .int .u64 (floV m), .pointer none, .pointer none, .int .i64 fuel, .int .i64 0, .int .u64 0, .int .i64 0, .slice none 0 0, .int .i64 0, .int .i64 0] 80 (0, 0)))
    (hD : OwnB 0 w D m.data) (hI : OwnB 0 w IN inp) (hF : OwnF 112 0 w FV m.funcs Cs) (hn : newE15 m n fuel = 0) :
    Calls Tryz.prog 131 #[.pointer (some ⟨sb, 0, none⟩)] w fun e W => e = .returned (.tuple #[]) ∧ ∃ p, LayDone w W sb D FV IN Cs (newS m n inp fuel) p := by
  obtain ⟨z1, z2, z3, z4, z5, z6, z7⟩ := newE15_zero hn
  have hfl := err_funs z6
  have hsb := heap_lt hbox
  have HN := Lib.hid (new_yes n w (by omega) (by omega))
  have HBX := Lib.hid hbox
  have HD := Lib.hid hD
  have HI := Lib.hid hI
  have HF := Lib.hid hF
  obtain ⟨⟨c0, c1, c2, c3, c4, c5⟩, ⟨c6, c7, c8, c9, c10, c11⟩, c12, c13, c14, c15, c16, c17⟩ := cells18 hbox
  have HSB := Lib.hid hsb
  have Z3 : Hid (16 ≤ n) := Lib.hid (by omega)
  have Z4 : Hid (n ≤ 65536) := Lib.hid (by omega)
  have Z5 : Hid (n % 16 = 0) := Lib.hid (by omega)
  have ZM := Lib.hid z6
  have ZF := Lib.hid hfl
  have hDl : D.oneCell' = true ∧ IN.oneCell' = true := by
    obtain ⟨a, b, rfl⟩ := hD.len
    obtain ⟨a', b', rfl⟩ := hI.len
    exact ⟨rfl, rfl⟩
  clear hbox hD hI hF hn z1 z2 z3 z4 z5 z6 z7 hfl
  go_enter Tryz.func131, Tryz.ntmps131
  go_upto_region 1 with (go_at_call 168; (with_reducible refine HN.out.mono ?_); rintro e w1 ⟨mb, bb, c, rfl, hm, h1, h2, hb⟩; have M1 := Lib.hid hm; have L1 := Lib.hid (And.intro h1 h2); have B1 := Lib.hid hb; have X1 := Lib.hid ((hb.block _ HSB.out).trans HBX.out); obtain ⟨⟨d0, d1, d2, d3, d4, d5⟩, ⟨d6, d7, d8, d9, d10, d11⟩, d12, d13, d14, d15, d16, d17⟩ := cells18 X1.out; have g9 := frozen_of_row w1 sb 9 _ _ X1.out; clear hm h1 h2 hb)
  have M2 := Lib.hid (M1.out.but (one_but15 w1 sb 9 (.pointer (some ⟨mb, 0, none⟩))) (fun e => by have h : mb = sb := e; have := L1.out.1; have := HSB.out; omega) (fun e => by have h : bb = sb := e; have := L1.out.2; have := HSB.out; omega))
  have X2 := Lib.hid (heap_setCell_same w1 sb 9 _ _ (.pointer (some ⟨mb, 0, none⟩)) X1.out)
  have U2 := Lib.hid (but_box15 (But.of_below (R := OneBlock sb) B1.out) 9 (.pointer (some ⟨mb, 0, none⟩)))
  have D2 := Lib.hid ((HD.out.but' U2.out (fun g hg e => by have h : g = sb := e; obtain ⟨c', hc'⟩ := HD.out.blk hg; rw [h] at hc'; exact types14 hc' HBX.out (by decide))))
  obtain ⟨W2, hW2⟩ : ∃ W2, W2 = w1.setCell ⟨sb, 9, none⟩ (.pointer (some ⟨mb, 0, none⟩)) := ⟨_, rfl⟩
  rw [← hW2] at M2 X2 U2 D2 ⊢
  clear hW2 g9 d0 d1 d2 d3 d4 d5 d6 d7 d8 d9 d10 d11 d12 d13 d14 d15 d16 d17
  obtain ⟨⟨d0, d1, d2, d3, d4, d5⟩, ⟨d6, d7, d8, d9, d10, d11⟩, d12, d13, d14, d15, d16, d17⟩ := cells18 X2.out
  have HL := Lib.hid (lay_any (M2.out.but (R := NoBlock) ((But.refl _ W2).drew) (fun h => h) (fun h => h)) 16 (Y := D) (ys := m.data) (B := W2.heap.size) D2.out.bytes (by decide) (by decide))
  have e16 : layB (List.replicate n (0 : Int)) 16 m.data = (newS m n inp fuel).mem := by unfold newS new0; split <;> rfl
  rw [e16] at HL
  clear e16
  go_still_tail 10, (by kernel_rfl)
  have HIw := Lib.hid (fun (w3 : World) (h : But (OneBlock bb) W2 w3) => (OwnB.but' (HI.out.but' U2.out (fun g hg e => by have h : g = sb := e; obtain ⟨c', hc'⟩ := HI.out.blk hg; rw [h] at hc'; exact types14 hc' HBX.out (by decide))) h (fun g hg e => by have h : g = bb := e; obtain ⟨c', hc'⟩ := HI.out.blk hg; have := heap_lt hc'; have := L1.out.2; omega)))
  go_upto_region 3 with (first
    | (go_at_call 169; (with_reducible refine HL.out.mono ?_); rintro e w3 ⟨rfl, hm, hb⟩; have M3 := Lib.hid hm; have B3 := Lib.hid (show But (OneBlock bb) W2 w3 from ((But.refl _ W2).drew).trans hb); have X3 := Lib.hid (B3.out.heap X2.out (fun e => by have h : sb = bb := e; have := L1.out.2; have := HSB.out; omega)); have I3 := Lib.hid (HIw.out _ B3.out); clear hm hb; obtain ⟨⟨e0, e1, e2, e3, e4, e5⟩, ⟨e6, e7, e8, e9, e10, e11⟩, e12, e13, e14, e15, e16, e17⟩ := cells18 X3.out; have HTN := Lib.hid (new14 IN inp w3 I3.out.bytes I3.out.1))
    | (go_at_call 170; (with_reducible refine HTN.out.mono ?_); rintro e w4 ⟨tb, TX, TV, rfl, h1, hT, hb⟩; have T4 := Lib.hid hT; have L4 := Lib.hid h1; have B4 := Lib.hid hb; have X4 := Lib.hid ((hb.block _ (heap_lt X3.out)).trans X3.out); clear h1 hT hb; obtain ⟨⟨q0, q1, q2, q3, q4, q5⟩, ⟨q6, q7, q8, q9, q10, q11⟩, q12, q13, q14, q15, q16, q17⟩ := cells18 X4.out; have g10 := frozen_of_row w4 sb 10 _ _ X4.out))
  have M5 := Lib.hid ((M3.out.below B4.out).but (one_but15 w4 sb 10 (.pointer (some ⟨tb, 0, none⟩))) (fun e => by have h : mb = sb := e; have := L1.out.1; have := HSB.out; omega) (fun e => by have h : bb = sb := e; have := L1.out.2; have := HSB.out; omega))
  have X5 := Lib.hid (heap_setCell_same w4 sb 10 _ _ (.pointer (some ⟨tb, 0, none⟩)) X4.out)
  have U5 := Lib.hid (but_box15 ((U2.out.more15 B3.out (fun k hk => .inr (by have h : k = bb := hk; have := L1.out.2; omega))).more15 (C := NoBlock) (But.of_below B4.out) (fun _ h => h.elim)) 10 (.pointer (some ⟨tb, 0, none⟩)))
  have S3 := Lib.hid (show w.heap.size ≤ w3.heap.size from Nat.le_trans U2.out.size B3.out.size)
  have T5 := Lib.hid ((tape_low15 T4.out (Nat.zero_le _)).but' (one_but15 w4 sb 10 (.pointer (some ⟨tb, 0, none⟩))) (fun e => by have h : tb = sb := e; have := L4.out; have := S3.out; have := HSB.out; omega) (fun g hg e => by have h : g = sb := e; have := T4.out.left.low hg; have := S3.out; have := HSB.out; omega) (fun g hg e => by have h : g = sb := e; have := (typed14 T4.out.done hg).1; have := S3.out; have := HSB.out; omega))
  have TX5 := Lib.hid (show ∀ g, TX.ownBlock = some g → w.heap.size ≤ g from fun g hg => Nat.le_trans S3.out (T4.out.left.low hg))
  have TB5 := Lib.hid (show ∀ g, TX.ownBlock = some g → g ≠ bb from fun g hg e => by have := T4.out.left.low hg; have := M3.out.lt.2; omega)
  have TV5 := Lib.hid (show ∀ g, TV.ownBlock = some g → w.heap.size ≤ g from fun g hg => Nat.le_trans S3.out (typed14 T4.out.done hg).1)
  obtain ⟨W5, hW5⟩ : ∃ W5, W5 = w4.setCell ⟨sb, 10, none⟩ (.pointer (some ⟨tb, 0, none⟩)) := ⟨_, rfl⟩
  rw [← hW5] at M5 X5 U5 T5 ⊢
  clear hW5 g10 d0 d1 d2 d3 d4 d5 d6 d7 d8 d9 d10 d11 d12 d13 d14 d15 d16 d17 e0 e1 e2 e3 e4 e5 e6 e7 e8 e9 e10 e11 e12 e13 e14 e15 e16 e17 q0 q1 q2 q3 q4 q5 q6 q7 q8 q9 q10 q11 q12 q13 q14 q15 q16 q17
  obtain ⟨⟨d0, d1, d2, d3, d4, d5⟩, ⟨d6, d7, d8, d9, d10, d11⟩, d12, d13, d14, d15, d16, d17⟩ := cells18 X5.out
  have g13 := frozen_of_row W5 sb 13 _ _ X5.out
  have HT := Lib.hid (top_any n W5 (by have := Z3.out; omega) (by have := Z4.out; omega))
  rw [(top_n Z3.out Z4.out Z5.out).1, (top_n Z3.out Z4.out Z5.out).2] at HT
  have X6 := Lib.hid (heap_setCell_same W5 sb 13 _ _ (.int .u64 n) X5.out)
  have U6 := Lib.hid (but_box15 U5.out 13 (.int .u64 n))
  go_upto_region 4 with (go_at_call 117; (with_reducible refine HT.out.mono ?_); rintro e w6 ⟨rfl, rfl⟩)
  have F6 := Lib.hid (ownF_box15 HF.out U6.out HBX.out)
  have M6 := Lib.hid (M5.out.but (one_but15 W5 sb 13 (.int .u64 n)) (fun e => by have h : mb = sb := e; have := L1.out.1; have := HSB.out; omega) (fun e => by have h : bb = sb := e; have := L1.out.2; have := HSB.out; omega))
  have T6 := Lib.hid (T5.out.but' (one_but15 W5 sb 13 (.int .u64 n)) (fun e => by have h : tb = sb := e; have := L4.out; have := S3.out; have := HSB.out; omega) (fun g hg e => by have h : g = sb := e; have := TX5.out g hg; have := HSB.out; omega) (fun g hg e => by have h : g = sb := e; have := TV5.out g hg; have := HSB.out; omega))
  obtain ⟨W6, hW6⟩ : ∃ W6, W6 = W5.setCell ⟨sb, 13, none⟩ (.int .u64 n) := ⟨_, rfl⟩
  rw [← hW6] at X6 U6 F6 M6 T6 ⊢
  clear hW6 g13 d0 d1 d2 d3 d4 d5 d6 d7 d8 d9 d10 d11 d12 d13 d14 d15 d16 d17
  have HFS := Lib.hid (F6.out.funs (by have := ZF.out.2.2.1; omega))
  have hflo := flo_bd ZM.out
  have HE := Lib.hid (show Calls Tryz.prog 106 #[.pointer (some ⟨sb, 0, none⟩), .int .i64 0] W6 _ from enter15 (f := 0) X6.out HFS.out (by have := ZF.out.2.1; omega) ⟨by omega, by have := Z4.out; omega⟩ ⟨by omega, by omega⟩)
  clear hflo
  have FIN : Hid (∀ W, But (OneBlock sb) W6 W → (∀ arr, W.heap[sb]? = some (.cells arr 80 (0, 0)) → arr = #[.pointer (some ⟨sb, 0, none⟩), .int .u32 0, .int .i32 1, .int .u32 0, D, FV, .int .i64 (newS m n inp fuel).size, IN, .int .u64 (floV (newS m n inp fuel).m), .pointer (some ⟨mb, 0, none⟩), .pointer (some ⟨tb, 0, none⟩), .int .i64 (newS m n inp fuel).fuel, .int .i64 (newS m n inp fuel).f, .int .u64 (newS m n inp fuel).at_, .int .i64 (newS m n inp fuel).pc, .slice none 0 0, .int .i64 (newS m n inp fuel).ek, .int .i64 (newS m n inp fuel).ec] → ∃ p, LayDone w W sb D FV IN Cs (newS m n inp fuel) p)) := Lib.hid (fun W hb arr ha he => by
    subst he
    have e1 : (newS m n inp fuel).left = inp ∧ (newS m n inp fuel).done = [] := by unfold newS new0; split <;> exact ⟨rfl, rfl⟩
    refine ⟨⟨mb, bb, c, tb, 0, 0, TX, TV, .slice none 0 0, D, FV, IN, Cs⟩, ha, ?_, ?_, ⟨rfl, rfl, rfl, rfl, rfl⟩, ⟨L1.out.1, L1.out.2, Nat.le_trans S3.out L4.out, TX5.out, TV5.out⟩, TB5.out, U6.out.trans hb⟩
    · exact M6.out.but hb (fun e => by have h : mb = sb := e; have := L1.out.1; have := HSB.out; omega) (fun e => by have h : bb = sb := e; have := L1.out.2; have := HSB.out; omega)
    · rw [e1.1, e1.2]
      exact T6.out.but' hb (fun e => by have h : tb = sb := e; have := L4.out; have := S3.out; have := HSB.out; omega) (fun g hg e => by have h : g = sb := e; have := TX5.out g hg; have := HSB.out; omega) (fun g hg e => by have h : g = sb := e; have := TV5.out g hg; have := HSB.out; omega))
  clear M6 T6 M5 T5 X5 U5 B4 T4 X4 TX5 TV5
  have hnot := not15
  by_cases hE : pushE (n : Int) (m.funcs.getD 0 .zero).regs (m.funcs.getD 0 .zero).area (floV m) = 0
  · have HEQ := Lib.hid hE
    clear hE
    go_wp2_with (go_at_call 106; (with_reducible refine HE.out.mono ?_); rintro e w7 ⟨he, hb, hx⟩; rw [if_pos HEQ.out] at hx; rw [decide_eq_true HEQ.out] at he; subst he; have X7 := Lib.hid hx; have B7 := Lib.hid hb; clear hb hx)
    go_end0
    refine ⟨rfl, FIN.out _ B7.out _ X7.out ?_⟩
    unfold newS
    rw [if_pos (show (new0 m n inp fuel).newE 0 = 0 from HEQ.out)]
    rfl
  · have HEQ := Lib.hid hE
    clear hE
    go_wp2_with (go_at_call 106; (with_reducible refine HE.out.mono ?_); rintro e w7 ⟨he, hb, hx⟩; rw [if_neg HEQ.out] at hx; rw [decide_eq_false HEQ.out] at he; subst he; have X7 := Lib.hid hx; have B7 := Lib.hid hb; clear hb hx; obtain ⟨⟨d0, d1, d2, d3, d4, d5⟩, ⟨d6, d7, d8, d9, d10, d11⟩, d12, d13, d14, d15, d16, d17⟩ := cells18 X7.out; have g16 := frozen_of_row w7 sb 16 _ _ X7.out)
    go_end0
    refine ⟨rfl, FIN.out _ (but_box15 B7.out 16 _) _ (heap_setCell_same w7 sb 16 _ _ _ X7.out) ?_⟩
    unfold newS
    rw [if_neg (show ¬ (new0 m n inp fuel).newE 0 = 0 from HEQ.out)]
    rfl
theorem space_info : ∃ j, Tryz.prog.info? 80 = some j := Option.isSome_iff_exists.1 (by kernel_rfl)
theorem neq_self15 (a : Addr) (w : World) : (binOp .neq 32 (.pointer (some a)) (.pointer (some a))).run Tryz.prog w = .ok (.bool false) w := by
  obtain ⟨j, hj⟩ := space_info
  have h : ∀ d : Nat, (Op.equalIn (d + 1) 32 (.pointer (some a)) (.pointer (some a))).run Tryz.prog w = .ok true w := fun d => by
    simp [Op.equalIn, run_underlying Tryz.underlying32, sizeOf, typeInfo, hj, run_sameAddr_same]
  simp only [binOp]
  simp [Op.equal, Op.maxDepth, h 9999]
theorem neq_nil15 (a : Addr) (w : World) : (binOp .neq 32 (.pointer none) (.pointer (some a))).run Tryz.prog w = .ok (.bool true) w := by
  have h : ∀ d : Nat, (Op.equalIn (d + 1) 32 (.pointer none) (.pointer (some a))).run Tryz.prog w = .ok false w := fun d => by
    simp [Op.equalIn, run_underlying Tryz.underlying32]
  simp only [binOp]
  simp [Op.equal, Op.maxDepth, h 9999]
theorem eql_nil15 (a : Addr) (w : World) : (binOp .eql 32 (.pointer (some a)) (.pointer none)).run Tryz.prog w = .ok (.bool false) w := by
  have h : ∀ d : Nat, (Op.equalIn (d + 1) 32 (.pointer (some a)) (.pointer none)).run Tryz.prog w = .ok false w := fun d => by
    simp [Op.equalIn, run_underlying Tryz.underlying32]
  simp only [binOp]
  simp [Op.equal, Op.maxDepth, h 9999]
/-- What a call leaves of one space that it has laid out. -/
structure Vd15 (W W' : World) (sb : Nat) (p p' : Loc) (S S' : SpV) : Prop where
  laid : LaidAt W' sb p' S'
  but : But (foot15 sb p) W W'
  foot : ∀ k, foot15 sb p' k → foot15 sb p k ∨ W.heap.size ≤ k
  ro : ∀ k, ro15 p' k → ro15 p k ∨ W.heap.size ≤ k
theorem Vd15.mv {B : Nat} {W W' : World} {sb : Nat} {p p' : Loc} {S S' : SpV} (h : Vd15 W W' sb p p' S S') : Mv B (.sp sb S) (.sp sb S') p p' W W' := ⟨.inl h.laid, h.but, h.foot, h.ro⟩
theorem Vd15.refl {W : World} {sb : Nat} {p : Loc} {S : SpV} (h : LaidAt W sb p S) : Vd15 W W sb p p S S := ⟨h, But.refl _ _, fun _ h => .inl h, fun _ h => .inl h⟩
theorem Vd15.trans {W W1 W2 : World} {sb : Nat} {p p1 p2 : Loc} {S S1 S2 : SpV} (h : Vd15 W W1 sb p p1 S S1) (h2 : Vd15 W1 W2 sb p1 p2 S1 S2) : Vd15 W W2 sb p p2 S S2 :=
  ⟨h2.laid, h.but.more15 h2.but h.foot, fun k hk => (h2.foot k hk).elim (h.foot k) (fun e => .inr (Nat.le_trans h.but.size e)), fun k hk => (h2.ro k hk).elim (h.ro k) (fun e => .inr (Nat.le_trans h.but.size e))⟩
theorem Vd15.read {W W1 W2 : World} {sb : Nat} {p p1 : Loc} {S S1 : SpV} (h : Vd15 W W1 sb p p1 S S1) (hb : Below W1.heap.size W1 W2) : Vd15 W W2 sb p p1 S S1 :=
  h.trans ⟨h.laid.but (But.of_below (R := NoBlock) hb) (fun _ _ h => h) (fun _ h => h.elim), But.of_below hb, fun _ h => .inl h, fun _ h => .inl h⟩
theorem FreshAt.laid {w W1 : World} {sb : Nat} {p p' : Loc} {S : SpV} (h : FreshAt w sb p S) (hl : LayDone (w.setCell ⟨sb, 2, none⟩ (.int .i32 1)) W1 sb p.D p.FV p.IN p.Cs S p') : Vd15 w (After15 sb W1) sb p p' S S := by
  have hsz : (w.setCell ⟨sb, 2, none⟩ (.int .i32 1)).heap.size = w.heap.size := by simp [World.setCell]
  have hsb := heap_lt h.box
  obtain ⟨f1, f2, f3, f4, f5⟩ := hl.far
  rw [hsz] at f1 f2 f3 f4 f5
  obtain ⟨l1, l2, l3, l4, l5⟩ := hl.lv
  have b1 : But (OneBlock sb) w W1 := (one_but15 w sb 2 (.int .i32 1)).trans hl.but
  have b2 : But (OneBlock sb) W1 (After15 sb W1) := but_box15 (but_box15 (But.refl (OneBlock sb) W1).drew 1 _) 2 _
  have b3 := b1.trans b2
  have nD : ∀ g, p.D.ownBlock = some g → g ≠ sb ∧ g < w.heap.size := fun g hg => ⟨fun e => h.sep sb (.inl rfl) (.inr (.inl (e ▸ hg))), ownB_lt h.dat hg⟩
  have nI : ∀ g, p.IN.ownBlock = some g → g ≠ sb ∧ g < w.heap.size := fun g hg => ⟨fun e => h.sep sb (.inl rfl) (.inr (.inr (.inr (e ▸ hg)))), ownB_lt h.inp hg⟩
  have nF : ∀ g, p.FV.ownBlock = some g → g ≠ sb ∧ g < w.heap.size := fun g hg => ⟨fun e => h.sep sb (.inl rfl) (.inr (.inr (.inl (e ▸ hg)))), (h.funs.own.lt hg).2⟩
  have hm : MemAt (After15 sb W1) p'.mb p'.bb p'.c S.mem := hl.mem.but b2 (fun e => by have e' : p'.mb = sb := e; omega) (fun e => by have e' : p'.bb = sb := e; omega)
  have ht : Tape14 0 (After15 sb W1) p'.tb p'.X p'.V S.left S.done := hl.tape.but' b2 (fun e => by have e' : p'.tb = sb := e; omega) (fun g hg e => by have e' : g = sb := e; have := f4 g hg; omega) (fun g hg e => by have e' : g = sb := e; have := f5 g hg; omega)
  have hlinks : S.links = [] ∧ S.left = S.inp := by
    rw [h.new]; unfold newS new0; split <;> exact ⟨rfl, rfl⟩
  have hbx : (After15 sb W1).heap[sb]? = some (.cells (box15 sb p' S) 80 (0, 0)) := by
    have h1 := heap_setCell_same W1.drew sb 1 _ _ (.int .u32 1) hl.box
    have h2 := heap_setCell_same _ sb 2 _ _ (.int .i32 0) h1
    unfold box15
    rw [l1, l2, l3, l4]
    exact h2
  have hfoot : ∀ k, foot15 sb p' k → k = sb ∨ (w.heap.size ≤ k ∧ ∀ c, (After15 sb W1).heap[k]? ≠ some (.cells c 5 (0, 0)) ∨ k = p'.bb) := by
    rintro k (rfl | rfl | rfl | rfl | e | e)
    · exact .inl rfl
    · exact .inr ⟨f1, fun c => .inl (fun hc => types14 hc hm.head (by decide))⟩
    · exact .inr ⟨f2, fun c => .inr rfl⟩
    · exact .inr ⟨f3, fun c => .inl (fun hc => types14 hc ht.box (by decide))⟩
    · obtain ⟨_, c', hc'⟩ := typed14 ht.done e
      exact .inr ⟨f5 k e, fun c => .inl (fun hc => types14 hc hc' (by decide))⟩
    · rw [l1] at e; simp [Value.ownBlock] at e
  refine ⟨⟨hbx, hm, ht, ?_, ?_, ?_, ?_, ⟨[], hlinks.2.symm⟩, h.ok, ?_⟩, b3.mono (fun k e => .inl e), fun k hk => (hfoot k hk).elim (fun e => .inl (.inl e)) (fun e => .inr e.1), ?_⟩
  · rw [l1, hlinks.1]; exact Owns.nil _ _ _ _ _
  · rw [l2]; exact h.dat.but' b3 (fun g hg e => (nD g hg).1 e)
  · rw [l4]; exact h.inp.but' b3 (fun g hg e => (nI g hg).1 e)
  · rw [l3, l5]; exact ownF_box15 h.funs b3 h.box
  · intro k hk hr
    rcases hfoot k hk with rfl | ⟨e1, e2⟩
    · rcases hr with e | e | e | e
      · have := f4 _ e; omega
      · rw [l2] at e; exact (nD _ e).1 rfl
      · rw [l3] at e; exact (nF _ e).1 rfl
      · rw [l4] at e; exact (nI _ e).1 rfl
    · rcases hr with e | e | e | e
      · obtain ⟨c, hc⟩ := ht.left.blk e
        rcases e2 c with h2 | h2
        · exact h2 hc
        · exact hl.apart _ e h2
      · rw [l2] at e; have := (nD _ e).2; omega
      · rw [l3] at e; have := (nF _ e).2; omega
      · rw [l4] at e; have := (nI _ e).2; omega
  · rintro k (e | e | e | e)
    · exact .inr (f4 k e)
    · rw [l2] at e; exact .inl (.inr (.inl e))
    · rw [l3] at e; exact .inl (.inr (.inr (.inl e)))
    · rw [l4] at e; exact .inl (.inr (.inr (.inr e)))
theorem newS_same {m : ModV} {n : Nat} {inp : List Int} {fuel : Int} : (newS m n inp fuel).m = m ∧ (newS m n inp fuel).size = n ∧ (newS m n inp fuel).inp = inp ∧ (newS m n inp fuel).fuel = fuel := by
  unfold newS new0; split <;> exact ⟨rfl, rfl, rfl, rfl⟩
set_option maxRecDepth 100000 in
set_option maxHeartbeats 4000000 in
theorem valid15 {W : World} {sb : Nat} {p : Loc} {S : SpV} (h : SpAt W sb p S) :
    Calls Tryz.prog 68 #[.pointer (some ⟨sb, 0, none⟩)] W fun e W' => e = .returned (.bool true) ∧ ∃ p', Vd15 W W' sb p p' S S := by
  have hmf : ∀ (fn : Fn) (first cap : Array Value) (w : World), (Instr.makeFunc fn first cap).run Tryz.prog w = .ok (.func fn first cap) w := fun _ _ _ _ => rfl
  have h1 := eql_nil15
  have h2 := neq_self15
  rcases h with h | h
  · obtain ⟨⟨c0, c1, c2, c3, c4, c5⟩, _⟩ := cells18 (show W.heap[sb]? = some (.cells #[_, _, _, _, _, _, _, _, _, _, _, _, _, _, _, _, _, _] 80 (0, 0)) from h.box)
    have HO := Lib.hid (fun fv => onceNo15 sb fv W c1)
    have HV := Lib.hid (Vd15.refl h)
    clear h
    go_enter Tryz.func68, Tryz.ntmps68
    go_wp2_with (go_at_call 73; (with_reducible refine (HO.out _).mono ?_); rintro e w' ⟨rfl, rfl⟩)
    go_ret
    exact ⟨rfl, p, HV.out⟩
  · obtain ⟨⟨c0, c1, c2, c3, c4, c5⟩, _⟩ := cells18 (show W.heap[sb]? = some (.cells #[_, _, _, _, _, _, _, _, _, _, _, _, _, _, _, _, _, _] 80 (0, 0)) from h.box)
    have hb1 := one_but15 W sb 2 (.int .i32 1)
    have hx1 := heap_setCell_same W sb 2 _ _ (.int .i32 1) h.box
    have hne : ∀ g, p.D.ownBlock = some g ∨ p.IN.ownBlock = some g → ¬ OneBlock sb g := fun g hg e => by
      have e' : g = sb := e
      subst e'
      exact h.sep _ (.inl rfl) (hg.elim (fun h => .inr (.inl h)) (fun h => .inr (.inr (.inr h))))
    have hl := lay15 (m := S.m) (n := S.size) (inp := S.inp) (fuel := S.fuel) hx1 (h.dat.but' hb1 (fun g hg => hne g (.inl hg))) (h.inp.but' hb1 (fun g hg => hne g (.inr hg))) (ownF_box15 h.funs hb1 h.box) h.e0
    rw [← h.new] at hl
    have HO := Lib.hid (onceLay15 sb W _ c1 c2 (frozen_of_row W sb 1 _ _ h.box) (frozen_of_row W sb 2 _ _ h.box) hl (fun W1 ⟨p', hd⟩ => by
      obtain ⟨⟨d0, d1, d2, d3, d4, d5⟩, _⟩ := cells18 hd.box
      exact ⟨d1, d2, frozen_of_row W1 sb 1 _ _ hd.box, frozen_of_row W1 sb 2 _ _ hd.box⟩))
    have HV := Lib.hid (fun (W1 : World) (p' : Loc) hd => h.laid (W1 := W1) (p' := p') hd)
    clear h hl hx1 hb1 hne
    go_enter Tryz.func68, Tryz.ntmps68
    go_wp2_with (go_at_call 73; (with_reducible refine HO.out.mono ?_); rintro e w' ⟨rfl, W1, ⟨p', hd⟩, rfl⟩; have HD := Lib.hid hd; clear hd)
    go_ret
    exact ⟨rfl, _, HV.out _ _ HD.out⟩
end Go.Proofs.YtkfdgpgildanbaaGreat
