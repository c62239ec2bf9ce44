/- SpaceKnown's call. No condition. -/
import Derived.Test.YtkfdgpgildanbaaGreatSp15Q
namespace Go.Proofs.YtkfdgpgildanbaaGreat
open Go.RowKit Go.Shelf
set_option linter.unusedVariables false
set_option linter.unusedSimpArgs false

def ex3b : SpV := ex3.burnS 11
def ex3c : SpV := ex3b.callS 1 [] 0 0
def ex4 : SpV := ex3c.retS 258
def exY : SpV := newS twoM 32 [] 0
theorem ex_d : ex2.refE = 0 ∧ ex3.getE 2 = 5 ∧ ex3.burnE 11 = 2 ∧ ex3b.callE 1 [] 0 0 = 2 ∧ ex3c.refE = 0 ∧ ex4.ek = 1 ∧ ex4.ec = 2 ∧ ex4.getE 0 = 9 := by decide +kernel
theorem ex_e : newE15 twoM 32 0 = 0 ∧ exY.ek = 3 ∧ exY.ec = 0 ∧ newE15 twoM 100 0 = 2 ∧ newE15 twoM 16 0 = 8 := by decide +kernel
theorem ex_f : ex3.getV 2 = 0 := by decide +kernel
theorem no_args15 (W : World) (lo : Nat) : ArgsIn lo W (.slice none 0 0) [] := ⟨by simp, .inl ⟨by simp, .inl ⟨rfl, rfl⟩⟩⟩
theorem eqlE15 (w : World) (a b : Int) : (binOp .eql 45 (.agg #[.int .i64 a, .int .i64 b]) (.agg #[.int .i64 a, .int .i64 b])).run Tryz.prog w = .ok (.bool true) w := eqlE_same w a b
/-- Endings that lie in memory are left. -/
def Keep15 (W W' : World) : Prop := ∀ (k : Nat) (c : Array Value), W.heap[k]? = some (Obj.cells c 45 (0, 0)) → W'.heap[k]? = W.heap[k]?
theorem ne_typ15 {W : World} {k : Nat} {c c' : Array Value} {t t' : TypeId} (h : W.heap[k]? = some (.cells c t (0, 0))) (ht : t ≠ t') : W.heap[k]? ≠ some (.cells c' t' (0, 0)) := fun e => by
  rw [h] at e
  injection e with e
  injection e with _ e _
  exact ht e
theorem own_typE {W : World} {base : Nat} {e : TypeId} {size : Nat} {K : Value → Prop} {v : Value} {n : Nat} {xs : List Value} (h : Owns W base e size K v n xs) (h1 : e ≠ 45) {g : Nat} (hg : v.ownBlock = some g) {c : Array Value} : W.heap[g]? ≠ some (.cells c 45 (0, 0)) := by
  obtain ⟨_, c, hc⟩ := typed14 h hg
  exact ne_typ15 hc h1
theorem LaidAt.typE {W : World} {sb : Nat} {p : Loc} {S : SpV} (h : LaidAt W sb p S) {k : Nat} (hk : foot15 sb p k) {c : Array Value} : W.heap[k]? ≠ some (.cells c 45 (0, 0)) := by
  rcases hk with rfl | rfl | rfl | rfl | e | e
  · exact ne_typ15 h.box (by decide)
  · exact ne_typ15 h.mem.head (by decide)
  · obtain ⟨cur, hc, _⟩ := h.mem.row; exact ne_typ15 hc (by decide)
  · exact ne_typ15 h.tape.box (by decide)
  · exact own_typE h.tape.done (by decide) e
  · exact own_typE h.links (by decide) e
theorem SpAt.typE {W : World} {sb : Nat} {p : Loc} {S : SpV} (h : SpAt W sb p S) {k : Nat} (hk : foot15 sb p k) {c : Array Value} : W.heap[k]? ≠ some (.cells c 45 (0, 0)) := by
  rcases h with h | h
  · exact h.typE hk
  · rw [h.isSb hk]; exact ne_typ15 h.box (by decide)
theorem Spaces.liftE {w W : World} {lo i sb : Nat} {l : List It} {S S' : SpV} (h : Spaces w lo W l) (hi : l[i]? = some (.sp sb S)) {v : Value} {f : FuncId} {args : Array Value} (hc : ∀ p, SpAt W sb p S → Calls Tryz.prog f args W (SpDone W sb p S S' v)) : Calls Tryz.prog f args W (fun e W' => e = .returned v ∧ Spaces w lo W' (l.set i (.sp sb S')) ∧ Keep15 W W') := by
  obtain ⟨p, hp, hl, hm⟩ := h.move2 hi
  refine (hc p hp).mono ?_
  rintro e W' ⟨he, p', hv⟩
  exact ⟨he, hm _ _ _ hv.mv, fun k c hk => hv.but.block k (heap_lt hk) (fun hf => hp.typE hf hk)⟩
set_option maxRecDepth 100000 in
set_option maxHeartbeats 16000000 in
theorem known15 (w : World) : Calls Tryz.prog 6 #[] w (Makes w (.bool true)) := by
  obtain ⟨k1, k2, k3, k4, k5, k6, k7, k8⟩ := ex_d
  obtain ⟨j1, j2, j3, j4, j5⟩ := ex_e
  have k9 := ex_f
  have HC := Lib.hid (called15 w)
  have h1 := eql_nil15
  have hee := eqlE15
  have hnot := not15
  have A1 : Hid (∀ W sb, Spaces w w.heap.size W [.sp sb ex2] → Calls Tryz.prog 41 #[.pointer (some ⟨sb, 0, none⟩), .int .u64 5] W (SpsDone w w.heap.size [.sp sb ex3] (.int .i64 0))) := Lib.hid (fun W sb h => by have := sp_ret h (i := 0) rfl 5 (by decide) (by decide); rw [k1] at this; exact this)
  have A2 : Hid (∀ W sb, Spaces w w.heap.size W [.sp sb ex3] → Calls Tryz.prog 27 #[.pointer (some ⟨sb, 0, none⟩), .int .i64 2] W (SpsDone w w.heap.size [.sp sb ex3] (.tuple #[.int .u64 0, .int .i64 5]))) := Lib.hid (fun W sb h => by have := sp_get h (i := 0) rfl 2 (by unfold InI; simp); rw [k2, k9] at this; exact this)
  have A3 : Hid (∀ W sb, Spaces w w.heap.size W [.sp sb ex3] → Calls Tryz.prog 39 #[.pointer (some ⟨sb, 0, none⟩), .int .i64 11] W (SpsDone w w.heap.size [.sp sb ex3b] (.int .i64 2))) := Lib.hid (fun W sb h => by have := sp_burn h (i := 0) rfl 11 (by unfold InI; simp); rw [k3] at this; exact this)
  have A4 : Hid (∀ W sb, Spaces w w.heap.size W [.sp sb ex3b] → Calls Tryz.prog 40 #[.pointer (some ⟨sb, 0, none⟩), .int .i64 1, .slice none 0 0, .int .i64 0, .int .i64 0] W (SpsDone w w.heap.size [.sp sb ex3c] (.int .i64 2))) := Lib.hid (fun W sb h => by have := sp_call h (i := 0) rfl 1 0 0 _ [] (by unfold InI; simp) (by unfold InI; simp) (by unfold InI; simp) (no_args15 W _); rw [k4] at this; exact this)
  have A5 : Hid (∀ W sb, Spaces w w.heap.size W [.sp sb ex3c] → Calls Tryz.prog 41 #[.pointer (some ⟨sb, 0, none⟩), .int .u64 258] W (SpsDone w w.heap.size [.sp sb ex4] (.int .i64 0))) := Lib.hid (fun W sb h => by have := sp_ret h (i := 0) rfl 258 (by decide) (by decide); rw [k5] at this; exact this)
  have A6 : Hid (∀ W sb, Spaces w w.heap.size W [.sp sb ex4] → Calls Tryz.prog 29 #[.pointer (some ⟨sb, 0, none⟩)] W (SpsDone w w.heap.size [.sp sb ex4] (.tuple #[.agg #[.int .i64 1, .int .i64 2], .bool true]))) := Lib.hid (fun W sb h => by have := sp_end h (i := 0) rfl; rw [k6, k7] at this; exact this)
  have A7 : Hid (∀ W sb, Spaces w w.heap.size W [.sp sb ex4] → Calls Tryz.prog 44 #[.int .i64 32, .int .i64 0] W fun e W' => Below W.heap.size W W' ∧ ∃ yb, e = .returned (.pointer (some ⟨yb, 0, none⟩)) ∧ Spaces w w.heap.size W' [.sp sb ex4, .sp yb exY]) := Lib.hid (fun W sb h => made15 h 32 0 (by unfold InI; simp) (by unfold InI; simp) j1)
  have A8 : Hid (∀ W sb yb, Spaces w w.heap.size W [.sp sb ex4, .sp yb exY] → Calls Tryz.prog 29 #[.pointer (some ⟨yb, 0, none⟩)] W (fun e W' => e = .returned (.tuple #[.agg #[.int .i64 3, .int .i64 0], .bool true]) ∧ Spaces w w.heap.size W' [.sp sb ex4, .sp yb exY] ∧ Keep15 W W')) := Lib.hid (fun W sb yb h => by have := h.liftE (i := 1) rfl (fun p hp => end15 hp); rw [j2, j3] at this; exact this)
  have A9 : Hid (∀ W, Calls Tryz.prog 45 #[] W (TwoDone W)) := Lib.hid two15
  have B1 : Hid (∀ W l (D F : Value), Spaces w w.heap.size W l → IsBytes W W.heap.size D twoM.data → IsFuns W W.heap.size F twoM.funcs → Calls Tryz.prog 15 #[.agg #[D, F], .int .i64 100, .slice none 0 0, .int .i64 0] W fun e W' => e = .returned (.tuple #[.pointer none, .int .i64 2]) ∧ Below W.heap.size W W') := Lib.hid (fun W l D F h hD hF => (new_two15 h 100 0 (by unfold InI; simp) (by unfold InI; simp) D F hD hF).mono (fun e W' q => by
    rcases q with ⟨hb, ⟨q1, q2, q3⟩ | ⟨q1, q2⟩⟩
    · rw [j4] at q2; exact ⟨q2, hb⟩
    · rw [j4] at q1; exact absurd q1 (by decide)))
  have B2 : Hid (∀ W l (D F : Value), Spaces w w.heap.size W l → IsBytes W W.heap.size D twoM.data → IsFuns W W.heap.size F twoM.funcs → Calls Tryz.prog 15 #[.agg #[D, F], .int .i64 16, .slice none 0 0, .int .i64 0] W fun e W' => e = .returned (.tuple #[.pointer none, .int .i64 8]) ∧ Below W.heap.size W W') := Lib.hid (fun W l D F h hD hF => (new_two15 h 16 0 (by unfold InI; simp) (by unfold InI; simp) D F hD hF).mono (fun e W' q => by
    rcases q with ⟨hb, ⟨q1, q2, q3⟩ | ⟨q1, q2⟩⟩
    · rw [j5] at q2; exact ⟨q2, hb⟩
    · rw [j5] at q1; exact absurd q1 (by decide)))
  have B3 : Hid (∀ W, Calls Tryz.prog 12 #[] W (Makes W (.bool true))) := Lib.hid awake15
  have B4 : Hid (∀ W sb yb, Spaces w w.heap.size W [.sp sb ex4, .sp yb exY] → Calls Tryz.prog 37 #[.pointer (some ⟨sb, 0, none⟩), .int .i64 0, .int .u64 1] W (fun e W' => e = .returned (.int .i64 9) ∧ Spaces w w.heap.size W' [.sp sb (ex4.setS 0 1), .sp yb exY] ∧ Keep15 W W')) := Lib.hid (fun W sb yb h => by have := h.liftE (i := 0) rfl (fun p hp => set15 hp 0 1 (by unfold InI; simp) (by decide) (by decide)); rw [k8] at this; exact this)
  clear k1 k2 k3 k4 k5 k6 k7 k8 k9 j1 j2 j3 j4 j5
  go_enter Tryz.func6, Tryz.ntmps6
  go_upto_region 6 with (first
    | (go_at_call 43; (with_reducible refine HC.out.mono ?_); rintro e w1 ⟨hb, sb, rfl, hs⟩; have S1 := Lib.hid hs; clear hb hs)
    | (go_at_call 41; (with_reducible refine (A1.out _ _ S1.out).mono ?_); rintro e w2 ⟨rfl, hs⟩; have S2 := Lib.hid hs; clear hs)
    | (go_at_call 27; (with_reducible refine (A2.out _ _ S2.out).mono ?_); rintro e w3 ⟨rfl, hs⟩; have S3 := Lib.hid hs; clear hs)
    | (go_at_call 39; (with_reducible refine (A3.out _ _ S3.out).mono ?_); rintro e w4 ⟨rfl, hs⟩; have S4 := Lib.hid hs; clear hs)
    | (go_at_call 40; (with_reducible refine (A4.out _ _ S4.out).mono ?_); rintro e w5 ⟨rfl, hs⟩; have S5 := Lib.hid hs; clear hs)
    | (go_at_call 41; (with_reducible refine (A5.out _ _ S5.out).mono ?_); rintro e w6 ⟨rfl, hs⟩; have S6 := Lib.hid hs; clear hs))
  clear S1 S2 S3 S4 S5 A1 A2 A3 A4 A5 HC
  go_upto_region 7 with (go_at_call 29; (with_reducible refine (A6.out _ _ S6.out).mono ?_); rintro e w7 ⟨rfl, hs⟩; have S7 := Lib.hid hs; clear hs)
  obtain ⟨W8, hW8⟩ : ∃ W8, W8 = w7.alloc (.cells #[.int .i64 1, .int .i64 2] 45) := ⟨_, rfl⟩
  have S8 := Lib.hid (S7.out.grow (below_one14 w7 (.cells #[.int .i64 1, .int .i64 2] 45)))
  have X8 := Lib.hid (heap_alloc_new w7 (.cells #[.int .i64 1, .int .i64 2] 45))
  rw [← hW8] at S8 X8 ⊢
  clear hW8
  go_upto_region 11 with (first
    | (go_at_call 44; (with_reducible refine (A7.out _ _ S8.out).mono ?_); rintro e w9 ⟨hb, yb, rfl, hs⟩; have S9 := Lib.hid hs; have X9 := Lib.hid ((hb.block _ (heap_lt X8.out)).trans X8.out); clear hb hs)
    | (go_at_call 29; (with_reducible refine (A8.out _ _ _ S9.out).mono ?_); rintro e wa ⟨rfl, hs, hk⟩; have SA := Lib.hid hs; have XA := Lib.hid ((hk _ _ X9.out).trans X9.out); clear hs hk))
  obtain ⟨WB, hWB⟩ : ∃ WB, WB = wa.alloc (.cells #[.int .i64 3, .int .i64 0] 45) := ⟨_, rfl⟩
  have SB := Lib.hid (SA.out.grow (below_one14 wa (.cells #[.int .i64 3, .int .i64 0] 45)))
  have XB := Lib.hid (((below_one14 wa (.cells #[.int .i64 3, .int .i64 0] 45)).block _ (heap_lt XA.out)).trans XA.out)
  have YB := Lib.hid (heap_alloc_new wa (.cells #[.int .i64 3, .int .i64 0] 45))
  rw [← hWB] at SB XB YB ⊢
  clear hWB S6 S7 S8 X8 S9 X9 SA XA A6 A7 A8
  go_upto_region 12 with (first
    | (go_at_call 45; (with_reducible refine (A9.out _).mono ?_); rintro e wc ⟨D, F, rfl, hd, hf, hb⟩; obtain ⟨DA, dc, hde⟩ := hd.len; obtain ⟨FA, fc, hfe⟩ := hf.len; subst hde hfe; have D1 := Lib.hid hd; have F1 := Lib.hid hf; have SC := Lib.hid (SB.out.grow hb); have XC := Lib.hid ((hb.block _ (heap_lt XB.out)).trans XB.out); have YC := Lib.hid ((hb.block _ (heap_lt YB.out)).trans YB.out); clear hd hf hb)
    | (go_at_call 15; (with_reducible refine (B1.out _ _ _ _ SC.out D1.out F1.out).mono ?_); rintro e wd ⟨rfl, hb⟩; have SD := Lib.hid (SC.out.grow hb); have XD := Lib.hid ((hb.block _ (heap_lt XC.out)).trans XC.out); have YD := Lib.hid ((hb.block _ (heap_lt YC.out)).trans YC.out); clear hb))
  clear SB XB YB SC XC YC D1 F1 B1
  go_upto_region 13 with (first
    | (go_at_call 45; (with_reducible refine (A9.out _).mono ?_); rintro e we ⟨D, F, rfl, hd, hf, hb⟩; obtain ⟨DA, dc, hde⟩ := hd.len; obtain ⟨FA, fc, hfe⟩ := hf.len; subst hde hfe; have D1 := Lib.hid hd; have F1 := Lib.hid hf; have SE := Lib.hid (SD.out.grow hb); have XE := Lib.hid ((hb.block _ (heap_lt XD.out)).trans XD.out); have YE := Lib.hid ((hb.block _ (heap_lt YD.out)).trans YD.out); clear hd hf hb)
    | (go_at_call 15; (with_reducible refine (B2.out _ _ _ _ SE.out D1.out F1.out).mono ?_); rintro e wf ⟨rfl, hb⟩; have SF := Lib.hid (SE.out.grow hb); have XF := Lib.hid ((hb.block _ (heap_lt XE.out)).trans XE.out); have YF := Lib.hid ((hb.block _ (heap_lt YE.out)).trans YE.out); clear hb))
  clear SD XD YD SE XE YE D1 F1 B2 A9
  go_wp2_with (first
    | (go_at_call 12; (with_reducible refine (B3.out _).mono ?_); rintro e wg ⟨rfl, hb⟩; have SG := Lib.hid (SF.out.grow hb); have hxg := (hb.block _ (heap_lt XF.out)).trans XF.out; obtain ⟨k0, k1⟩ := cells2_14 hxg; have YG := Lib.hid ((hb.block _ (heap_lt YF.out)).trans YF.out); clear hb)
    | (go_at_call 37; (with_reducible refine (B4.out _ _ _ SG.out).mono ?_); rintro e wh ⟨rfl, hs, hk⟩; have SH := Lib.hid hs; have hyh := (hk _ _ YG.out).trans YG.out; obtain ⟨k2, k3⟩ := cells2_14 hyh; clear hs hk))
  go_ret
  exact ⟨rfl, SH.out.bel⟩
end Go.Proofs.YtkfdgpgildanbaaGreat
