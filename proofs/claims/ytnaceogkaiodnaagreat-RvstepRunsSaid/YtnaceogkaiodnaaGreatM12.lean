/- What Step of package rvstep returns and leaves: what a step of the machine is; contracts for any machine, in whatever memory of the program. -/
import Derived.Test.YtnaceogkaiodnaaGreatM10
namespace Go.Proofs.YtnaceogkaiodnaaGreat
open Go.RowKit
set_option linter.unusedVariables false

section
variable {w w' : World} {xb mb bb c eb : Nat} {V : Value} {code : List Int} {s : MSt}
set_option maxRecDepth 100000 in
set_option maxHeartbeats 2000000 in
theorem step_lw {cb cap j : Nat} {y : RvV} (h : Mach w xb mb bb c eb (.slice (some ⟨cb, 0, none⟩) code.length cap) code s) (hK : effF y.op = 105)
    (hf : Calls Tryz.prog 37 #[.pointer (some ⟨xb, 0, none⟩)] w (FetchDone xb mb bb c eb cb cap j code s y w))
    (he : ∀ u, Mach u xb mb bb c eb (.slice (some ⟨cb, 0, none⟩) code.length cap) code s → Calls Tryz.prog 105 #[.pointer (some ⟨xb, 0, none⟩), .agg #[.int .i64 y.op, .int .i64 y.rd, .int .i64 y.rs1, .int .i64 y.rs2, .int .i64 y.imm]] u (EffDone xb mb bb c eb (.slice (some ⟨cb, 0, none⟩) code.length cap) code u (execV y s))) :
    Calls Tryz.prog 13 #[.pointer (some ⟨xb, 0, none⟩)] w (StepDone xb mb bb c eb (.slice (some ⟨cb, 0, none⟩) code.length cap) code w (execV y s)) := by
  have HV := Lib.hid (mvalid_yes h)
  have HF := Lib.hid hf
  generalize execV y s = R at he ⊢
  have HE := Lib.hid he
  have HK := Lib.hid hK
  clear h hf he hK
  go_enter Tryz.func13, Tryz.ntmps13
  go_wp2_with (first
    | (go_at_call 36; (with_reducible refine HV.out.mono ?_); rintro e w' ⟨rfl, rfl⟩)
    | (go_at_call 37; (with_reducible refine HF.out.mono ?_); rintro e w1 ⟨rfl, hm, hb, hs⟩; have M1 := Lib.hid (show Mach w1.drew xb mb bb c eb (.slice (some ⟨cb, 0, none⟩) code.length cap) code s from hm.drewN 1); have B1 := Lib.hid hb; obtain ⟨c1, c2, c3, c4, c5, c6⟩ := hs; rw [HK.out] at c6; clear hm hb))
  go_still_tail 9, (by kernel_rfl)
  go_wp2_with (go_at_call 105; (refine (HE.out _ M1.out).mono ?_); rintro e w2 ⟨rfl, hm, hb⟩; have M2 := Lib.hid hm; have B2 := Lib.hid hb; clear hm hb)
  go_ret
  refine ⟨rfl, M2.out, ?_⟩
  exact ((B1.out.mono fun k hk => .inr (.inr ⟨0, _, _, by rw [show k = cb from hk]⟩)).drewN 1).trans (B2.out.mono fun k hk => hk.elim .inl fun h => .inr (.inl h))
set_option maxRecDepth 100000 in
set_option maxHeartbeats 2000000 in
theorem step_ld {cb cap j : Nat} {y : RvV} (h : Mach w xb mb bb c eb (.slice (some ⟨cb, 0, none⟩) code.length cap) code s) (hK : effF y.op = 106)
    (hf : Calls Tryz.prog 37 #[.pointer (some ⟨xb, 0, none⟩)] w (FetchDone xb mb bb c eb cb cap j code s y w))
    (he : ∀ u, Mach u xb mb bb c eb (.slice (some ⟨cb, 0, none⟩) code.length cap) code s → Calls Tryz.prog 106 #[.pointer (some ⟨xb, 0, none⟩), .agg #[.int .i64 y.op, .int .i64 y.rd, .int .i64 y.rs1, .int .i64 y.rs2, .int .i64 y.imm]] u (EffDone xb mb bb c eb (.slice (some ⟨cb, 0, none⟩) code.length cap) code u (execV y s))) :
    Calls Tryz.prog 13 #[.pointer (some ⟨xb, 0, none⟩)] w (StepDone xb mb bb c eb (.slice (some ⟨cb, 0, none⟩) code.length cap) code w (execV y s)) := by
  have HV := Lib.hid (mvalid_yes h)
  have HF := Lib.hid hf
  generalize execV y s = R at he ⊢
  have HE := Lib.hid he
  have HK := Lib.hid hK
  clear h hf he hK
  go_enter Tryz.func13, Tryz.ntmps13
  go_wp2_with (first
    | (go_at_call 36; (with_reducible refine HV.out.mono ?_); rintro e w' ⟨rfl, rfl⟩)
    | (go_at_call 37; (with_reducible refine HF.out.mono ?_); rintro e w1 ⟨rfl, hm, hb, hs⟩; have M1 := Lib.hid (show Mach w1.drew xb mb bb c eb (.slice (some ⟨cb, 0, none⟩) code.length cap) code s from hm.drewN 1); have B1 := Lib.hid hb; obtain ⟨c1, c2, c3, c4, c5, c6⟩ := hs; rw [HK.out] at c6; clear hm hb))
  go_still_tail 9, (by kernel_rfl)
  go_wp2_with (go_at_call 106; (refine (HE.out _ M1.out).mono ?_); rintro e w2 ⟨rfl, hm, hb⟩; have M2 := Lib.hid hm; have B2 := Lib.hid hb; clear hm hb)
  go_ret
  refine ⟨rfl, M2.out, ?_⟩
  exact ((B1.out.mono fun k hk => .inr (.inr ⟨0, _, _, by rw [show k = cb from hk]⟩)).drewN 1).trans (B2.out.mono fun k hk => hk.elim .inl fun h => .inr (.inl h))
set_option maxRecDepth 100000 in
set_option maxHeartbeats 2000000 in
theorem step_lbu {cb cap j : Nat} {y : RvV} (h : Mach w xb mb bb c eb (.slice (some ⟨cb, 0, none⟩) code.length cap) code s) (hK : effF y.op = 107)
    (hf : Calls Tryz.prog 37 #[.pointer (some ⟨xb, 0, none⟩)] w (FetchDone xb mb bb c eb cb cap j code s y w))
    (he : ∀ u, Mach u xb mb bb c eb (.slice (some ⟨cb, 0, none⟩) code.length cap) code s → Calls Tryz.prog 107 #[.pointer (some ⟨xb, 0, none⟩), .agg #[.int .i64 y.op, .int .i64 y.rd, .int .i64 y.rs1, .int .i64 y.rs2, .int .i64 y.imm]] u (EffDone xb mb bb c eb (.slice (some ⟨cb, 0, none⟩) code.length cap) code u (execV y s))) :
    Calls Tryz.prog 13 #[.pointer (some ⟨xb, 0, none⟩)] w (StepDone xb mb bb c eb (.slice (some ⟨cb, 0, none⟩) code.length cap) code w (execV y s)) := by
  have HV := Lib.hid (mvalid_yes h)
  have HF := Lib.hid hf
  generalize execV y s = R at he ⊢
  have HE := Lib.hid he
  have HK := Lib.hid hK
  clear h hf he hK
  go_enter Tryz.func13, Tryz.ntmps13
  go_wp2_with (first
    | (go_at_call 36; (with_reducible refine HV.out.mono ?_); rintro e w' ⟨rfl, rfl⟩)
    | (go_at_call 37; (with_reducible refine HF.out.mono ?_); rintro e w1 ⟨rfl, hm, hb, hs⟩; have M1 := Lib.hid (show Mach w1.drew xb mb bb c eb (.slice (some ⟨cb, 0, none⟩) code.length cap) code s from hm.drewN 1); have B1 := Lib.hid hb; obtain ⟨c1, c2, c3, c4, c5, c6⟩ := hs; rw [HK.out] at c6; clear hm hb))
  go_still_tail 9, (by kernel_rfl)
  go_wp2_with (go_at_call 107; (refine (HE.out _ M1.out).mono ?_); rintro e w2 ⟨rfl, hm, hb⟩; have M2 := Lib.hid hm; have B2 := Lib.hid hb; clear hm hb)
  go_ret
  refine ⟨rfl, M2.out, ?_⟩
  exact ((B1.out.mono fun k hk => .inr (.inr ⟨0, _, _, by rw [show k = cb from hk]⟩)).drewN 1).trans (B2.out.mono fun k hk => hk.elim .inl fun h => .inr (.inl h))
set_option maxRecDepth 100000 in
set_option maxHeartbeats 2000000 in
theorem step_lhu {cb cap j : Nat} {y : RvV} (h : Mach w xb mb bb c eb (.slice (some ⟨cb, 0, none⟩) code.length cap) code s) (hK : effF y.op = 108)
    (hf : Calls Tryz.prog 37 #[.pointer (some ⟨xb, 0, none⟩)] w (FetchDone xb mb bb c eb cb cap j code s y w))
    (he : ∀ u, Mach u xb mb bb c eb (.slice (some ⟨cb, 0, none⟩) code.length cap) code s → Calls Tryz.prog 108 #[.pointer (some ⟨xb, 0, none⟩), .agg #[.int .i64 y.op, .int .i64 y.rd, .int .i64 y.rs1, .int .i64 y.rs2, .int .i64 y.imm]] u (EffDone xb mb bb c eb (.slice (some ⟨cb, 0, none⟩) code.length cap) code u (execV y s))) :
    Calls Tryz.prog 13 #[.pointer (some ⟨xb, 0, none⟩)] w (StepDone xb mb bb c eb (.slice (some ⟨cb, 0, none⟩) code.length cap) code w (execV y s)) := by
  have HV := Lib.hid (mvalid_yes h)
  have HF := Lib.hid hf
  generalize execV y s = R at he ⊢
  have HE := Lib.hid he
  have HK := Lib.hid hK
  clear h hf he hK
  go_enter Tryz.func13, Tryz.ntmps13
  go_wp2_with (first
    | (go_at_call 36; (with_reducible refine HV.out.mono ?_); rintro e w' ⟨rfl, rfl⟩)
    | (go_at_call 37; (with_reducible refine HF.out.mono ?_); rintro e w1 ⟨rfl, hm, hb, hs⟩; have M1 := Lib.hid (show Mach w1.drew xb mb bb c eb (.slice (some ⟨cb, 0, none⟩) code.length cap) code s from hm.drewN 1); have B1 := Lib.hid hb; obtain ⟨c1, c2, c3, c4, c5, c6⟩ := hs; rw [HK.out] at c6; clear hm hb))
  go_still_tail 9, (by kernel_rfl)
  go_wp2_with (go_at_call 108; (refine (HE.out _ M1.out).mono ?_); rintro e w2 ⟨rfl, hm, hb⟩; have M2 := Lib.hid hm; have B2 := Lib.hid hb; clear hm hb)
  go_ret
  refine ⟨rfl, M2.out, ?_⟩
  exact ((B1.out.mono fun k hk => .inr (.inr ⟨0, _, _, by rw [show k = cb from hk]⟩)).drewN 1).trans (B2.out.mono fun k hk => hk.elim .inl fun h => .inr (.inl h))
set_option maxRecDepth 100000 in
set_option maxHeartbeats 2000000 in
theorem step_lwu {cb cap j : Nat} {y : RvV} (h : Mach w xb mb bb c eb (.slice (some ⟨cb, 0, none⟩) code.length cap) code s) (hK : effF y.op = 109)
    (hf : Calls Tryz.prog 37 #[.pointer (some ⟨xb, 0, none⟩)] w (FetchDone xb mb bb c eb cb cap j code s y w))
    (he : ∀ u, Mach u xb mb bb c eb (.slice (some ⟨cb, 0, none⟩) code.length cap) code s → Calls Tryz.prog 109 #[.pointer (some ⟨xb, 0, none⟩), .agg #[.int .i64 y.op, .int .i64 y.rd, .int .i64 y.rs1, .int .i64 y.rs2, .int .i64 y.imm]] u (EffDone xb mb bb c eb (.slice (some ⟨cb, 0, none⟩) code.length cap) code u (execV y s))) :
    Calls Tryz.prog 13 #[.pointer (some ⟨xb, 0, none⟩)] w (StepDone xb mb bb c eb (.slice (some ⟨cb, 0, none⟩) code.length cap) code w (execV y s)) := by
  have HV := Lib.hid (mvalid_yes h)
  have HF := Lib.hid hf
  generalize execV y s = R at he ⊢
  have HE := Lib.hid he
  have HK := Lib.hid hK
  clear h hf he hK
  go_enter Tryz.func13, Tryz.ntmps13
  go_wp2_with (first
    | (go_at_call 36; (with_reducible refine HV.out.mono ?_); rintro e w' ⟨rfl, rfl⟩)
    | (go_at_call 37; (with_reducible refine HF.out.mono ?_); rintro e w1 ⟨rfl, hm, hb, hs⟩; have M1 := Lib.hid (show Mach w1.drew xb mb bb c eb (.slice (some ⟨cb, 0, none⟩) code.length cap) code s from hm.drewN 1); have B1 := Lib.hid hb; obtain ⟨c1, c2, c3, c4, c5, c6⟩ := hs; rw [HK.out] at c6; clear hm hb))
  go_still_tail 9, (by kernel_rfl)
  go_wp2_with (go_at_call 109; (refine (HE.out _ M1.out).mono ?_); rintro e w2 ⟨rfl, hm, hb⟩; have M2 := Lib.hid hm; have B2 := Lib.hid hb; clear hm hb)
  go_ret
  refine ⟨rfl, M2.out, ?_⟩
  exact ((B1.out.mono fun k hk => .inr (.inr ⟨0, _, _, by rw [show k = cb from hk]⟩)).drewN 1).trans (B2.out.mono fun k hk => hk.elim .inl fun h => .inr (.inl h))
set_option maxRecDepth 100000 in
set_option maxHeartbeats 2000000 in
theorem step_sb {cb cap j : Nat} {y : RvV} (h : Mach w xb mb bb c eb (.slice (some ⟨cb, 0, none⟩) code.length cap) code s) (hK : effF y.op = 110)
    (hf : Calls Tryz.prog 37 #[.pointer (some ⟨xb, 0, none⟩)] w (FetchDone xb mb bb c eb cb cap j code s y w))
    (he : ∀ u, Mach u xb mb bb c eb (.slice (some ⟨cb, 0, none⟩) code.length cap) code s → Calls Tryz.prog 110 #[.pointer (some ⟨xb, 0, none⟩), .agg #[.int .i64 y.op, .int .i64 y.rd, .int .i64 y.rs1, .int .i64 y.rs2, .int .i64 y.imm]] u (EffDone xb mb bb c eb (.slice (some ⟨cb, 0, none⟩) code.length cap) code u (execV y s))) :
    Calls Tryz.prog 13 #[.pointer (some ⟨xb, 0, none⟩)] w (StepDone xb mb bb c eb (.slice (some ⟨cb, 0, none⟩) code.length cap) code w (execV y s)) := by
  have HV := Lib.hid (mvalid_yes h)
  have HF := Lib.hid hf
  generalize execV y s = R at he ⊢
  have HE := Lib.hid he
  have HK := Lib.hid hK
  clear h hf he hK
  go_enter Tryz.func13, Tryz.ntmps13
  go_wp2_with (first
    | (go_at_call 36; (with_reducible refine HV.out.mono ?_); rintro e w' ⟨rfl, rfl⟩)
    | (go_at_call 37; (with_reducible refine HF.out.mono ?_); rintro e w1 ⟨rfl, hm, hb, hs⟩; have M1 := Lib.hid (show Mach w1.drew xb mb bb c eb (.slice (some ⟨cb, 0, none⟩) code.length cap) code s from hm.drewN 1); have B1 := Lib.hid hb; obtain ⟨c1, c2, c3, c4, c5, c6⟩ := hs; rw [HK.out] at c6; clear hm hb))
  go_still_tail 9, (by kernel_rfl)
  go_wp2_with (go_at_call 110; (refine (HE.out _ M1.out).mono ?_); rintro e w2 ⟨rfl, hm, hb⟩; have M2 := Lib.hid hm; have B2 := Lib.hid hb; clear hm hb)
  go_ret
  refine ⟨rfl, M2.out, ?_⟩
  exact ((B1.out.mono fun k hk => .inr (.inr ⟨0, _, _, by rw [show k = cb from hk]⟩)).drewN 1).trans (B2.out.mono fun k hk => hk.elim .inl fun h => .inr (.inl h))
set_option maxRecDepth 100000 in
set_option maxHeartbeats 2000000 in
theorem step_sh {cb cap j : Nat} {y : RvV} (h : Mach w xb mb bb c eb (.slice (some ⟨cb, 0, none⟩) code.length cap) code s) (hK : effF y.op = 111)
    (hf : Calls Tryz.prog 37 #[.pointer (some ⟨xb, 0, none⟩)] w (FetchDone xb mb bb c eb cb cap j code s y w))
    (he : ∀ u, Mach u xb mb bb c eb (.slice (some ⟨cb, 0, none⟩) code.length cap) code s → Calls Tryz.prog 111 #[.pointer (some ⟨xb, 0, none⟩), .agg #[.int .i64 y.op, .int .i64 y.rd, .int .i64 y.rs1, .int .i64 y.rs2, .int .i64 y.imm]] u (EffDone xb mb bb c eb (.slice (some ⟨cb, 0, none⟩) code.length cap) code u (execV y s))) :
    Calls Tryz.prog 13 #[.pointer (some ⟨xb, 0, none⟩)] w (StepDone xb mb bb c eb (.slice (some ⟨cb, 0, none⟩) code.length cap) code w (execV y s)) := by
  have HV := Lib.hid (mvalid_yes h)
  have HF := Lib.hid hf
  generalize execV y s = R at he ⊢
  have HE := Lib.hid he
  have HK := Lib.hid hK
  clear h hf he hK
  go_enter Tryz.func13, Tryz.ntmps13
  go_wp2_with (first
    | (go_at_call 36; (with_reducible refine HV.out.mono ?_); rintro e w' ⟨rfl, rfl⟩)
    | (go_at_call 37; (with_reducible refine HF.out.mono ?_); rintro e w1 ⟨rfl, hm, hb, hs⟩; have M1 := Lib.hid (show Mach w1.drew xb mb bb c eb (.slice (some ⟨cb, 0, none⟩) code.length cap) code s from hm.drewN 1); have B1 := Lib.hid hb; obtain ⟨c1, c2, c3, c4, c5, c6⟩ := hs; rw [HK.out] at c6; clear hm hb))
  go_still_tail 9, (by kernel_rfl)
  go_wp2_with (go_at_call 111; (refine (HE.out _ M1.out).mono ?_); rintro e w2 ⟨rfl, hm, hb⟩; have M2 := Lib.hid hm; have B2 := Lib.hid hb; clear hm hb)
  go_ret
  refine ⟨rfl, M2.out, ?_⟩
  exact ((B1.out.mono fun k hk => .inr (.inr ⟨0, _, _, by rw [show k = cb from hk]⟩)).drewN 1).trans (B2.out.mono fun k hk => hk.elim .inl fun h => .inr (.inl h))
set_option maxRecDepth 100000 in
set_option maxHeartbeats 2000000 in
theorem step_sw {cb cap j : Nat} {y : RvV} (h : Mach w xb mb bb c eb (.slice (some ⟨cb, 0, none⟩) code.length cap) code s) (hK : effF y.op = 112)
    (hf : Calls Tryz.prog 37 #[.pointer (some ⟨xb, 0, none⟩)] w (FetchDone xb mb bb c eb cb cap j code s y w))
    (he : ∀ u, Mach u xb mb bb c eb (.slice (some ⟨cb, 0, none⟩) code.length cap) code s → Calls Tryz.prog 112 #[.pointer (some ⟨xb, 0, none⟩), .agg #[.int .i64 y.op, .int .i64 y.rd, .int .i64 y.rs1, .int .i64 y.rs2, .int .i64 y.imm]] u (EffDone xb mb bb c eb (.slice (some ⟨cb, 0, none⟩) code.length cap) code u (execV y s))) :
    Calls Tryz.prog 13 #[.pointer (some ⟨xb, 0, none⟩)] w (StepDone xb mb bb c eb (.slice (some ⟨cb, 0, none⟩) code.length cap) code w (execV y s)) := by
  have HV := Lib.hid (mvalid_yes h)
  have HF := Lib.hid hf
  generalize execV y s = R at he ⊢
  have HE := Lib.hid he
  have HK := Lib.hid hK
  clear h hf he hK
  go_enter Tryz.func13, Tryz.ntmps13
  go_wp2_with (first
    | (go_at_call 36; (with_reducible refine HV.out.mono ?_); rintro e w' ⟨rfl, rfl⟩)
    | (go_at_call 37; (with_reducible refine HF.out.mono ?_); rintro e w1 ⟨rfl, hm, hb, hs⟩; have M1 := Lib.hid (show Mach w1.drew xb mb bb c eb (.slice (some ⟨cb, 0, none⟩) code.length cap) code s from hm.drewN 1); have B1 := Lib.hid hb; obtain ⟨c1, c2, c3, c4, c5, c6⟩ := hs; rw [HK.out] at c6; clear hm hb))
  go_still_tail 9, (by kernel_rfl)
  go_wp2_with (go_at_call 112; (refine (HE.out _ M1.out).mono ?_); rintro e w2 ⟨rfl, hm, hb⟩; have M2 := Lib.hid hm; have B2 := Lib.hid hb; clear hm hb)
  go_ret
  refine ⟨rfl, M2.out, ?_⟩
  exact ((B1.out.mono fun k hk => .inr (.inr ⟨0, _, _, by rw [show k = cb from hk]⟩)).drewN 1).trans (B2.out.mono fun k hk => hk.elim .inl fun h => .inr (.inl h))
set_option maxRecDepth 100000 in
set_option maxHeartbeats 2000000 in
theorem step_sd {cb cap j : Nat} {y : RvV} (h : Mach w xb mb bb c eb (.slice (some ⟨cb, 0, none⟩) code.length cap) code s) (hK : effF y.op = 113)
    (hf : Calls Tryz.prog 37 #[.pointer (some ⟨xb, 0, none⟩)] w (FetchDone xb mb bb c eb cb cap j code s y w))
    (he : ∀ u, Mach u xb mb bb c eb (.slice (some ⟨cb, 0, none⟩) code.length cap) code s → Calls Tryz.prog 113 #[.pointer (some ⟨xb, 0, none⟩), .agg #[.int .i64 y.op, .int .i64 y.rd, .int .i64 y.rs1, .int .i64 y.rs2, .int .i64 y.imm]] u (EffDone xb mb bb c eb (.slice (some ⟨cb, 0, none⟩) code.length cap) code u (execV y s))) :
    Calls Tryz.prog 13 #[.pointer (some ⟨xb, 0, none⟩)] w (StepDone xb mb bb c eb (.slice (some ⟨cb, 0, none⟩) code.length cap) code w (execV y s)) := by
  have HV := Lib.hid (mvalid_yes h)
  have HF := Lib.hid hf
  generalize execV y s = R at he ⊢
  have HE := Lib.hid he
  have HK := Lib.hid hK
  clear h hf he hK
  go_enter Tryz.func13, Tryz.ntmps13
  go_wp2_with (first
    | (go_at_call 36; (with_reducible refine HV.out.mono ?_); rintro e w' ⟨rfl, rfl⟩)
    | (go_at_call 37; (with_reducible refine HF.out.mono ?_); rintro e w1 ⟨rfl, hm, hb, hs⟩; have M1 := Lib.hid (show Mach w1.drew xb mb bb c eb (.slice (some ⟨cb, 0, none⟩) code.length cap) code s from hm.drewN 1); have B1 := Lib.hid hb; obtain ⟨c1, c2, c3, c4, c5, c6⟩ := hs; rw [HK.out] at c6; clear hm hb))
  go_still_tail 9, (by kernel_rfl)
  go_wp2_with (go_at_call 113; (refine (HE.out _ M1.out).mono ?_); rintro e w2 ⟨rfl, hm, hb⟩; have M2 := Lib.hid hm; have B2 := Lib.hid hb; clear hm hb)
  go_ret
  refine ⟨rfl, M2.out, ?_⟩
  exact ((B1.out.mono fun k hk => .inr (.inr ⟨0, _, _, by rw [show k = cb from hk]⟩)).drewN 1).trans (B2.out.mono fun k hk => hk.elim .inl fun h => .inr (.inl h))
set_option maxRecDepth 100000 in
set_option maxHeartbeats 2000000 in
theorem step_ecall {cb cap j : Nat} {y : RvV} (h : Mach w xb mb bb c eb (.slice (some ⟨cb, 0, none⟩) code.length cap) code s) (hK : effF y.op = 114)
    (hf : Calls Tryz.prog 37 #[.pointer (some ⟨xb, 0, none⟩)] w (FetchDone xb mb bb c eb cb cap j code s y w))
    (he : ∀ u, Mach u xb mb bb c eb (.slice (some ⟨cb, 0, none⟩) code.length cap) code s → Calls Tryz.prog 114 #[.pointer (some ⟨xb, 0, none⟩), .agg #[.int .i64 y.op, .int .i64 y.rd, .int .i64 y.rs1, .int .i64 y.rs2, .int .i64 y.imm]] u (EffDone xb mb bb c eb (.slice (some ⟨cb, 0, none⟩) code.length cap) code u (execV y s))) :
    Calls Tryz.prog 13 #[.pointer (some ⟨xb, 0, none⟩)] w (StepDone xb mb bb c eb (.slice (some ⟨cb, 0, none⟩) code.length cap) code w (execV y s)) := by
  have HV := Lib.hid (mvalid_yes h)
  have HF := Lib.hid hf
  generalize execV y s = R at he ⊢
  have HE := Lib.hid he
  have HK := Lib.hid hK
  clear h hf he hK
  go_enter Tryz.func13, Tryz.ntmps13
  go_wp2_with (first
    | (go_at_call 36; (with_reducible refine HV.out.mono ?_); rintro e w' ⟨rfl, rfl⟩)
    | (go_at_call 37; (with_reducible refine HF.out.mono ?_); rintro e w1 ⟨rfl, hm, hb, hs⟩; have M1 := Lib.hid (show Mach w1.drew xb mb bb c eb (.slice (some ⟨cb, 0, none⟩) code.length cap) code s from hm.drewN 1); have B1 := Lib.hid hb; obtain ⟨c1, c2, c3, c4, c5, c6⟩ := hs; rw [HK.out] at c6; clear hm hb))
  go_still_tail 9, (by kernel_rfl)
  go_wp2_with (go_at_call 114; (refine (HE.out _ M1.out).mono ?_); rintro e w2 ⟨rfl, hm, hb⟩; have M2 := Lib.hid hm; have B2 := Lib.hid hb; clear hm hb)
  go_ret
  refine ⟨rfl, M2.out, ?_⟩
  exact ((B1.out.mono fun k hk => .inr (.inr ⟨0, _, _, by rw [show k = cb from hk]⟩)).drewN 1).trans (B2.out.mono fun k hk => hk.elim .inl fun h => .inr (.inl h))
set_option maxRecDepth 100000 in
set_option maxHeartbeats 2000000 in
theorem step_withImmediate {cb cap j : Nat} {y : RvV} (h : Mach w xb mb bb c eb (.slice (some ⟨cb, 0, none⟩) code.length cap) code s) (hK : effF y.op = 115)
    (hf : Calls Tryz.prog 37 #[.pointer (some ⟨xb, 0, none⟩)] w (FetchDone xb mb bb c eb cb cap j code s y w))
    (he : ∀ u, Mach u xb mb bb c eb (.slice (some ⟨cb, 0, none⟩) code.length cap) code s → Calls Tryz.prog 115 #[.pointer (some ⟨xb, 0, none⟩), .agg #[.int .i64 y.op, .int .i64 y.rd, .int .i64 y.rs1, .int .i64 y.rs2, .int .i64 y.imm]] u (EffDone xb mb bb c eb (.slice (some ⟨cb, 0, none⟩) code.length cap) code u (execV y s))) :
    Calls Tryz.prog 13 #[.pointer (some ⟨xb, 0, none⟩)] w (StepDone xb mb bb c eb (.slice (some ⟨cb, 0, none⟩) code.length cap) code w (execV y s)) := by
  have HV := Lib.hid (mvalid_yes h)
  have HF := Lib.hid hf
  generalize execV y s = R at he ⊢
  have HE := Lib.hid he
  have HK := Lib.hid hK
  clear h hf he hK
  go_enter Tryz.func13, Tryz.ntmps13
  go_wp2_with (first
    | (go_at_call 36; (with_reducible refine HV.out.mono ?_); rintro e w' ⟨rfl, rfl⟩)
    | (go_at_call 37; (with_reducible refine HF.out.mono ?_); rintro e w1 ⟨rfl, hm, hb, hs⟩; have M1 := Lib.hid (show Mach w1.drew xb mb bb c eb (.slice (some ⟨cb, 0, none⟩) code.length cap) code s from hm.drewN 1); have B1 := Lib.hid hb; obtain ⟨c1, c2, c3, c4, c5, c6⟩ := hs; rw [HK.out] at c6; clear hm hb))
  go_still_tail 9, (by kernel_rfl)
  go_wp2_with (go_at_call 115; (refine (HE.out _ M1.out).mono ?_); rintro e w2 ⟨rfl, hm, hb⟩; have M2 := Lib.hid hm; have B2 := Lib.hid hb; clear hm hb)
  go_ret
  refine ⟨rfl, M2.out, ?_⟩
  exact ((B1.out.mono fun k hk => .inr (.inr ⟨0, _, _, by rw [show k = cb from hk]⟩)).drewN 1).trans (B2.out.mono fun k hk => hk.elim .inl fun h => .inr (.inl h))
set_option maxRecDepth 100000 in
set_option maxHeartbeats 2000000 in
theorem step_withRegister {cb cap j : Nat} {y : RvV} (h : Mach w xb mb bb c eb (.slice (some ⟨cb, 0, none⟩) code.length cap) code s) (hK : effF y.op = 116)
    (hf : Calls Tryz.prog 37 #[.pointer (some ⟨xb, 0, none⟩)] w (FetchDone xb mb bb c eb cb cap j code s y w))
    (he : ∀ u, Mach u xb mb bb c eb (.slice (some ⟨cb, 0, none⟩) code.length cap) code s → Calls Tryz.prog 116 #[.pointer (some ⟨xb, 0, none⟩), .agg #[.int .i64 y.op, .int .i64 y.rd, .int .i64 y.rs1, .int .i64 y.rs2, .int .i64 y.imm]] u (EffDone xb mb bb c eb (.slice (some ⟨cb, 0, none⟩) code.length cap) code u (execV y s))) :
    Calls Tryz.prog 13 #[.pointer (some ⟨xb, 0, none⟩)] w (StepDone xb mb bb c eb (.slice (some ⟨cb, 0, none⟩) code.length cap) code w (execV y s)) := by
  have HV := Lib.hid (mvalid_yes h)
  have HF := Lib.hid hf
  generalize execV y s = R at he ⊢
  have HE := Lib.hid he
  have HK := Lib.hid hK
  clear h hf he hK
  go_enter Tryz.func13, Tryz.ntmps13
  go_wp2_with (first
    | (go_at_call 36; (with_reducible refine HV.out.mono ?_); rintro e w' ⟨rfl, rfl⟩)
    | (go_at_call 37; (with_reducible refine HF.out.mono ?_); rintro e w1 ⟨rfl, hm, hb, hs⟩; have M1 := Lib.hid (show Mach w1.drew xb mb bb c eb (.slice (some ⟨cb, 0, none⟩) code.length cap) code s from hm.drewN 1); have B1 := Lib.hid hb; obtain ⟨c1, c2, c3, c4, c5, c6⟩ := hs; rw [HK.out] at c6; clear hm hb))
  go_still_tail 9, (by kernel_rfl)
  go_wp2_with (go_at_call 116; (refine (HE.out _ M1.out).mono ?_); rintro e w2 ⟨rfl, hm, hb⟩; have M2 := Lib.hid hm; have B2 := Lib.hid hb; clear hm hb)
  go_ret
  refine ⟨rfl, M2.out, ?_⟩
  exact ((B1.out.mono fun k hk => .inr (.inr ⟨0, _, _, by rw [show k = cb from hk]⟩)).drewN 1).trans (B2.out.mono fun k hk => hk.elim .inl fun h => .inr (.inl h))
end
end Go.Proofs.YtnaceogkaiodnaaGreat

