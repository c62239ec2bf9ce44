/- What Step of package rvstep returns and leaves: what a step of the machine is; contracts for any machine, in whatever memory of the program. -/
import Derived.Test.YtnaceogkaiodnaaGreatM10
namespace Go.Proofs.YtnaceogkaiodnaaGreat
open Go.RowKit
set_option linter.unusedVariables false

section
variable {w w' : World} {xb mb bb c eb : Nat} {V : Value} {code : List Int} {s : MSt}
set_option maxRecDepth 100000 in
set_option maxHeartbeats 2000000 in
theorem step_lui {cb cap j : Nat} {y : RvV} (h : Mach w xb mb bb c eb (.slice (some ⟨cb, 0, none⟩) code.length cap) code s) (hK : effF y.op = 93)
    (hf : Calls Tryz.prog 37 #[.pointer (some ⟨xb, 0, none⟩)] w (FetchDone xb mb bb c eb cb cap j code s y w))
    (he : ∀ u, Mach u xb mb bb c eb (.slice (some ⟨cb, 0, none⟩) code.length cap) code s → Calls Tryz.prog 93 #[.pointer (some ⟨xb, 0, none⟩), .agg #[.int .i64 y.op, .int .i64 y.rd, .int .i64 y.rs1, .int .i64 y.rs2, .int .i64 y.imm]] u (EffDone xb mb bb c eb (.slice (some ⟨cb, 0, none⟩) code.length cap) code u (execV y s))) :
    Calls Tryz.prog 13 #[.pointer (some ⟨xb, 0, none⟩)] w (StepDone xb mb bb c eb (.slice (some ⟨cb, 0, none⟩) code.length cap) code w (execV y s)) := by
  have HV := Lib.hid (mvalid_yes h)
  have HF := Lib.hid hf
  generalize execV y s = R at he ⊢
  have HE := Lib.hid he
  have HK := Lib.hid hK
  clear h hf he hK
  go_enter Tryz.func13, Tryz.ntmps13
  go_wp2_with (first
    | (go_at_call 36; (with_reducible refine HV.out.mono ?_); rintro e w' ⟨rfl, rfl⟩)
    | (go_at_call 37; (with_reducible refine HF.out.mono ?_); rintro e w1 ⟨rfl, hm, hb, hs⟩; have M1 := Lib.hid (show Mach w1.drew xb mb bb c eb (.slice (some ⟨cb, 0, none⟩) code.length cap) code s from hm.drewN 1); have B1 := Lib.hid hb; obtain ⟨c1, c2, c3, c4, c5, c6⟩ := hs; rw [HK.out] at c6; clear hm hb))
  go_still_tail 9, (by kernel_rfl)
  go_wp2_with (go_at_call 93; (refine (HE.out _ M1.out).mono ?_); rintro e w2 ⟨rfl, hm, hb⟩; have M2 := Lib.hid hm; have B2 := Lib.hid hb; clear hm hb)
  go_ret
  refine ⟨rfl, M2.out, ?_⟩
  exact ((B1.out.mono fun k hk => .inr (.inr ⟨0, _, _, by rw [show k = cb from hk]⟩)).drewN 1).trans (B2.out.mono fun k hk => hk.elim .inl fun h => .inr (.inl h))
set_option maxRecDepth 100000 in
set_option maxHeartbeats 2000000 in
theorem step_auipc {cb cap j : Nat} {y : RvV} (h : Mach w xb mb bb c eb (.slice (some ⟨cb, 0, none⟩) code.length cap) code s) (hK : effF y.op = 94)
    (hf : Calls Tryz.prog 37 #[.pointer (some ⟨xb, 0, none⟩)] w (FetchDone xb mb bb c eb cb cap j code s y w))
    (he : ∀ u, Mach u xb mb bb c eb (.slice (some ⟨cb, 0, none⟩) code.length cap) code s → Calls Tryz.prog 94 #[.pointer (some ⟨xb, 0, none⟩), .agg #[.int .i64 y.op, .int .i64 y.rd, .int .i64 y.rs1, .int .i64 y.rs2, .int .i64 y.imm]] u (EffDone xb mb bb c eb (.slice (some ⟨cb, 0, none⟩) code.length cap) code u (execV y s))) :
    Calls Tryz.prog 13 #[.pointer (some ⟨xb, 0, none⟩)] w (StepDone xb mb bb c eb (.slice (some ⟨cb, 0, none⟩) code.length cap) code w (execV y s)) := by
  have HV := Lib.hid (mvalid_yes h)
  have HF := Lib.hid hf
  generalize execV y s = R at he ⊢
  have HE := Lib.hid he
  have HK := Lib.hid hK
  clear h hf he hK
  go_enter Tryz.func13, Tryz.ntmps13
  go_wp2_with (first
    | (go_at_call 36; (with_reducible refine HV.out.mono ?_); rintro e w' ⟨rfl, rfl⟩)
    | (go_at_call 37; (with_reducible refine HF.out.mono ?_); rintro e w1 ⟨rfl, hm, hb, hs⟩; have M1 := Lib.hid (show Mach w1.drew xb mb bb c eb (.slice (some ⟨cb, 0, none⟩) code.length cap) code s from hm.drewN 1); have B1 := Lib.hid hb; obtain ⟨c1, c2, c3, c4, c5, c6⟩ := hs; rw [HK.out] at c6; clear hm hb))
  go_still_tail 9, (by kernel_rfl)
  go_wp2_with (go_at_call 94; (refine (HE.out _ M1.out).mono ?_); rintro e w2 ⟨rfl, hm, hb⟩; have M2 := Lib.hid hm; have B2 := Lib.hid hb; clear hm hb)
  go_ret
  refine ⟨rfl, M2.out, ?_⟩
  exact ((B1.out.mono fun k hk => .inr (.inr ⟨0, _, _, by rw [show k = cb from hk]⟩)).drewN 1).trans (B2.out.mono fun k hk => hk.elim .inl fun h => .inr (.inl h))
set_option maxRecDepth 100000 in
set_option maxHeartbeats 2000000 in
theorem step_jal {cb cap j : Nat} {y : RvV} (h : Mach w xb mb bb c eb (.slice (some ⟨cb, 0, none⟩) code.length cap) code s) (hK : effF y.op = 95)
    (hf : Calls Tryz.prog 37 #[.pointer (some ⟨xb, 0, none⟩)] w (FetchDone xb mb bb c eb cb cap j code s y w))
    (he : ∀ u, Mach u xb mb bb c eb (.slice (some ⟨cb, 0, none⟩) code.length cap) code s → Calls Tryz.prog 95 #[.pointer (some ⟨xb, 0, none⟩), .agg #[.int .i64 y.op, .int .i64 y.rd, .int .i64 y.rs1, .int .i64 y.rs2, .int .i64 y.imm]] u (EffDone xb mb bb c eb (.slice (some ⟨cb, 0, none⟩) code.length cap) code u (execV y s))) :
    Calls Tryz.prog 13 #[.pointer (some ⟨xb, 0, none⟩)] w (StepDone xb mb bb c eb (.slice (some ⟨cb, 0, none⟩) code.length cap) code w (execV y s)) := by
  have HV := Lib.hid (mvalid_yes h)
  have HF := Lib.hid hf
  generalize execV y s = R at he ⊢
  have HE := Lib.hid he
  have HK := Lib.hid hK
  clear h hf he hK
  go_enter Tryz.func13, Tryz.ntmps13
  go_wp2_with (first
    | (go_at_call 36; (with_reducible refine HV.out.mono ?_); rintro e w' ⟨rfl, rfl⟩)
    | (go_at_call 37; (with_reducible refine HF.out.mono ?_); rintro e w1 ⟨rfl, hm, hb, hs⟩; have M1 := Lib.hid (show Mach w1.drew xb mb bb c eb (.slice (some ⟨cb, 0, none⟩) code.length cap) code s from hm.drewN 1); have B1 := Lib.hid hb; obtain ⟨c1, c2, c3, c4, c5, c6⟩ := hs; rw [HK.out] at c6; clear hm hb))
  go_still_tail 9, (by kernel_rfl)
  go_wp2_with (go_at_call 95; (refine (HE.out _ M1.out).mono ?_); rintro e w2 ⟨rfl, hm, hb⟩; have M2 := Lib.hid hm; have B2 := Lib.hid hb; clear hm hb)
  go_ret
  refine ⟨rfl, M2.out, ?_⟩
  exact ((B1.out.mono fun k hk => .inr (.inr ⟨0, _, _, by rw [show k = cb from hk]⟩)).drewN 1).trans (B2.out.mono fun k hk => hk.elim .inl fun h => .inr (.inl h))
set_option maxRecDepth 100000 in
set_option maxHeartbeats 2000000 in
theorem step_jalr {cb cap j : Nat} {y : RvV} (h : Mach w xb mb bb c eb (.slice (some ⟨cb, 0, none⟩) code.length cap) code s) (hK : effF y.op = 96)
    (hf : Calls Tryz.prog 37 #[.pointer (some ⟨xb, 0, none⟩)] w (FetchDone xb mb bb c eb cb cap j code s y w))
    (he : ∀ u, Mach u xb mb bb c eb (.slice (some ⟨cb, 0, none⟩) code.length cap) code s → Calls Tryz.prog 96 #[.pointer (some ⟨xb, 0, none⟩), .agg #[.int .i64 y.op, .int .i64 y.rd, .int .i64 y.rs1, .int .i64 y.rs2, .int .i64 y.imm]] u (EffDone xb mb bb c eb (.slice (some ⟨cb, 0, none⟩) code.length cap) code u (execV y s))) :
    Calls Tryz.prog 13 #[.pointer (some ⟨xb, 0, none⟩)] w (StepDone xb mb bb c eb (.slice (some ⟨cb, 0, none⟩) code.length cap) code w (execV y s)) := by
  have HV := Lib.hid (mvalid_yes h)
  have HF := Lib.hid hf
  generalize execV y s = R at he ⊢
  have HE := Lib.hid he
  have HK := Lib.hid hK
  clear h hf he hK
  go_enter Tryz.func13, Tryz.ntmps13
  go_wp2_with (first
    | (go_at_call 36; (with_reducible refine HV.out.mono ?_); rintro e w' ⟨rfl, rfl⟩)
    | (go_at_call 37; (with_reducible refine HF.out.mono ?_); rintro e w1 ⟨rfl, hm, hb, hs⟩; have M1 := Lib.hid (show Mach w1.drew xb mb bb c eb (.slice (some ⟨cb, 0, none⟩) code.length cap) code s from hm.drewN 1); have B1 := Lib.hid hb; obtain ⟨c1, c2, c3, c4, c5, c6⟩ := hs; rw [HK.out] at c6; clear hm hb))
  go_still_tail 9, (by kernel_rfl)
  go_wp2_with (go_at_call 96; (refine (HE.out _ M1.out).mono ?_); rintro e w2 ⟨rfl, hm, hb⟩; have M2 := Lib.hid hm; have B2 := Lib.hid hb; clear hm hb)
  go_ret
  refine ⟨rfl, M2.out, ?_⟩
  exact ((B1.out.mono fun k hk => .inr (.inr ⟨0, _, _, by rw [show k = cb from hk]⟩)).drewN 1).trans (B2.out.mono fun k hk => hk.elim .inl fun h => .inr (.inl h))
set_option maxRecDepth 100000 in
set_option maxHeartbeats 2000000 in
theorem step_beq {cb cap j : Nat} {y : RvV} (h : Mach w xb mb bb c eb (.slice (some ⟨cb, 0, none⟩) code.length cap) code s) (hK : effF y.op = 97)
    (hf : Calls Tryz.prog 37 #[.pointer (some ⟨xb, 0, none⟩)] w (FetchDone xb mb bb c eb cb cap j code s y w))
    (he : ∀ u, Mach u xb mb bb c eb (.slice (some ⟨cb, 0, none⟩) code.length cap) code s → Calls Tryz.prog 97 #[.pointer (some ⟨xb, 0, none⟩), .agg #[.int .i64 y.op, .int .i64 y.rd, .int .i64 y.rs1, .int .i64 y.rs2, .int .i64 y.imm]] u (EffDone xb mb bb c eb (.slice (some ⟨cb, 0, none⟩) code.length cap) code u (execV y s))) :
    Calls Tryz.prog 13 #[.pointer (some ⟨xb, 0, none⟩)] w (StepDone xb mb bb c eb (.slice (some ⟨cb, 0, none⟩) code.length cap) code w (execV y s)) := by
  have HV := Lib.hid (mvalid_yes h)
  have HF := Lib.hid hf
  generalize execV y s = R at he ⊢
  have HE := Lib.hid he
  have HK := Lib.hid hK
  clear h hf he hK
  go_enter Tryz.func13, Tryz.ntmps13
  go_wp2_with (first
    | (go_at_call 36; (with_reducible refine HV.out.mono ?_); rintro e w' ⟨rfl, rfl⟩)
    | (go_at_call 37; (with_reducible refine HF.out.mono ?_); rintro e w1 ⟨rfl, hm, hb, hs⟩; have M1 := Lib.hid (show Mach w1.drew xb mb bb c eb (.slice (some ⟨cb, 0, none⟩) code.length cap) code s from hm.drewN 1); have B1 := Lib.hid hb; obtain ⟨c1, c2, c3, c4, c5, c6⟩ := hs; rw [HK.out] at c6; clear hm hb))
  go_still_tail 9, (by kernel_rfl)
  go_wp2_with (go_at_call 97; (refine (HE.out _ M1.out).mono ?_); rintro e w2 ⟨rfl, hm, hb⟩; have M2 := Lib.hid hm; have B2 := Lib.hid hb; clear hm hb)
  go_ret
  refine ⟨rfl, M2.out, ?_⟩
  exact ((B1.out.mono fun k hk => .inr (.inr ⟨0, _, _, by rw [show k = cb from hk]⟩)).drewN 1).trans (B2.out.mono fun k hk => hk.elim .inl fun h => .inr (.inl h))
set_option maxRecDepth 100000 in
set_option maxHeartbeats 2000000 in
theorem step_bne {cb cap j : Nat} {y : RvV} (h : Mach w xb mb bb c eb (.slice (some ⟨cb, 0, none⟩) code.length cap) code s) (hK : effF y.op = 98)
    (hf : Calls Tryz.prog 37 #[.pointer (some ⟨xb, 0, none⟩)] w (FetchDone xb mb bb c eb cb cap j code s y w))
    (he : ∀ u, Mach u xb mb bb c eb (.slice (some ⟨cb, 0, none⟩) code.length cap) code s → Calls Tryz.prog 98 #[.pointer (some ⟨xb, 0, none⟩), .agg #[.int .i64 y.op, .int .i64 y.rd, .int .i64 y.rs1, .int .i64 y.rs2, .int .i64 y.imm]] u (EffDone xb mb bb c eb (.slice (some ⟨cb, 0, none⟩) code.length cap) code u (execV y s))) :
    Calls Tryz.prog 13 #[.pointer (some ⟨xb, 0, none⟩)] w (StepDone xb mb bb c eb (.slice (some ⟨cb, 0, none⟩) code.length cap) code w (execV y s)) := by
  have HV := Lib.hid (mvalid_yes h)
  have HF := Lib.hid hf
  generalize execV y s = R at he ⊢
  have HE := Lib.hid he
  have HK := Lib.hid hK
  clear h hf he hK
  go_enter Tryz.func13, Tryz.ntmps13
  go_wp2_with (first
    | (go_at_call 36; (with_reducible refine HV.out.mono ?_); rintro e w' ⟨rfl, rfl⟩)
    | (go_at_call 37; (with_reducible refine HF.out.mono ?_); rintro e w1 ⟨rfl, hm, hb, hs⟩; have M1 := Lib.hid (show Mach w1.drew xb mb bb c eb (.slice (some ⟨cb, 0, none⟩) code.length cap) code s from hm.drewN 1); have B1 := Lib.hid hb; obtain ⟨c1, c2, c3, c4, c5, c6⟩ := hs; rw [HK.out] at c6; clear hm hb))
  go_still_tail 9, (by kernel_rfl)
  go_wp2_with (go_at_call 98; (refine (HE.out _ M1.out).mono ?_); rintro e w2 ⟨rfl, hm, hb⟩; have M2 := Lib.hid hm; have B2 := Lib.hid hb; clear hm hb)
  go_ret
  refine ⟨rfl, M2.out, ?_⟩
  exact ((B1.out.mono fun k hk => .inr (.inr ⟨0, _, _, by rw [show k = cb from hk]⟩)).drewN 1).trans (B2.out.mono fun k hk => hk.elim .inl fun h => .inr (.inl h))
set_option maxRecDepth 100000 in
set_option maxHeartbeats 2000000 in
theorem step_blt {cb cap j : Nat} {y : RvV} (h : Mach w xb mb bb c eb (.slice (some ⟨cb, 0, none⟩) code.length cap) code s) (hK : effF y.op = 99)
    (hf : Calls Tryz.prog 37 #[.pointer (some ⟨xb, 0, none⟩)] w (FetchDone xb mb bb c eb cb cap j code s y w))
    (he : ∀ u, Mach u xb mb bb c eb (.slice (some ⟨cb, 0, none⟩) code.length cap) code s → Calls Tryz.prog 99 #[.pointer (some ⟨xb, 0, none⟩), .agg #[.int .i64 y.op, .int .i64 y.rd, .int .i64 y.rs1, .int .i64 y.rs2, .int .i64 y.imm]] u (EffDone xb mb bb c eb (.slice (some ⟨cb, 0, none⟩) code.length cap) code u (execV y s))) :
    Calls Tryz.prog 13 #[.pointer (some ⟨xb, 0, none⟩)] w (StepDone xb mb bb c eb (.slice (some ⟨cb, 0, none⟩) code.length cap) code w (execV y s)) := by
  have HV := Lib.hid (mvalid_yes h)
  have HF := Lib.hid hf
  generalize execV y s = R at he ⊢
  have HE := Lib.hid he
  have HK := Lib.hid hK
  clear h hf he hK
  go_enter Tryz.func13, Tryz.ntmps13
  go_wp2_with (first
    | (go_at_call 36; (with_reducible refine HV.out.mono ?_); rintro e w' ⟨rfl, rfl⟩)
    | (go_at_call 37; (with_reducible refine HF.out.mono ?_); rintro e w1 ⟨rfl, hm, hb, hs⟩; have M1 := Lib.hid (show Mach w1.drew xb mb bb c eb (.slice (some ⟨cb, 0, none⟩) code.length cap) code s from hm.drewN 1); have B1 := Lib.hid hb; obtain ⟨c1, c2, c3, c4, c5, c6⟩ := hs; rw [HK.out] at c6; clear hm hb))
  go_still_tail 9, (by kernel_rfl)
  go_wp2_with (go_at_call 99; (refine (HE.out _ M1.out).mono ?_); rintro e w2 ⟨rfl, hm, hb⟩; have M2 := Lib.hid hm; have B2 := Lib.hid hb; clear hm hb)
  go_ret
  refine ⟨rfl, M2.out, ?_⟩
  exact ((B1.out.mono fun k hk => .inr (.inr ⟨0, _, _, by rw [show k = cb from hk]⟩)).drewN 1).trans (B2.out.mono fun k hk => hk.elim .inl fun h => .inr (.inl h))
set_option maxRecDepth 100000 in
set_option maxHeartbeats 2000000 in
theorem step_bge {cb cap j : Nat} {y : RvV} (h : Mach w xb mb bb c eb (.slice (some ⟨cb, 0, none⟩) code.length cap) code s) (hK : effF y.op = 100)
    (hf : Calls Tryz.prog 37 #[.pointer (some ⟨xb, 0, none⟩)] w (FetchDone xb mb bb c eb cb cap j code s y w))
    (he : ∀ u, Mach u xb mb bb c eb (.slice (some ⟨cb, 0, none⟩) code.length cap) code s → Calls Tryz.prog 100 #[.pointer (some ⟨xb, 0, none⟩), .agg #[.int .i64 y.op, .int .i64 y.rd, .int .i64 y.rs1, .int .i64 y.rs2, .int .i64 y.imm]] u (EffDone xb mb bb c eb (.slice (some ⟨cb, 0, none⟩) code.length cap) code u (execV y s))) :
    Calls Tryz.prog 13 #[.pointer (some ⟨xb, 0, none⟩)] w (StepDone xb mb bb c eb (.slice (some ⟨cb, 0, none⟩) code.length cap) code w (execV y s)) := by
  have HV := Lib.hid (mvalid_yes h)
  have HF := Lib.hid hf
  generalize execV y s = R at he ⊢
  have HE := Lib.hid he
  have HK := Lib.hid hK
  clear h hf he hK
  go_enter Tryz.func13, Tryz.ntmps13
  go_wp2_with (first
    | (go_at_call 36; (with_reducible refine HV.out.mono ?_); rintro e w' ⟨rfl, rfl⟩)
    | (go_at_call 37; (with_reducible refine HF.out.mono ?_); rintro e w1 ⟨rfl, hm, hb, hs⟩; have M1 := Lib.hid (show Mach w1.drew xb mb bb c eb (.slice (some ⟨cb, 0, none⟩) code.length cap) code s from hm.drewN 1); have B1 := Lib.hid hb; obtain ⟨c1, c2, c3, c4, c5, c6⟩ := hs; rw [HK.out] at c6; clear hm hb))
  go_still_tail 9, (by kernel_rfl)
  go_wp2_with (go_at_call 100; (refine (HE.out _ M1.out).mono ?_); rintro e w2 ⟨rfl, hm, hb⟩; have M2 := Lib.hid hm; have B2 := Lib.hid hb; clear hm hb)
  go_ret
  refine ⟨rfl, M2.out, ?_⟩
  exact ((B1.out.mono fun k hk => .inr (.inr ⟨0, _, _, by rw [show k = cb from hk]⟩)).drewN 1).trans (B2.out.mono fun k hk => hk.elim .inl fun h => .inr (.inl h))
set_option maxRecDepth 100000 in
set_option maxHeartbeats 2000000 in
theorem step_bltu {cb cap j : Nat} {y : RvV} (h : Mach w xb mb bb c eb (.slice (some ⟨cb, 0, none⟩) code.length cap) code s) (hK : effF y.op = 101)
    (hf : Calls Tryz.prog 37 #[.pointer (some ⟨xb, 0, none⟩)] w (FetchDone xb mb bb c eb cb cap j code s y w))
    (he : ∀ u, Mach u xb mb bb c eb (.slice (some ⟨cb, 0, none⟩) code.length cap) code s → Calls Tryz.prog 101 #[.pointer (some ⟨xb, 0, none⟩), .agg #[.int .i64 y.op, .int .i64 y.rd, .int .i64 y.rs1, .int .i64 y.rs2, .int .i64 y.imm]] u (EffDone xb mb bb c eb (.slice (some ⟨cb, 0, none⟩) code.length cap) code u (execV y s))) :
    Calls Tryz.prog 13 #[.pointer (some ⟨xb, 0, none⟩)] w (StepDone xb mb bb c eb (.slice (some ⟨cb, 0, none⟩) code.length cap) code w (execV y s)) := by
  have HV := Lib.hid (mvalid_yes h)
  have HF := Lib.hid hf
  generalize execV y s = R at he ⊢
  have HE := Lib.hid he
  have HK := Lib.hid hK
  clear h hf he hK
  go_enter Tryz.func13, Tryz.ntmps13
  go_wp2_with (first
    | (go_at_call 36; (with_reducible refine HV.out.mono ?_); rintro e w' ⟨rfl, rfl⟩)
    | (go_at_call 37; (with_reducible refine HF.out.mono ?_); rintro e w1 ⟨rfl, hm, hb, hs⟩; have M1 := Lib.hid (show Mach w1.drew xb mb bb c eb (.slice (some ⟨cb, 0, none⟩) code.length cap) code s from hm.drewN 1); have B1 := Lib.hid hb; obtain ⟨c1, c2, c3, c4, c5, c6⟩ := hs; rw [HK.out] at c6; clear hm hb))
  go_still_tail 9, (by kernel_rfl)
  go_wp2_with (go_at_call 101; (refine (HE.out _ M1.out).mono ?_); rintro e w2 ⟨rfl, hm, hb⟩; have M2 := Lib.hid hm; have B2 := Lib.hid hb; clear hm hb)
  go_ret
  refine ⟨rfl, M2.out, ?_⟩
  exact ((B1.out.mono fun k hk => .inr (.inr ⟨0, _, _, by rw [show k = cb from hk]⟩)).drewN 1).trans (B2.out.mono fun k hk => hk.elim .inl fun h => .inr (.inl h))
set_option maxRecDepth 100000 in
set_option maxHeartbeats 2000000 in
theorem step_bgeu {cb cap j : Nat} {y : RvV} (h : Mach w xb mb bb c eb (.slice (some ⟨cb, 0, none⟩) code.length cap) code s) (hK : effF y.op = 102)
    (hf : Calls Tryz.prog 37 #[.pointer (some ⟨xb, 0, none⟩)] w (FetchDone xb mb bb c eb cb cap j code s y w))
    (he : ∀ u, Mach u xb mb bb c eb (.slice (some ⟨cb, 0, none⟩) code.length cap) code s → Calls Tryz.prog 102 #[.pointer (some ⟨xb, 0, none⟩), .agg #[.int .i64 y.op, .int .i64 y.rd, .int .i64 y.rs1, .int .i64 y.rs2, .int .i64 y.imm]] u (EffDone xb mb bb c eb (.slice (some ⟨cb, 0, none⟩) code.length cap) code u (execV y s))) :
    Calls Tryz.prog 13 #[.pointer (some ⟨xb, 0, none⟩)] w (StepDone xb mb bb c eb (.slice (some ⟨cb, 0, none⟩) code.length cap) code w (execV y s)) := by
  have HV := Lib.hid (mvalid_yes h)
  have HF := Lib.hid hf
  generalize execV y s = R at he ⊢
  have HE := Lib.hid he
  have HK := Lib.hid hK
  clear h hf he hK
  go_enter Tryz.func13, Tryz.ntmps13
  go_wp2_with (first
    | (go_at_call 36; (with_reducible refine HV.out.mono ?_); rintro e w' ⟨rfl, rfl⟩)
    | (go_at_call 37; (with_reducible refine HF.out.mono ?_); rintro e w1 ⟨rfl, hm, hb, hs⟩; have M1 := Lib.hid (show Mach w1.drew xb mb bb c eb (.slice (some ⟨cb, 0, none⟩) code.length cap) code s from hm.drewN 1); have B1 := Lib.hid hb; obtain ⟨c1, c2, c3, c4, c5, c6⟩ := hs; rw [HK.out] at c6; clear hm hb))
  go_still_tail 9, (by kernel_rfl)
  go_wp2_with (go_at_call 102; (refine (HE.out _ M1.out).mono ?_); rintro e w2 ⟨rfl, hm, hb⟩; have M2 := Lib.hid hm; have B2 := Lib.hid hb; clear hm hb)
  go_ret
  refine ⟨rfl, M2.out, ?_⟩
  exact ((B1.out.mono fun k hk => .inr (.inr ⟨0, _, _, by rw [show k = cb from hk]⟩)).drewN 1).trans (B2.out.mono fun k hk => hk.elim .inl fun h => .inr (.inl h))
set_option maxRecDepth 100000 in
set_option maxHeartbeats 2000000 in
theorem step_lb {cb cap j : Nat} {y : RvV} (h : Mach w xb mb bb c eb (.slice (some ⟨cb, 0, none⟩) code.length cap) code s) (hK : effF y.op = 103)
    (hf : Calls Tryz.prog 37 #[.pointer (some ⟨xb, 0, none⟩)] w (FetchDone xb mb bb c eb cb cap j code s y w))
    (he : ∀ u, Mach u xb mb bb c eb (.slice (some ⟨cb, 0, none⟩) code.length cap) code s → Calls Tryz.prog 103 #[.pointer (some ⟨xb, 0, none⟩), .agg #[.int .i64 y.op, .int .i64 y.rd, .int .i64 y.rs1, .int .i64 y.rs2, .int .i64 y.imm]] u (EffDone xb mb bb c eb (.slice (some ⟨cb, 0, none⟩) code.length cap) code u (execV y s))) :
    Calls Tryz.prog 13 #[.pointer (some ⟨xb, 0, none⟩)] w (StepDone xb mb bb c eb (.slice (some ⟨cb, 0, none⟩) code.length cap) code w (execV y s)) := by
  have HV := Lib.hid (mvalid_yes h)
  have HF := Lib.hid hf
  generalize execV y s = R at he ⊢
  have HE := Lib.hid he
  have HK := Lib.hid hK
  clear h hf he hK
  go_enter Tryz.func13, Tryz.ntmps13
  go_wp2_with (first
    | (go_at_call 36; (with_reducible refine HV.out.mono ?_); rintro e w' ⟨rfl, rfl⟩)
    | (go_at_call 37; (with_reducible refine HF.out.mono ?_); rintro e w1 ⟨rfl, hm, hb, hs⟩; have M1 := Lib.hid (show Mach w1.drew xb mb bb c eb (.slice (some ⟨cb, 0, none⟩) code.length cap) code s from hm.drewN 1); have B1 := Lib.hid hb; obtain ⟨c1, c2, c3, c4, c5, c6⟩ := hs; rw [HK.out] at c6; clear hm hb))
  go_still_tail 9, (by kernel_rfl)
  go_wp2_with (go_at_call 103; (refine (HE.out _ M1.out).mono ?_); rintro e w2 ⟨rfl, hm, hb⟩; have M2 := Lib.hid hm; have B2 := Lib.hid hb; clear hm hb)
  go_ret
  refine ⟨rfl, M2.out, ?_⟩
  exact ((B1.out.mono fun k hk => .inr (.inr ⟨0, _, _, by rw [show k = cb from hk]⟩)).drewN 1).trans (B2.out.mono fun k hk => hk.elim .inl fun h => .inr (.inl h))
set_option maxRecDepth 100000 in
set_option maxHeartbeats 2000000 in
theorem step_lh {cb cap j : Nat} {y : RvV} (h : Mach w xb mb bb c eb (.slice (some ⟨cb, 0, none⟩) code.length cap) code s) (hK : effF y.op = 104)
    (hf : Calls Tryz.prog 37 #[.pointer (some ⟨xb, 0, none⟩)] w (FetchDone xb mb bb c eb cb cap j code s y w))
    (he : ∀ u, Mach u xb mb bb c eb (.slice (some ⟨cb, 0, none⟩) code.length cap) code s → Calls Tryz.prog 104 #[.pointer (some ⟨xb, 0, none⟩), .agg #[.int .i64 y.op, .int .i64 y.rd, .int .i64 y.rs1, .int .i64 y.rs2, .int .i64 y.imm]] u (EffDone xb mb bb c eb (.slice (some ⟨cb, 0, none⟩) code.length cap) code u (execV y s))) :
    Calls Tryz.prog 13 #[.pointer (some ⟨xb, 0, none⟩)] w (StepDone xb mb bb c eb (.slice (some ⟨cb, 0, none⟩) code.length cap) code w (execV y s)) := by
  have HV := Lib.hid (mvalid_yes h)
  have HF := Lib.hid hf
  generalize execV y s = R at he ⊢
  have HE := Lib.hid he
  have HK := Lib.hid hK
  clear h hf he hK
  go_enter Tryz.func13, Tryz.ntmps13
  go_wp2_with (first
    | (go_at_call 36; (with_reducible refine HV.out.mono ?_); rintro e w' ⟨rfl, rfl⟩)
    | (go_at_call 37; (with_reducible refine HF.out.mono ?_); rintro e w1 ⟨rfl, hm, hb, hs⟩; have M1 := Lib.hid (show Mach w1.drew xb mb bb c eb (.slice (some ⟨cb, 0, none⟩) code.length cap) code s from hm.drewN 1); have B1 := Lib.hid hb; obtain ⟨c1, c2, c3, c4, c5, c6⟩ := hs; rw [HK.out] at c6; clear hm hb))
  go_still_tail 9, (by kernel_rfl)
  go_wp2_with (go_at_call 104; (refine (HE.out _ M1.out).mono ?_); rintro e w2 ⟨rfl, hm, hb⟩; have M2 := Lib.hid hm; have B2 := Lib.hid hb; clear hm hb)
  go_ret
  refine ⟨rfl, M2.out, ?_⟩
  exact ((B1.out.mono fun k hk => .inr (.inr ⟨0, _, _, by rw [show k = cb from hk]⟩)).drewN 1).trans (B2.out.mono fun k hk => hk.elim .inl fun h => .inr (.inl h))
end
end Go.Proofs.YtnaceogkaiodnaaGreat

