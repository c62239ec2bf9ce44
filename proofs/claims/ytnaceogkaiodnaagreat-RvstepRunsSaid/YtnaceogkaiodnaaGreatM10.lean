/- What each operation's effect of package rvstep returns and leaves: what executing its instruction is; contracts for any machine, in whatever memory of the program. -/
import Derived.Test.YtnaceogkaiodnaaGreatM7
import Derived.Test.YtnaceogkaiodnaaGreatM8
import Derived.Test.YtnaceogkaiodnaaGreatM9
import Derived.Test.YtnaceogkaiodnaaGreatM6
import Derived.Test.YtnaceogkaiodnaaGreatM5
namespace Go.Proofs.YtnaceogkaiodnaaGreat
open Go.RowKit
set_option linter.unusedVariables false
set_option linter.unusedSimpArgs false

/-- What an operation's function makes of two words. -/
def mkV (op x y : Int) : Int := if halfOp op = true then halfV (fnV op) x y else doV (fnV op) x y
section
variable {w w' : World} {xb mb bb c eb : Nat} {V : Value} {code : List Int} {s : MSt}
set_option maxRecDepth 100000 in
set_option maxHeartbeats 2000000 in
theorem withImm_any (h : Mach w xb mb bb c eb V code s) (op imm : Int) (d a b : Nat) (hd : d < 32) (ha : a < 32) (hb : b < 32) (i1 : -1048576 ≤ imm) (i2 : imm ≤ 1048576) (h22 : 22 ≤ op) (h62 : op ≤ 62) :
    Calls Tryz.prog 115 #[.pointer (some ⟨xb, 0, none⟩), .agg #[.int .i64 op, .int .i64 d, .int .i64 a, .int .i64 b, .int .i64 imm]] w (EffDone xb mb bb c eb V code w (0, (s.set d (mkV op (s.r a) (w64 imm))).at' (nextV s))) := by
  have hc : ∀ u y, Mach u xb mb bb c eb V code s → InW y → Calls Tryz.prog 135 #[.pointer (some ⟨xb, 0, none⟩), .agg #[.int .i64 op, .int .i64 d, .int .i64 a, .int .i64 b, .int .i64 imm], .int .u64 y] u (EffDone xb mb bb c eb V code u (0, (s.set d (mkV op (s.r a) y)).at' (nextV s))) := fun u y hu hy => by
    have hx := fun w => funAt (op := op) h22 h62 w
    unfold mkV
    cases hb' : halfOp op
    · rw [hb'] at hx
      exact compute_do hu op imm d a b hd ha hb i1 i2 y hy _ fnV_bd.1 fnV_bd.2 hx
    · rw [hb'] at hx
      exact compute_half hu op imm d a b hd ha hb i1 i2 y hy _ fnV_bd.1 fnV_bd.2 hx
  have hc1 := fun u hu => hc u (w64 imm) hu (w64_bd _)
  rw [show w64 imm = IntKind.u64.wrap imm from (wrap_w64 _).symm] at hc1 ⊢
  generalize mkV op (s.r a) (IntKind.u64.wrap imm) = R at hc1 ⊢
  have HC := Lib.hid hc1
  clear hc hc1 h22 h62
  have HW := Lib.hid (h.alloc (.cells #[.int .i64 op, .int .i64 d, .int .i64 a, .int .i64 b, .int .i64 imm] 76))
  have BW := Lib.hid ((But.refl (TwoBlocks xb bb) w).alloc (.cells #[.int .i64 op, .int .i64 d, .int .i64 a, .int .i64 b, .int .i64 imm] 76))
  obtain ⟨lt1, lt2, lt3, lt4⟩ := h.lt
  clear h
  go_enter Tryz.func115, Tryz.ntmps115
  go_wp2_with (go_at_call 135; (with_reducible refine (HC.out _ HW.out).mono ?_); rintro e w1 ⟨rfl, hm, hb⟩; have M1 := Lib.hid hm; have B1 := Lib.hid hb; clear hm hb)
  go_ret
  exact ⟨rfl, M1.out, BW.out.trans B1.out⟩
set_option maxRecDepth 100000 in
set_option maxHeartbeats 2000000 in
theorem withReg_any (h : Mach w xb mb bb c eb V code s) (op imm : Int) (d a b : Nat) (hd : d < 32) (ha : a < 32) (hb : b < 32) (i1 : -1048576 ≤ imm) (i2 : imm ≤ 1048576) (h22 : 22 ≤ op) (h62 : op ≤ 62) :
    Calls Tryz.prog 116 #[.pointer (some ⟨xb, 0, none⟩), .agg #[.int .i64 op, .int .i64 d, .int .i64 a, .int .i64 b, .int .i64 imm]] w (EffDone xb mb bb c eb V code w (0, (s.set d (mkV op (s.r a) (s.r b))).at' (nextV s))) := by
  have hc : ∀ u y, Mach u xb mb bb c eb V code s → InW y → Calls Tryz.prog 135 #[.pointer (some ⟨xb, 0, none⟩), .agg #[.int .i64 op, .int .i64 d, .int .i64 a, .int .i64 b, .int .i64 imm], .int .u64 y] u (EffDone xb mb bb c eb V code u (0, (s.set d (mkV op (s.r a) y)).at' (nextV s))) := fun u y hu hy => by
    have hx := fun w => funAt (op := op) h22 h62 w
    unfold mkV
    cases hb' : halfOp op
    · rw [hb'] at hx
      exact compute_do hu op imm d a b hd ha hb i1 i2 y hy _ fnV_bd.1 fnV_bd.2 hx
    · rw [hb'] at hx
      exact compute_half hu op imm d a b hd ha hb i1 i2 y hy _ fnV_bd.1 fnV_bd.2 hx
  have hc1 := fun u hu => hc u (s.r b) hu (h.ok.r b)
  generalize mkV op (s.r a) (s.r b) = R at hc1 ⊢
  have HC := Lib.hid hc1
  clear hc hc1 h22 h62
  have HW := Lib.hid (h.alloc (.cells #[.int .i64 op, .int .i64 d, .int .i64 a, .int .i64 b, .int .i64 imm] 76))
  have BW := Lib.hid ((But.refl (TwoBlocks xb bb) w).alloc (.cells #[.int .i64 op, .int .i64 d, .int .i64 a, .int .i64 b, .int .i64 imm] 76))
  obtain ⟨lt1, lt2, lt3, lt4⟩ := h.lt
  clear h
  have HK0 := Lib.hid (show (w.alloc (.cells #[.int .i64 op, .int .i64 d, .int .i64 a, .int .i64 b, .int .i64 imm] 76)).cell? ⟨w.heap.size, 0, none⟩ = some (.int .i64 op) ∧ (w.alloc (.cells #[.int .i64 op, .int .i64 d, .int .i64 a, .int .i64 b, .int .i64 imm] 76)).cell? ⟨w.heap.size, 1, none⟩ = some (.int .i64 d) ∧ (w.alloc (.cells #[.int .i64 op, .int .i64 d, .int .i64 a, .int .i64 b, .int .i64 imm] 76)).cell? ⟨w.heap.size, 2, none⟩ = some (.int .i64 a) ∧ (w.alloc (.cells #[.int .i64 op, .int .i64 d, .int .i64 a, .int .i64 b, .int .i64 imm] 76)).cell? ⟨w.heap.size, 3, none⟩ = some (.int .i64 b) ∧ (w.alloc (.cells #[.int .i64 op, .int .i64 d, .int .i64 a, .int .i64 b, .int .i64 imm] 76)).cell? ⟨w.heap.size, 4, none⟩ = some (.int .i64 imm) from ⟨new_cell _ _ _ _ _ _ rfl rfl, new_cell _ _ _ _ _ _ rfl rfl, new_cell _ _ _ _ _ _ rfl rfl, new_cell _ _ _ _ _ _ rfl rfl, new_cell _ _ _ _ _ _ rfl rfl⟩)
  have HWd := Lib.hid (HW.out.drewN 1)
  have c3 := HW.out.reg hb
  have hj : (b : Int) < 32 := by omega
  go_enter Tryz.func116, Tryz.ntmps116
  go_wp2_with fail
  obtain ⟨k0, k1, k2, k3, k4⟩ := HK0.out
  have HSZ := Lib.hid (show w.heap.size < (w.alloc (.cells #[.int .i64 op, .int .i64 d, .int .i64 a, .int .i64 b, .int .i64 imm] 76)).heap.size by simp)
  generalize w.alloc (.cells #[.int .i64 op, .int .i64 d, .int .i64 a, .int .i64 b, .int .i64 imm] 76) = W at *
  go_still_tail 9, (by kernel_rfl)
  go_wp2_with (go_at_call 135; (refine (HC.out _ HWd.out).mono ?_); rintro e w1 ⟨rfl, hm, hb⟩; have M1 := Lib.hid hm; have B1 := Lib.hid hb; clear hm hb)
  go_ret
  exact ⟨rfl, M1.out, (BW.out.drewN 1).trans B1.out⟩
end
theorem op_cases {op : Int} (h : 1 ≤ op ∧ op ≤ 63) : op = 1 ∨ op = 2 ∨ op = 3 ∨ op = 4 ∨ op = 5 ∨ op = 6 ∨ op = 7 ∨ op = 8 ∨ op = 9 ∨ op = 10 ∨ op = 11 ∨ op = 12 ∨ op = 13 ∨ op = 14 ∨ op = 15 ∨ op = 16 ∨ op = 17 ∨ op = 18 ∨ op = 19 ∨ op = 20 ∨ op = 21 ∨ op = 63 ∨ (22 ≤ op ∧ op ≤ 34) ∨ (35 ≤ op ∧ op ≤ 62) := by omega
/-- What is loaded has no more bytes than were asked for. -/
theorem load_zext {xs : List Int} {at' n : Int} (hn : sizedB n = true) (h : ∀ x ∈ xs, 0 ≤ x ∧ x < 256) : zextV (loadV xs at' n) n = loadV xs at' n := by
  by_cases he : numE xs.length at' n = 0
  · have hq := numE_in he
    have hb := numV_bd (partL_bd h at' n)
    have hlen : (partL xs at' n).length = n.toNat := by unfold partL; simp; omega
    unfold loadV
    rw [if_pos he]
    rw [hlen] at hb
    obtain ⟨b1, b2⟩ := hb
    generalize numV (partL xs at' n) = z at b1 b2 ⊢
    rcases sized_cases hn with rfl | rfl | rfl | rfl
    · rw [zextV_1]; exact Int.emod_eq_of_lt b1 (by simpa using b2)
    · rw [zextV_2]; exact Int.emod_eq_of_lt b1 (by simpa using b2)
    · rw [zextV_4]; exact Int.emod_eq_of_lt b1 (by simpa using b2)
    · rw [zextV_8]
  · unfold loadV
    rw [if_neg he]
    unfold zextV
    repeat' split
    all_goals rfl
theorem exec_1 (s : MSt) (d a b : Nat) (imm : Int) : execV ⟨1, d, a, b, imm⟩ s = (0, (s.set d (w64 (imm * 4096))).at' (nextV s)) := by
  simp [execV, storeOp, sizeV, signedOp, makeV, brV, ldV, stV, MSt.get]
theorem exec_2 (s : MSt) (d a b : Nat) (imm : Int) : execV ⟨2, d, a, b, imm⟩ s = (0, (s.set d (w64 (s.pc + imm * 4096))).at' (nextV s)) := by
  simp [execV, storeOp, sizeV, signedOp, makeV, brV, ldV, stV, MSt.get]
theorem exec_3 (s : MSt) (d a b : Nat) (imm : Int) : execV ⟨3, d, a, b, imm⟩ s = (0, (s.set d (nextV s)).at' (w64 (s.pc + imm))) := by
  simp [execV, storeOp, sizeV, signedOp, makeV, brV, ldV, stV, MSt.get]
theorem exec_4 (s : MSt) (d a b : Nat) (imm : Int) : execV ⟨4, d, a, b, imm⟩ s = (0, (s.set d (nextV s)).at' (w64 (s.r a + imm) / 2 * 2)) := by
  simp [execV, storeOp, sizeV, signedOp, makeV, brV, ldV, stV, MSt.get]
theorem exec_5 (s : MSt) (d a b : Nat) (imm : Int) : execV ⟨5, d, a, b, imm⟩ s = (0, brV 5 s (s.r a) (s.r b) imm) := by
  simp [execV, storeOp, sizeV, signedOp, makeV, brV, ldV, stV, MSt.get]
  rfl
theorem exec_6 (s : MSt) (d a b : Nat) (imm : Int) : execV ⟨6, d, a, b, imm⟩ s = (0, brV 6 s (s.r a) (s.r b) imm) := by
  simp [execV, storeOp, sizeV, signedOp, makeV, brV, ldV, stV, MSt.get]
  rfl
theorem exec_7 (s : MSt) (d a b : Nat) (imm : Int) : execV ⟨7, d, a, b, imm⟩ s = (0, brV 7 s (s.r a) (s.r b) imm) := by
  simp [execV, storeOp, sizeV, signedOp, makeV, brV, ldV, stV, MSt.get]
  rfl
theorem exec_8 (s : MSt) (d a b : Nat) (imm : Int) : execV ⟨8, d, a, b, imm⟩ s = (0, brV 8 s (s.r a) (s.r b) imm) := by
  simp [execV, storeOp, sizeV, signedOp, makeV, brV, ldV, stV, MSt.get]
  rfl
theorem exec_9 (s : MSt) (d a b : Nat) (imm : Int) : execV ⟨9, d, a, b, imm⟩ s = (0, brV 9 s (s.r a) (s.r b) imm) := by
  simp [execV, storeOp, sizeV, signedOp, makeV, brV, ldV, stV, MSt.get]
  rfl
theorem exec_10 (s : MSt) (d a b : Nat) (imm : Int) : execV ⟨10, d, a, b, imm⟩ s = (0, brV 10 s (s.r a) (s.r b) imm) := by
  simp [execV, storeOp, sizeV, signedOp, makeV, brV, ldV, stV, MSt.get]
  rfl
theorem exec_11 (s : MSt) (d a b : Nat) (imm : Int) : execV ⟨11, d, a, b, imm⟩ s = ldV sextV s d (w64 (s.r a + imm)) 1 := by
  simp [execV, storeOp, sizeV, signedOp, makeV, brV, ldV, stV, MSt.get]
theorem exec_12 (s : MSt) (d a b : Nat) (imm : Int) : execV ⟨12, d, a, b, imm⟩ s = ldV sextV s d (w64 (s.r a + imm)) 2 := by
  simp [execV, storeOp, sizeV, signedOp, makeV, brV, ldV, stV, MSt.get]
theorem exec_13 (s : MSt) (d a b : Nat) (imm : Int) : execV ⟨13, d, a, b, imm⟩ s = ldV sextV s d (w64 (s.r a + imm)) 4 := by
  simp [execV, storeOp, sizeV, signedOp, makeV, brV, ldV, stV, MSt.get]
theorem exec_14 (s : MSt) (d a b : Nat) (imm : Int) : execV ⟨14, d, a, b, imm⟩ s = ldV sextV s d (w64 (s.r a + imm)) 8 := by
  simp [execV, storeOp, sizeV, signedOp, makeV, brV, ldV, stV, MSt.get]
theorem exec_15 (s : MSt) (d a b : Nat) (imm : Int) (hx : ∀ x ∈ s.xs, 0 ≤ x ∧ x < 256) : execV ⟨15, d, a, b, imm⟩ s = ldV zextV s d (w64 (s.r a + imm)) 1 := by
  unfold ldV
  rw [load_zext (by decide) hx]
  simp [execV, storeOp, sizeV, signedOp, makeV, brV, MSt.get]
theorem exec_16 (s : MSt) (d a b : Nat) (imm : Int) (hx : ∀ x ∈ s.xs, 0 ≤ x ∧ x < 256) : execV ⟨16, d, a, b, imm⟩ s = ldV zextV s d (w64 (s.r a + imm)) 2 := by
  unfold ldV
  rw [load_zext (by decide) hx]
  simp [execV, storeOp, sizeV, signedOp, makeV, brV, MSt.get]
theorem exec_17 (s : MSt) (d a b : Nat) (imm : Int) (hx : ∀ x ∈ s.xs, 0 ≤ x ∧ x < 256) : execV ⟨17, d, a, b, imm⟩ s = ldV zextV s d (w64 (s.r a + imm)) 4 := by
  unfold ldV
  rw [load_zext (by decide) hx]
  simp [execV, storeOp, sizeV, signedOp, makeV, brV, MSt.get]
theorem exec_18 (s : MSt) (d a b : Nat) (imm : Int) : execV ⟨18, d, a, b, imm⟩ s = stV s (w64 (s.r a + imm)) 1 (s.r b) := by
  simp [execV, storeOp, sizeV, signedOp, makeV, brV, ldV, stV, MSt.get]
theorem exec_19 (s : MSt) (d a b : Nat) (imm : Int) : execV ⟨19, d, a, b, imm⟩ s = stV s (w64 (s.r a + imm)) 2 (s.r b) := by
  simp [execV, storeOp, sizeV, signedOp, makeV, brV, ldV, stV, MSt.get]
theorem exec_20 (s : MSt) (d a b : Nat) (imm : Int) : execV ⟨20, d, a, b, imm⟩ s = stV s (w64 (s.r a + imm)) 4 (s.r b) := by
  simp [execV, storeOp, sizeV, signedOp, makeV, brV, ldV, stV, MSt.get]
theorem exec_21 (s : MSt) (d a b : Nat) (imm : Int) : execV ⟨21, d, a, b, imm⟩ s = stV s (w64 (s.r a + imm)) 8 (s.r b) := by
  simp [execV, storeOp, sizeV, signedOp, makeV, brV, ldV, stV, MSt.get]
theorem exec_63 (s : MSt) (d a b : Nat) (imm : Int) : execV ⟨63, d, a, b, imm⟩ s = (1, s) := by
  simp [execV, storeOp, sizeV, signedOp, makeV, brV, ldV, stV, MSt.get]
theorem notR {op : Int} (h : 22 ≤ op) (h' : op ≤ 34) : (rvRowN op.toNat).form ≠ .R := by
  have : ∀ k : Fin 13, (rvRowN (22 + (k : Nat))).form ≠ .R := by decide
  have h2 := this ⟨op.toNat - 22, by omega⟩
  rwa [show 22 + (op.toNat - 22) = op.toNat by omega] at h2
theorem isR {op : Int} (h : 35 ≤ op) (h' : op ≤ 62) : (rvRowN op.toNat).form = .R := by
  have : ∀ k : Fin 28, (rvRowN (35 + (k : Nat))).form = .R := by decide
  have h2 := this ⟨op.toNat - 35, by omega⟩
  rwa [show 35 + (op.toNat - 35) = op.toNat by omega] at h2
theorem exec_make {y : RvV} (h : 22 ≤ y.op) (h' : y.op ≤ 62) (s : MSt) : execV y s = (0, (s.set y.rd (mkV y.op (s.get y.rs1) (if (rvRowN y.op.toNat).form = .R then s.get y.rs2 else w64 y.imm))).at' (nextV s)) := by
  unfold execV makeV mkV
  have e1 : storeOp y.op = false := decide_eq_false (by omega)
  have e2 : ¬ 0 < sizeV y.op := by
    unfold sizeV
    rw [if_neg (by omega), if_neg (by omega), if_neg (by omega), if_neg (by omega)]
    omega
  rw [if_neg (by omega), e1, if_neg (by decide), if_neg e2, if_neg (by omega), if_neg (by omega), if_neg (by omega), if_neg (by omega), if_neg (by omega)]
  try (cases halfOp y.op <;> rfl)
theorem imm_in20 {f : RvForm} {n : Int} (h : immOk f n) : -1048576 ≤ n ∧ n ≤ 1048576 := by
  cases f <;> simp only [immOk] at h <;> omega
/-- What each operation's effect returns and leaves is what executing its instruction is. -/
theorem eff_any {w : World} {xb mb bb c eb : Nat} {V : Value} {code : List Int} {s : MSt} (h : Mach w xb mb bb c eb V code s) {y : RvV} (hy : y.ok) :
    Calls Tryz.prog (effF y.op) #[.pointer (some ⟨xb, 0, none⟩), .agg #[.int .i64 y.op, .int .i64 y.rd, .int .i64 y.rs1, .int .i64 y.rs2, .int .i64 y.imm]] w (EffDone xb mb bb c eb V code w (execV y s)) := by
  obtain ⟨i1, i2⟩ := imm_in20 hy.imm
  obtain ⟨hd0, hd1⟩ := reg_pos hy.rd
  obtain ⟨ha0, ha1⟩ := reg_pos hy.rs1
  obtain ⟨hb0, hb1⟩ := reg_pos hy.rs2
  have hop := hy.op
  clear hy
  obtain ⟨op, rd, rs1, rs2, imm⟩ := y
  simp only at *
  obtain ⟨d, rfl⟩ := nat_of hd0
  obtain ⟨a, rfl⟩ := nat_of ha0
  obtain ⟨b, rfl⟩ := nat_of hb0
  have hd : d < 32 := by omega
  have ha : a < 32 := by omega
  have hb : b < 32 := by omega
  rcases op_cases hop with rfl | rfl | rfl | rfl | rfl | rfl | rfl | rfl | rfl | rfl | rfl | rfl | rfl | rfl | rfl | rfl | rfl | rfl | rfl | rfl | rfl | rfl | ⟨g1, g2⟩ | ⟨g1, g2⟩
  · rw [exec_1]; exact lui_any h 1 imm d a b hd ha hb i1 i2
  · rw [exec_2]; exact auipc_any h 2 imm d a b hd ha hb i1 i2
  · rw [exec_3]; exact jal_any h 3 imm d a b hd ha hb i1 i2
  · rw [exec_4]; exact jalr_any h 4 imm d a b hd ha hb i1 i2
  · rw [exec_5]; exact beq_any h 5 imm d a b hd ha hb i1 i2
  · rw [exec_6]; exact bne_any h 6 imm d a b hd ha hb i1 i2
  · rw [exec_7]; exact blt_any h 7 imm d a b hd ha hb i1 i2
  · rw [exec_8]; exact bge_any h 8 imm d a b hd ha hb i1 i2
  · rw [exec_9]; exact bltu_any h 9 imm d a b hd ha hb i1 i2
  · rw [exec_10]; exact bgeu_any h 10 imm d a b hd ha hb i1 i2
  · rw [exec_11]; exact lb_any h 11 imm d a b hd ha hb i1 i2
  · rw [exec_12]; exact lh_any h 12 imm d a b hd ha hb i1 i2
  · rw [exec_13]; exact lw_any h 13 imm d a b hd ha hb i1 i2
  · rw [exec_14]; exact ld_any h 14 imm d a b hd ha hb i1 i2
  · rw [exec_15 (hx := h.mem.bd)]; exact lbu_any h 15 imm d a b hd ha hb i1 i2
  · rw [exec_16 (hx := h.mem.bd)]; exact lhu_any h 16 imm d a b hd ha hb i1 i2
  · rw [exec_17 (hx := h.mem.bd)]; exact lwu_any h 17 imm d a b hd ha hb i1 i2
  · rw [exec_18]; exact sb_any h 18 imm d a b hd ha hb i1 i2
  · rw [exec_19]; exact sh_any h 19 imm d a b hd ha hb i1 i2
  · rw [exec_20]; exact sw_any h 20 imm d a b hd ha hb i1 i2
  · rw [exec_21]; exact sd_any h 21 imm d a b hd ha hb i1 i2
  · rw [exec_63]; exact ecall_any h 63 imm d a b hd ha hb i1 i2
  · rw [exec_make (by show 22 ≤ op; omega) (by show op ≤ 62; omega)]
    simp only
    rw [if_neg (notR g1 g2), show effF op = 115 by unfold effF; simp (disch := omega) only [if_neg, if_pos]]
    exact withImm_any h op imm d a b hd ha hb i1 i2 (by omega) (by omega)
  · rw [exec_make (by show 22 ≤ op; omega) (by show op ≤ 62; omega)]
    simp only
    rw [if_pos (isR g1 g2), show effF op = 116 by unfold effF; simp (disch := omega) only [if_neg, if_pos]]
    exact withReg_any h op imm d a b hd ha hb i1 i2 (by omega) (by omega)
end Go.Proofs.YtnaceogkaiodnaaGreat

namespace Go.Proofs.YtnaceogkaiodnaaGreat
open Go.RowKit
set_option linter.unusedVariables false

theorem getD_mem {l : List Int} {j : Nat} (h : j < l.length) : l.getD j 0 ∈ l := by
  rw [show l.getD j 0 = l[j] by simp [List.getD, List.getElem?_eq_getElem h]]
  exact List.getElem_mem h
theorem place_val {p : Int} (h : 4294967296 ≤ p) (h' : p < 18446744073709551616) : IntKind.u64.wrap ((IntKind.u64.wrap (p - 4294967296)).tdiv 4) = (p - 4294967296) / 4 := by
  have e : IntKind.u64.wrap (p - 4294967296) = p - 4294967296 := by rw [wrap_w64]; unfold w64; omega
  rw [e, Int.tdiv_eq_ediv_of_nonneg (by omega), wrap_w64]
  unfold w64
  omega
theorem place_out {p : Int} {L : Nat} (h : 0 ≤ p) (h' : p < 18446744073709551616) (hl : L ≤ 65536) (ho : p < 4294967296 ∨ (L : Int) ≤ (p - 4294967296) / 4) : (L : Int) ≤ IntKind.u64.wrap ((IntKind.u64.wrap (p - 4294967296)).tdiv 4) := by
  by_cases hp : p < 4294967296
  · have e : IntKind.u64.wrap (p - 4294967296) = p - 4294967296 + 18446744073709551616 := by rw [wrap_w64]; unfold w64; omega
    rw [e, Int.tdiv_eq_ediv_of_nonneg (by omega), wrap_w64]
    unfold w64
    omega
  · rw [place_val (by omega) h']
    rcases ho with ho | ho
    · omega
    · exact ho
section
variable {w w' : World} {xb mb bb c eb : Nat} {V : Value} {code : List Int} {s : MSt}
theorem machEql_self (a : Addr) (w : World) : (binOp .eql 34 (.pointer (some a)) (.pointer (some a))).run Tryz.prog w = .ok (.bool true) w := by
  obtain ⟨j, hj⟩ : ∃ j, Tryz.prog.info? 94 = some j := Option.isSome_iff_exists.1 (by kernel_rfl)
  exact run_eql_ptr_same w a Tryz.underlying34 hj
theorem mvalid_yes (h : Mach w xb mb bb c eb V code s) : Calls Tryz.prog 36 #[.pointer (some ⟨xb, 0, none⟩)] w fun e w' => e = .returned (.bool true) ∧ w = w' := by
  have c0 := h.self
  have he := machEql_self
  clear h
  go_enter Tryz.func36, Tryz.ntmps36
  go_wp2
  go_ret
  exact ⟨rfl, rfl⟩
theorem fetch_odd (h : Mach w xb mb bb c eb V code s) (hp : s.pc % 4 ≠ 0) : Calls Tryz.prog 37 #[.pointer (some ⟨xb, 0, none⟩)] w fun e w' => e = .returned (.tuple #[.pointer none, .int .i64 3]) ∧ w = w' := by
  have c0 := h.pc
  have hb := h.ok.pc
  have b1 := hb.1
  have b2 := hb.2
  clear h hb
  generalize s.pc = p at *
  go_enter Tryz.func37, Tryz.ntmps37
  go_wp2
  go_ret2
  exact ⟨rfl, rfl⟩
set_option maxRecDepth 100000 in
theorem fetch_out (h : Mach w xb mb bb c eb V code s) (hp : s.pc % 4 = 0) (ho : s.pc < 4294967296 ∨ (code.length : Int) ≤ (s.pc - 4294967296) / 4) : Calls Tryz.prog 37 #[.pointer (some ⟨xb, 0, none⟩)] w fun e w' => e = .returned (.tuple #[.pointer none, .int .i64 4]) ∧ w = w' := by
  have c0 := h.pc
  have c1 := h.codec
  have hb := h.ok.pc
  have hl := h.len
  obtain ⟨ad, cap, hV⟩ : ∃ ad cap, V = .slice ad code.length cap := by
    rcases h.iscode with ⟨rfl, a, q, rfl⟩ | ⟨cb, cap, cur, rfl, _⟩
    · exact ⟨a, q, rfl⟩
    · exact ⟨_, _, rfl⟩
  rw [hV] at c1
  have b1 := hb.1
  have b2 := hb.2
  clear h hb hV
  generalize s.pc = p at *
  generalize code.length = L at *
  have hL := place_out b1 b2 hl ho
  have t1 : p.tmod 4 = 0 := by rw [Int.tmod_eq_emod_of_nonneg b1]; exact hp
  have t2 : IntKind.u64.wrap (L : Int) = (L : Int) := by rw [wrap_w64]; unfold w64; omega
  obtain ⟨q, hq⟩ : ∃ q, IntKind.u64.wrap ((IntKind.u64.wrap (p - 4294967296)).tdiv 4) = q := ⟨_, rfl⟩
  rw [hq] at hL
  clear b2 ho hp b1
  go_enter Tryz.func37, Tryz.ntmps37
  go_wp2
  go_ret2
  exact ⟨rfl, rfl⟩
/-- The word at a place, with what it is decoded as beside it. -/
structure SpotAt (w : World) (cb j : Nat) (y : RvV) : Prop where
  c1 : w.cell? ⟨cb, j * 7 + 1, none⟩ = some (.int .i64 y.op)
  c2 : w.cell? ⟨cb, j * 7 + 2, none⟩ = some (.int .i64 y.rd)
  c3 : w.cell? ⟨cb, j * 7 + 3, none⟩ = some (.int .i64 y.rs1)
  c4 : w.cell? ⟨cb, j * 7 + 4, none⟩ = some (.int .i64 y.rs2)
  c5 : w.cell? ⟨cb, j * 7 + 5, none⟩ = some (.int .i64 y.imm)
  c6 : w.cell? ⟨cb, j * 7 + 6, none⟩ = some (.func (.func (effF y.op)) #[] #[])
theorem IsCode.block {cb cap : Nat} (h : IsCode w (.slice (some ⟨cb, 0, none⟩) code.length cap) code) (hne : code ≠ []) : ∃ cur, w.heap[cb]? = some (.cells cur 80 (0, 0)) ∧ Spots cur code := by
  rcases h with h | ⟨cb', cap', cur, e, h1, h2⟩
  · exact absurd h.1 hne
  · injection e with e _ _
    injection e with e
    injection e with e _ _
    subst e
    exact ⟨cur, h1, h2⟩
def FetchDone (xb mb bb c eb cb cap j : Nat) (code : List Int) (s : MSt) (y : RvV) (w : World) (e : Ending) (w' : World) : Prop :=
  e = .returned (.tuple #[.pointer (some ⟨cb, j * 7, none⟩), .int .i64 0]) ∧ Mach w' xb mb bb c eb (.slice (some ⟨cb, 0, none⟩) code.length cap) code s ∧ But (OneBlock cb) w w' ∧ SpotAt w' cb j y
theorem funcNeq (n : Nat) (w : World) : (binOp .neq 78 (.func (.func n) #[] #[]) .nilFunc).run Tryz.prog w = .ok (.bool true) w := by
  kernel_rfl
theorem nilNeq (w : World) : (binOp .neq 78 .nilFunc .nilFunc).run Tryz.prog w = .ok (.bool false) w := by
  kernel_rfl
set_option maxRecDepth 100000 in
theorem fetch_old {cb cap j : Nat} {y : RvV} (h : Mach w xb mb bb c eb (.slice (some ⟨cb, 0, none⟩) code.length cap) code s) (hj : j < code.length) (hp : s.pc = 4294967296 + 4 * (j : Int)) (hs : SpotAt w cb j y) :
    Calls Tryz.prog 37 #[.pointer (some ⟨xb, 0, none⟩)] w (FetchDone xb mb bb c eb cb cap j code s y w) := by
  have c0 := h.pc
  have c1 := h.codec
  have hl := h.len
  have HM := Lib.hid h
  have HS := Lib.hid hs
  have c6 := hs.c6
  have hq : IntKind.u64.wrap ((IntKind.u64.wrap (s.pc - 4294967296)).tdiv 4) = (j : Int) := by
    rw [place_val (by omega) (by omega)]; omega
  have t1 : s.pc.tmod 4 = 0 := by rw [Int.tmod_eq_emod_of_nonneg (by omega)]; omega
  have t2 : IntKind.u64.wrap (code.length : Int) = (code.length : Int) := by rw [wrap_w64]; unfold w64; omega
  have t3 : ¬ (code.length : Int) ≤ (j : Int) := by omega
  have t4 : (j : Int) < (code.length : Int) := by omega
  have hf := funcNeq (effF y.op)
  generalize effF y.op = K at c6 hf
  generalize s.pc = p at c0 hq t1
  obtain ⟨L, hL⟩ : ∃ L, L = code.length := ⟨_, rfl⟩
  rw [← hL] at c1 hl t2 t3 t4
  clear h hs hp hj hL
  go_enter Tryz.func37, Tryz.ntmps37
  go_wp2
  go_ret2
  exact ⟨rfl, HM.out, But.refl _ _, HS.out⟩
theorem spot_read {cur : Array Value} (h : Spots cur code) {j : Nat} (hj : j < code.length) {y : RvV} :
    ((((((cur.setIfInBounds (j * 7 + 1) (.int .i64 y.op)).setIfInBounds (j * 7 + 2) (.int .i64 y.rd)).setIfInBounds (j * 7 + 3) (.int .i64 y.rs1)).setIfInBounds (j * 7 + 4) (.int .i64 y.rs2)).setIfInBounds (j * 7 + 5) (.int .i64 y.imm)).setIfInBounds (j * 7 + 6) (.func (.func (effF y.op)) #[] #[]))[j * 7 + 1]? = some (.int .i64 y.op) ∧ ((((((cur.setIfInBounds (j * 7 + 1) (.int .i64 y.op)).setIfInBounds (j * 7 + 2) (.int .i64 y.rd)).setIfInBounds (j * 7 + 3) (.int .i64 y.rs1)).setIfInBounds (j * 7 + 4) (.int .i64 y.rs2)).setIfInBounds (j * 7 + 5) (.int .i64 y.imm)).setIfInBounds (j * 7 + 6) (.func (.func (effF y.op)) #[] #[]))[j * 7 + 2]? = some (.int .i64 y.rd) ∧ ((((((cur.setIfInBounds (j * 7 + 1) (.int .i64 y.op)).setIfInBounds (j * 7 + 2) (.int .i64 y.rd)).setIfInBounds (j * 7 + 3) (.int .i64 y.rs1)).setIfInBounds (j * 7 + 4) (.int .i64 y.rs2)).setIfInBounds (j * 7 + 5) (.int .i64 y.imm)).setIfInBounds (j * 7 + 6) (.func (.func (effF y.op)) #[] #[]))[j * 7 + 3]? = some (.int .i64 y.rs1) ∧ ((((((cur.setIfInBounds (j * 7 + 1) (.int .i64 y.op)).setIfInBounds (j * 7 + 2) (.int .i64 y.rd)).setIfInBounds (j * 7 + 3) (.int .i64 y.rs1)).setIfInBounds (j * 7 + 4) (.int .i64 y.rs2)).setIfInBounds (j * 7 + 5) (.int .i64 y.imm)).setIfInBounds (j * 7 + 6) (.func (.func (effF y.op)) #[] #[]))[j * 7 + 4]? = some (.int .i64 y.rs2) ∧ ((((((cur.setIfInBounds (j * 7 + 1) (.int .i64 y.op)).setIfInBounds (j * 7 + 2) (.int .i64 y.rd)).setIfInBounds (j * 7 + 3) (.int .i64 y.rs1)).setIfInBounds (j * 7 + 4) (.int .i64 y.rs2)).setIfInBounds (j * 7 + 5) (.int .i64 y.imm)).setIfInBounds (j * 7 + 6) (.func (.func (effF y.op)) #[] #[]))[j * 7 + 5]? = some (.int .i64 y.imm) ∧ ((((((cur.setIfInBounds (j * 7 + 1) (.int .i64 y.op)).setIfInBounds (j * 7 + 2) (.int .i64 y.rd)).setIfInBounds (j * 7 + 3) (.int .i64 y.rs1)).setIfInBounds (j * 7 + 4) (.int .i64 y.rs2)).setIfInBounds (j * 7 + 5) (.int .i64 y.imm)).setIfInBounds (j * 7 + 6) (.func (.func (effF y.op)) #[] #[]))[j * 7 + 6]? = some (.func (.func (effF y.op)) #[] #[]) := by
  have hs := h.size
  refine ⟨?_, ?_, ?_, ?_, ?_, ?_⟩
  · rw [Array.getElem?_setIfInBounds_ne (by omega), Array.getElem?_setIfInBounds_ne (by omega), Array.getElem?_setIfInBounds_ne (by omega), Array.getElem?_setIfInBounds_ne (by omega), Array.getElem?_setIfInBounds_ne (by omega), Array.getElem?_setIfInBounds_self_of_lt (by first | omega | (simp; omega))]
  · rw [Array.getElem?_setIfInBounds_ne (by omega), Array.getElem?_setIfInBounds_ne (by omega), Array.getElem?_setIfInBounds_ne (by omega), Array.getElem?_setIfInBounds_ne (by omega), Array.getElem?_setIfInBounds_self_of_lt (by first | omega | (simp; omega))]
  · rw [Array.getElem?_setIfInBounds_ne (by omega), Array.getElem?_setIfInBounds_ne (by omega), Array.getElem?_setIfInBounds_ne (by omega), Array.getElem?_setIfInBounds_self_of_lt (by first | omega | (simp; omega))]
  · rw [Array.getElem?_setIfInBounds_ne (by omega), Array.getElem?_setIfInBounds_ne (by omega), Array.getElem?_setIfInBounds_self_of_lt (by first | omega | (simp; omega))]
  · rw [Array.getElem?_setIfInBounds_ne (by omega), Array.getElem?_setIfInBounds_self_of_lt (by first | omega | (simp; omega))]
  · rw [Array.getElem?_setIfInBounds_self_of_lt (by first | omega | (simp; omega))]
/-- What is decoded is laid beside the word. -/
theorem Spots.put {cur : Array Value} (h : Spots cur code) {j : Nat} (hj : j < code.length) {y : RvV} (hy : IsWord y (code.getD j 0)) :
    Spots ((((((cur.setIfInBounds (j * 7 + 1) (.int .i64 y.op)).setIfInBounds (j * 7 + 2) (.int .i64 y.rd)).setIfInBounds (j * 7 + 3) (.int .i64 y.rs1)).setIfInBounds (j * 7 + 4) (.int .i64 y.rs2)).setIfInBounds (j * 7 + 5) (.int .i64 y.imm)).setIfInBounds (j * 7 + 6) (.func (.func (effF y.op)) #[] #[])) code := by
  have hs := h.size
  have hother : ∀ k : Nat, (∀ q, 1 ≤ q → q ≤ 6 → k ≠ j * 7 + q) → ((((((cur.setIfInBounds (j * 7 + 1) (.int .i64 y.op)).setIfInBounds (j * 7 + 2) (.int .i64 y.rd)).setIfInBounds (j * 7 + 3) (.int .i64 y.rs1)).setIfInBounds (j * 7 + 4) (.int .i64 y.rs2)).setIfInBounds (j * 7 + 5) (.int .i64 y.imm)).setIfInBounds (j * 7 + 6) (.func (.func (effF y.op)) #[] #[]))[k]? = cur[k]? := fun k hk => by
    have h1 := hk 1 (by omega) (by omega)
    have h2 := hk 2 (by omega) (by omega)
    have h3 := hk 3 (by omega) (by omega)
    have h4 := hk 4 (by omega) (by omega)
    have h5 := hk 5 (by omega) (by omega)
    have h6 := hk 6 (by omega) (by omega)
    rw [Array.getElem?_setIfInBounds_ne (by omega), Array.getElem?_setIfInBounds_ne (by omega), Array.getElem?_setIfInBounds_ne (by omega), Array.getElem?_setIfInBounds_ne (by omega), Array.getElem?_setIfInBounds_ne (by omega), Array.getElem?_setIfInBounds_ne (by omega)]
  refine ⟨by simpa using hs, fun k hk => (hother (k * 7) (by intro q h1 h2; omega)).trans (h.word k hk), fun k hk => ?_⟩
  by_cases hkj : k = j
  · subst hkj
    exact .inr ⟨y, hy, spot_read h hj⟩
  · have e : ∀ q : Nat, q ≤ 6 → ∀ r : Nat, 1 ≤ r → r ≤ 6 → k * 7 + q ≠ j * 7 + r := fun q hq r h1 h2 => by omega
    rcases h.rest k hk with h0 | ⟨z, hz, z1, z2, z3, z4, z5, z6⟩
    · exact .inl ((hother _ (e 6 (by omega))).trans h0)
    · exact .inr ⟨z, hz, (hother _ (e 1 (by omega))).trans z1, (hother _ (e 2 (by omega))).trans z2, (hother _ (e 3 (by omega))).trans z3, (hother _ (e 4 (by omega))).trans z4, (hother _ (e 5 (by omega))).trans z5, (hother _ (e 6 (by omega))).trans z6⟩
/-- Its code's block has turned. -/
theorem Mach.setCode {cb cap : Nat} {cur : Array Value} (h : Mach w xb mb bb c eb (.slice (some ⟨cb, 0, none⟩) code.length cap) code s) (hne : code ≠ []) (hb : But (OneBlock cb) w w') (hk : w'.heap[cb]? = some (.cells cur 80 (0, 0))) (hs : Spots cur code) :
    Mach w' xb mb bb c eb (.slice (some ⟨cb, 0, none⟩) code.length cap) code s := by
  have ha := h.code_apart hne (k := cb) ⟨0, _, _, rfl⟩
  obtain ⟨cu, q1, q2⟩ := h.head
  exact ⟨⟨cu, hb.heap q1 (oneBlock_not ha.1.symm), q2⟩, .inr ⟨cb, cap, cur, rfl, hk, hs⟩, h.mem.but hb (oneBlock_not ha.2.1.symm) (oneBlock_not ha.2.2.1.symm), h.eff.heap fun hl => hb.block _ hl (oneBlock_not ha.2.2.2.symm), h.ok, h.words, h.len⟩
set_option maxRecDepth 100000 in
set_option maxHeartbeats 2000000 in
theorem fetch_ill {cb cap j : Nat} (h : Mach w xb mb bb c eb (.slice (some ⟨cb, 0, none⟩) code.length cap) code s) (hj : j < code.length) (hp : s.pc = 4294967296 + 4 * (j : Int)) (hn : ∀ y, ¬ IsWord y (code.getD j 0)) :
    Calls Tryz.prog 37 #[.pointer (some ⟨xb, 0, none⟩)] w fun e w' => e = .returned (.tuple #[.pointer none, .int .i64 2]) ∧ Below w.heap.size w w' := by
  have c0 := h.pc
  have c1 := h.codec
  have hl := h.len
  obtain ⟨cur, hb, hsp⟩ := h.iscode.block (by intro e; rw [e] at hj; simp at hj)
  have c6 : w.cell? ⟨cb, j * 7 + 6, none⟩ = some .nilFunc := by
    rw [cell_of_row w cb (j * 7 + 6) _ _ _ hb]
    rcases hsp.rest j hj with h0 | ⟨z, hz, _⟩
    · exact h0
    · exact absurd hz (hn z)
  have cw : w.cell? ⟨cb, j * 7, none⟩ = some (.int .u32 (code.getD j 0)) := by
    rw [cell_of_row w cb (j * 7) _ _ _ hb]
    exact hsp.word j hj
  have hwb := h.words (code.getD j 0) (getD_mem hj)
  have hd := fun u => dec_no hwb.1 hwb.2 hn u
  generalize code.getD j 0 = x at cw hd
  have HD := Lib.hid hd
  have hq : IntKind.u64.wrap ((IntKind.u64.wrap (s.pc - 4294967296)).tdiv 4) = (j : Int) := by
    rw [place_val (by omega) (by omega)]; omega
  have t1 : s.pc.tmod 4 = 0 := by rw [Int.tmod_eq_emod_of_nonneg (by omega)]; omega
  have t2 : IntKind.u64.wrap (code.length : Int) = (code.length : Int) := by rw [wrap_w64]; unfold w64; omega
  have t3 : ¬ (code.length : Int) ≤ (j : Int) := by omega
  have t4 : (j : Int) < (code.length : Int) := by omega
  have hf := nilNeq
  generalize s.pc = p at c0 hq t1
  generalize code.length = L at c1 hl t2 t3 t4
  clear h hsp hb hp hj hwb hn hd
  go_enter Tryz.func37, Tryz.ntmps37
  go_wp2_with (go_at_call 63; (with_reducible refine (HD.out _).mono ?_); rintro e w1 ⟨rfl, hb1⟩; have B1 := Lib.hid hb1; clear hb1)
  go_ret2
  exact ⟨rfl, B1.out.alloc B1.out.size _⟩
set_option maxRecDepth 100000 in
set_option maxHeartbeats 4000000 in
theorem fetch_new {cb cap j : Nat} {y : RvV} (h : Mach w xb mb bb c eb (.slice (some ⟨cb, 0, none⟩) code.length cap) code s) (hj : j < code.length) (hp : s.pc = 4294967296 + 4 * (j : Int)) (hy : IsWord y (code.getD j 0)) (c6 : w.cell? ⟨cb, j * 7 + 6, none⟩ = some .nilFunc) :
    Calls Tryz.prog 37 #[.pointer (some ⟨xb, 0, none⟩)] w (FetchDone xb mb bb c eb cb cap j code s y w) := by
  have c0 := h.pc
  have c1 := h.codec
  have hl := h.len
  have hne : code ≠ [] := by intro e; rw [e] at hj; simp at hj
  obtain ⟨cur, hb, hsp⟩ := h.iscode.block hne
  have hlt := heap_lt hb
  have cw : w.cell? ⟨cb, j * 7, none⟩ = some (.int .u32 (code.getD j 0)) := by
    rw [cell_of_row w cb (j * 7) _ _ _ hb]
    exact hsp.word j hj
  have hd := fun u => dec_yes hy u
  have HY := Lib.hid hy
  have hop := isWord_at hy
  have o1 := hop.1
  have o2 := hop.2.1
  clear hop
  generalize code.getD j 0 = x at cw hd
  have HD := Lib.hid hd
  have hq : IntKind.u64.wrap ((IntKind.u64.wrap (s.pc - 4294967296)).tdiv 4) = (j : Int) := by
    rw [place_val (by omega) (by omega)]; omega
  have t1 : s.pc.tmod 4 = 0 := by rw [Int.tmod_eq_emod_of_nonneg (by omega)]; omega
  have t2 : IntKind.u64.wrap (code.length : Int) = (code.length : Int) := by rw [wrap_w64]; unfold w64; omega
  have t3 : ¬ (code.length : Int) ≤ (j : Int) := by omega
  have t4 : (j : Int) < (code.length : Int) := by omega
  have hf := nilNeq
  have HM := Lib.hid h
  have HB := Lib.hid hb
  have HSP := Lib.hid hsp
  have HJ := Lib.hid hj
  have HNE := Lib.hid hne
  have HLT := Lib.hid hlt
  obtain ⟨lt1, lt2, lt3, lt4⟩ := h.lt
  generalize s.pc = p at c0 hq t1
  obtain ⟨L, hL⟩ : ∃ L, L = code.length := ⟨_, rfl⟩
  rw [← hL] at c1 hl t2 t3 t4
  clear h hsp hb hp hj hy hd hne hL
  go_enter Tryz.func37, Tryz.ntmps37
  go_wp2_with (go_at_call 63; (with_reducible refine (HD.out _).mono ?_); rintro e w1 ⟨rfl, hb1⟩; have B1 := Lib.hid hb1; have M1 := Lib.hid (HM.out.below hb1); have l1 := hb1.size; have HB1 := Lib.hid ((hb1.block cb HLT.out).trans HB.out); clear hb1)
  obtain ⟨op, rd, rs1, rs2, imm⟩ := y
  simp only at *
  have k0 := new_cell w1 #[.int .i64 op, .int .i64 rd, .int .i64 rs1, .int .i64 rs2, .int .i64 imm] 76 w1.heap.size 0 _ rfl rfl
  have k1 := new_cell w1 #[.int .i64 op, .int .i64 rd, .int .i64 rs1, .int .i64 rs2, .int .i64 imm] 76 w1.heap.size 1 _ rfl rfl
  have k2 := new_cell w1 #[.int .i64 op, .int .i64 rd, .int .i64 rs1, .int .i64 rs2, .int .i64 imm] 76 w1.heap.size 2 _ rfl rfl
  have k3 := new_cell w1 #[.int .i64 op, .int .i64 rd, .int .i64 rs1, .int .i64 rs2, .int .i64 imm] 76 w1.heap.size 3 _ rfl rfl
  have k4 := new_cell w1 #[.int .i64 op, .int .i64 rd, .int .i64 rs1, .int .i64 rs2, .int .i64 imm] 76 w1.heap.size 4 _ rfl rfl
  have M2 := Lib.hid (M1.out.alloc (.cells #[.int .i64 op, .int .i64 rd, .int .i64 rs1, .int .i64 rs2, .int .i64 imm] 76))
  have B2 := Lib.hid (B1.out.alloc B1.out.size (.cells #[.int .i64 op, .int .i64 rd, .int .i64 rs1, .int .i64 rs2, .int .i64 imm] 76))
  have HB2 := Lib.hid ((heap_alloc_old w1 (.cells #[.int .i64 op, .int .i64 rd, .int .i64 rs1, .int .i64 rs2, .int .i64 imm] 76) (heap_lt HB1.out)).trans HB1.out)
  clear M1 B1 HB1
  generalize w1.alloc (.cells #[.int .i64 op, .int .i64 rd, .int .i64 rs1, .int .i64 rs2, .int .i64 imm] 76) = W at *
  have ce := M2.out.effc
  have hlk := M2.out.eff.look o1 o2
  have hlkd := (show EffAt W.drew eb from M2.out.eff).look o1 o2
  have hsz := HSP.out.size
  have hjj := HJ.out
  obtain ⟨u1, r1⟩ : ∃ u, W.cell? ⟨cb, j * 7 + 1, none⟩ = some u := ⟨_, (cell_of_row W cb _ _ _ _ HB2.out).trans (Array.getElem?_eq_getElem (by omega))⟩
  obtain ⟨u2, r2⟩ : ∃ u, W.cell? ⟨cb, j * 7 + 2, none⟩ = some u := ⟨_, (cell_of_row W cb _ _ _ _ HB2.out).trans (Array.getElem?_eq_getElem (by omega))⟩
  obtain ⟨u3, r3⟩ : ∃ u, W.cell? ⟨cb, j * 7 + 3, none⟩ = some u := ⟨_, (cell_of_row W cb _ _ _ _ HB2.out).trans (Array.getElem?_eq_getElem (by omega))⟩
  obtain ⟨u4, r4⟩ : ∃ u, W.cell? ⟨cb, j * 7 + 4, none⟩ = some u := ⟨_, (cell_of_row W cb _ _ _ _ HB2.out).trans (Array.getElem?_eq_getElem (by omega))⟩
  obtain ⟨u5, r5⟩ : ∃ u, W.cell? ⟨cb, j * 7 + 5, none⟩ = some u := ⟨_, (cell_of_row W cb _ _ _ _ HB2.out).trans (Array.getElem?_eq_getElem (by omega))⟩
  obtain ⟨u6, r6⟩ : ∃ u, W.cell? ⟨cb, j * 7 + 6, none⟩ = some u := ⟨_, (cell_of_row W cb _ _ _ _ HB2.out).trans (Array.getElem?_eq_getElem (by omega))⟩
  have f1 := frozen_of_row W cb (j * 7 + 1) _ _ HB2.out
  have f2 := frozen_of_row W cb (j * 7 + 2) _ _ HB2.out
  have f3 := frozen_of_row W cb (j * 7 + 3) _ _ HB2.out
  have f4 := frozen_of_row W cb (j * 7 + 4) _ _ HB2.out
  have f5 := frozen_of_row W cb (j * 7 + 5) _ _ HB2.out
  have f6 := frozen_of_row W cb (j * 7 + 6) _ _ HB2.out
  have HE := Lib.hid (rfl : effF op = effF op)
  obtain ⟨K, hK⟩ : ∃ K, K = effF op := ⟨_, rfl⟩
  rw [← hK] at hlk hlkd
  clear c6 cw c0 c1 hsz hjj
  go_region
  all_goals
    go_wp2
    go_ret2
    have hbut : But (OneBlock cb) W ((((((W.setCell ⟨cb, j * 7 + 1, none⟩ (.int .i64 op)).setCell ⟨cb, j * 7 + 1 + 1, none⟩ (.int .i64 rd)).setCell ⟨cb, j * 7 + 1 + 2, none⟩ (.int .i64 rs1)).setCell ⟨cb, j * 7 + 1 + 3, none⟩ (.int .i64 rs2)).setCell ⟨cb, j * 7 + 1 + 4, none⟩ (.int .i64 imm)).setCell ⟨cb, j * 7 + 6, none⟩ (.func (.func (effF op)) #[] #[])) := (((((((But.refl (OneBlock cb) W).setCell (p := ⟨cb, j * 7 + 1, none⟩) (.inl rfl) (.int .i64 op)).setCell (p := ⟨cb, j * 7 + 1 + 1, none⟩) (.inl rfl) (.int .i64 rd)).setCell (p := ⟨cb, j * 7 + 1 + 2, none⟩) (.inl rfl) (.int .i64 rs1)).setCell (p := ⟨cb, j * 7 + 1 + 3, none⟩) (.inl rfl) (.int .i64 rs2)).setCell (p := ⟨cb, j * 7 + 1 + 4, none⟩) (.inl rfl) (.int .i64 imm)).setCell (p := ⟨cb, j * 7 + 6, none⟩) (.inl rfl) (.func (.func (effF op)) #[] #[]))
    have hblk : ((((((W.setCell ⟨cb, j * 7 + 1, none⟩ (.int .i64 op)).setCell ⟨cb, j * 7 + 1 + 1, none⟩ (.int .i64 rd)).setCell ⟨cb, j * 7 + 1 + 2, none⟩ (.int .i64 rs1)).setCell ⟨cb, j * 7 + 1 + 3, none⟩ (.int .i64 rs2)).setCell ⟨cb, j * 7 + 1 + 4, none⟩ (.int .i64 imm)).setCell ⟨cb, j * 7 + 6, none⟩ (.func (.func (effF op)) #[] #[])).heap[cb]? = some (.cells ((((((cur.setIfInBounds (j * 7 + 1) (.int .i64 op)).setIfInBounds (j * 7 + 2) (.int .i64 rd)).setIfInBounds (j * 7 + 3) (.int .i64 rs1)).setIfInBounds (j * 7 + 4) (.int .i64 rs2)).setIfInBounds (j * 7 + 5) (.int .i64 imm)).setIfInBounds (j * 7 + 6) (.func (.func (effF op)) #[] #[])) 80 (0, 0)) := (heap_setCell_same _ cb (j * 7 + 6) _ _ (.func (.func (effF op)) #[] #[]) (heap_setCell_same _ cb (j * 7 + 1 + 4) _ _ (.int .i64 imm) (heap_setCell_same _ cb (j * 7 + 1 + 3) _ _ (.int .i64 rs2) (heap_setCell_same _ cb (j * 7 + 1 + 2) _ _ (.int .i64 rs1) (heap_setCell_same _ cb (j * 7 + 1 + 1) _ _ (.int .i64 rd) (heap_setCell_same _ cb (j * 7 + 1) _ _ (.int .i64 op) HB2.out))))))
    generalize ((((((W.setCell ⟨cb, j * 7 + 1, none⟩ (.int .i64 op)).setCell ⟨cb, j * 7 + 1 + 1, none⟩ (.int .i64 rd)).setCell ⟨cb, j * 7 + 1 + 2, none⟩ (.int .i64 rs1)).setCell ⟨cb, j * 7 + 1 + 3, none⟩ (.int .i64 rs2)).setCell ⟨cb, j * 7 + 1 + 4, none⟩ (.int .i64 imm)).setCell ⟨cb, j * 7 + 6, none⟩ (.func (.func (effF op)) #[] #[])) = F at hbut hblk ⊢
    have hsp := HSP.out.put HJ.out HY.out
    have hm := M2.out.setCode HNE.out hbut hblk hsp
    refine ⟨rfl, hm.drewN 1, ((But.of_below (R := OneBlock cb) B2.out).trans hbut).drewN 1, ?_⟩
    have hj0 := HJ.out
    have hrow := spot_read HSP.out HJ.out (y := ⟨op, rd, rs1, rs2, imm⟩)
    obtain ⟨s1, s2, s3, s4, s5, s6⟩ := hrow
    exact ⟨(cell_of_row F cb _ _ _ _ hblk).trans s1, (cell_of_row F cb _ _ _ _ hblk).trans s2, (cell_of_row F cb _ _ _ _ hblk).trans s3, (cell_of_row F cb _ _ _ _ hblk).trans s4, (cell_of_row F cb _ _ _ _ hblk).trans s5, (cell_of_row F cb _ _ _ _ hblk).trans s6⟩
end
end Go.Proofs.YtnaceogkaiodnaaGreat

namespace Go.Proofs.YtnaceogkaiodnaaGreat
open Go.RowKit
set_option linter.unusedVariables false

section
variable {w w' : World} {xb mb bb c eb : Nat} {V : Value} {code : List Int} {s : MSt}
/-- What a step leaves. -/
def StepDone (xb mb bb c eb : Nat) (V : Value) (code : List Int) (w : World) (r : Int × MSt) (e : Ending) (w' : World) : Prop :=
  e = .returned (.int .i64 r.1) ∧ Mach w' xb mb bb c eb V code r.2 ∧ But (fun k => k = xb ∨ k = bb ∨ CodeIn V k) w w'
theorem step_none (h : Mach w xb mb bb c eb V code s) {E : Int} (hE : E ≠ 0) (hf : ∀ u, Mach u xb mb bb c eb V code s → Calls Tryz.prog 37 #[.pointer (some ⟨xb, 0, none⟩)] u fun e w' => e = .returned (.tuple #[.pointer none, .int .i64 E]) ∧ Below u.heap.size u w') :
    Calls Tryz.prog 13 #[.pointer (some ⟨xb, 0, none⟩)] w (StepDone xb mb bb c eb V code w (E, s)) := by
  have HV := Lib.hid (mvalid_yes h)
  have HM := Lib.hid h
  have HF := Lib.hid (hf w h)
  have e1 : (E != 0) = true := by simpa using hE
  have e2 : (E == 0) = false := by simpa using hE
  clear h hf hE
  go_enter Tryz.func13, Tryz.ntmps13
  go_wp2_with (first
    | (go_at_call 36; (with_reducible refine HV.out.mono ?_); rintro e w' ⟨rfl, rfl⟩)
    | (go_at_call 37; (with_reducible refine HF.out.mono ?_); rintro e w1 ⟨rfl, hb⟩; have M1 := Lib.hid (HM.out.below hb); have B1 := Lib.hid hb; clear hb))
  go_ret
  exact ⟨rfl, M1.out, But.of_below B1.out⟩
end
end Go.Proofs.YtnaceogkaiodnaaGreat

