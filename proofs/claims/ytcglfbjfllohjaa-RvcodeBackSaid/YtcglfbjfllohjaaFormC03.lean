/- Which numbers an instruction may have, which word it is, and which words a row's masks tell: the program's own way against the mathematics of instructions, form by form. No condition but the bounds that each names. -/
import Derived.Test.YtcglfbjfllohjaaFormB03
namespace Go.Proofs.Ytcglfbjfllohjaa
open Go.RowKit
set_option linter.unusedVariables false
set_option linter.unusedSimpArgs false
/-- What join comes to. -/
def jV (f : RvForm) (rd rs1 rs2 imm : Int) : Int := immV f imm + (if f.hasRd = true then rd % 32 * 128 else 0) + (if f.has1 = true then rs1 % 32 * 32768 else 0) + (if f.has2 = true then rs2 % 32 * 1048576 else 0)

theorem joinE_R (rd rs1 rs2 imm : Int) : joinV (fdsV 82) (num4 rd rs1 rs2 imm) = bits .or .u32 (bits .or .u32 (bits .or .u32 (0) (rd % 32 * 128)) (rs1 % 32 * 32768)) (rs2 % 32 * 1048576) := by
  simp [joinV, fds_R, num4, Fd.put]
theorem joinS_R (rd rs1 rs2 imm : Int) : joinV (fdsV 82) (num4 rd rs1 rs2 imm) = jV .R rd rs1 rs2 imm := by
  rw [joinE_R]
  rw [join_R (rd % 32) (rs1 % 32) (rs2 % 32) ⟨by omega, by omega⟩ ⟨by omega, by omega⟩ ⟨by omega, by omega⟩]
  simp only [jV, immV, RvForm.hasRd, RvForm.has1, RvForm.has2, if_true, Bool.false_eq_true, if_false]
  omega
theorem ownS_R (rd rs1 rs2 imm a b c : Int) (ha : 0 ≤ a ∧ a < 128) (hb : 0 ≤ b ∧ b < (RvForm.R.bLim : Int)) (hc : 0 ≤ c ∧ c < (RvForm.R.cLim : Int)) : bits .or .u32 (ownV .R a b c) (joinV (fdsV 82) (num4 rd rs1 rs2 imm)) = a + jV .R rd rs1 rs2 imm + b * 4096 + c * RvForm.R.cAt := by
  simp only [RvForm.bLim, RvForm.cLim] at hb hc
  rw [joinE_R]
  show bits .or .u32 (bits .or .u32 (bits .or .u32 a (b * 4096)) (c * 33554432 % 4294967296)) _ = _
  rw [show c * 33554432 % 4294967296 = c * 33554432 by omega]
  rw [own_join_R a b c (rd % 32) (rs1 % 32) (rs2 % 32) ⟨by omega, by omega⟩ ⟨by omega, by omega⟩ ⟨by omega, by omega⟩ ⟨by omega, by omega⟩ ⟨by omega, by omega⟩ ⟨by omega, by omega⟩]
  simp only [jV, immV, RvForm.hasRd, RvForm.has1, RvForm.has2, RvForm.cAt, if_true, Bool.false_eq_true, if_false]
  omega
theorem reads_ok_R (x : Int) : regOk (readsR .R 0 x).rd RvForm.R.hasRd ∧ regOk (readsR .R 0 x).rs1 RvForm.R.has1 ∧ regOk (readsR .R 0 x).rs2 RvForm.R.has2 ∧ immOk .R (readsR .R 0 x).imm := by
  simp only [readsR, regOk, immOk, toldV, signedV, RvForm.hasRd, RvForm.has1, RvForm.has2, if_true, Bool.false_eq_true, if_false]
  refine ⟨?_, ?_, ?_, ?_⟩ <;> (try trivial) <;> (try omega)
theorem joinE_I (rd rs1 rs2 imm : Int) : joinV (fdsV 73) (num4 rd rs1 rs2 imm) = bits .or .u32 (bits .or .u32 (bits .or .u32 (0) (rd % 32 * 128)) (rs1 % 32 * 32768)) (imm % 4096 * 1048576) := by
  have h0 : imm % 4294967296 * 1048576 % 4294967296 = imm % 4096 * 1048576 := by omega
  rw [← h0]
  simp [joinV, fds_I, num4, Fd.put]
theorem joinS_I (rd rs1 rs2 imm : Int) : joinV (fdsV 73) (num4 rd rs1 rs2 imm) = jV .I rd rs1 rs2 imm := by
  rw [joinE_I]
  rw [join_I (rd % 32) (rs1 % 32) (imm % 4096) ⟨by omega, by omega⟩ ⟨by omega, by omega⟩ ⟨by omega, by omega⟩]
  simp only [jV, immV, RvForm.hasRd, RvForm.has1, RvForm.has2, if_true, Bool.false_eq_true, if_false]
  omega
theorem ownS_I (rd rs1 rs2 imm a b c : Int) (ha : 0 ≤ a ∧ a < 128) (hb : 0 ≤ b ∧ b < (RvForm.I.bLim : Int)) (hc : 0 ≤ c ∧ c < (RvForm.I.cLim : Int)) : bits .or .u32 (ownV .I a b c) (joinV (fdsV 73) (num4 rd rs1 rs2 imm)) = a + jV .I rd rs1 rs2 imm + b * 4096 + c * RvForm.I.cAt := by
  simp only [RvForm.bLim, RvForm.cLim] at hb hc
  rw [joinE_I]
  show bits .or .u32 (bits .or .u32 a (b * 4096)) _ = _
  rw [own_join_I a b (rd % 32) (rs1 % 32) (imm % 4096) ⟨by omega, by omega⟩ ⟨by omega, by omega⟩ ⟨by omega, by omega⟩ ⟨by omega, by omega⟩ ⟨by omega, by omega⟩]
  simp only [jV, immV, RvForm.hasRd, RvForm.has1, RvForm.has2, RvForm.cAt, if_true, Bool.false_eq_true, if_false]
  omega
theorem reads_ok_I (x : Int) : regOk (readsR .I 0 x).rd RvForm.I.hasRd ∧ regOk (readsR .I 0 x).rs1 RvForm.I.has1 ∧ regOk (readsR .I 0 x).rs2 RvForm.I.has2 ∧ immOk .I (readsR .I 0 x).imm := by
  simp only [readsR, regOk, immOk, toldV, signedV, RvForm.hasRd, RvForm.has1, RvForm.has2, if_true, Bool.false_eq_true, if_false]
  refine ⟨?_, ?_, ?_, ?_⟩ <;> (try trivial) <;> (try omega)
theorem joinE_X (rd rs1 rs2 imm : Int) : joinV (fdsV 88) (num4 rd rs1 rs2 imm) = bits .or .u32 (bits .or .u32 (bits .or .u32 (0) (rd % 32 * 128)) (rs1 % 32 * 32768)) (imm % 64 * 1048576) := by
  simp [joinV, fds_X, num4, Fd.put]
theorem joinS_X (rd rs1 rs2 imm : Int) : joinV (fdsV 88) (num4 rd rs1 rs2 imm) = jV .X rd rs1 rs2 imm := by
  rw [joinE_X]
  rw [join_X (rd % 32) (rs1 % 32) (imm % 64) ⟨by omega, by omega⟩ ⟨by omega, by omega⟩ ⟨by omega, by omega⟩]
  simp only [jV, immV, RvForm.hasRd, RvForm.has1, RvForm.has2, if_true, Bool.false_eq_true, if_false]
  omega
theorem ownS_X (rd rs1 rs2 imm a b c : Int) (ha : 0 ≤ a ∧ a < 128) (hb : 0 ≤ b ∧ b < (RvForm.X.bLim : Int)) (hc : 0 ≤ c ∧ c < (RvForm.X.cLim : Int)) : bits .or .u32 (ownV .X a b c) (joinV (fdsV 88) (num4 rd rs1 rs2 imm)) = a + jV .X rd rs1 rs2 imm + b * 4096 + c * RvForm.X.cAt := by
  simp only [RvForm.bLim, RvForm.cLim] at hb hc
  rw [joinE_X]
  show bits .or .u32 (bits .or .u32 (bits .or .u32 a (b * 4096)) (c * 67108864 % 4294967296)) _ = _
  rw [show c * 67108864 % 4294967296 = c * 67108864 by omega]
  rw [own_join_X a b c (rd % 32) (rs1 % 32) (imm % 64) ⟨by omega, by omega⟩ ⟨by omega, by omega⟩ ⟨by omega, by omega⟩ ⟨by omega, by omega⟩ ⟨by omega, by omega⟩ ⟨by omega, by omega⟩]
  simp only [jV, immV, RvForm.hasRd, RvForm.has1, RvForm.has2, RvForm.cAt, if_true, Bool.false_eq_true, if_false]
  omega
theorem reads_ok_X (x : Int) : regOk (readsR .X 0 x).rd RvForm.X.hasRd ∧ regOk (readsR .X 0 x).rs1 RvForm.X.has1 ∧ regOk (readsR .X 0 x).rs2 RvForm.X.has2 ∧ immOk .X (readsR .X 0 x).imm := by
  simp only [readsR, regOk, immOk, toldV, signedV, RvForm.hasRd, RvForm.has1, RvForm.has2, if_true, Bool.false_eq_true, if_false]
  refine ⟨?_, ?_, ?_, ?_⟩ <;> (try trivial) <;> (try omega)
theorem joinE_Y (rd rs1 rs2 imm : Int) : joinV (fdsV 89) (num4 rd rs1 rs2 imm) = bits .or .u32 (bits .or .u32 (bits .or .u32 (0) (rd % 32 * 128)) (rs1 % 32 * 32768)) (imm % 32 * 1048576) := by
  simp [joinV, fds_Y, num4, Fd.put]
theorem joinS_Y (rd rs1 rs2 imm : Int) : joinV (fdsV 89) (num4 rd rs1 rs2 imm) = jV .Y rd rs1 rs2 imm := by
  rw [joinE_Y]
  rw [join_Y (rd % 32) (rs1 % 32) (imm % 32) ⟨by omega, by omega⟩ ⟨by omega, by omega⟩ ⟨by omega, by omega⟩]
  simp only [jV, immV, RvForm.hasRd, RvForm.has1, RvForm.has2, if_true, Bool.false_eq_true, if_false]
  omega
theorem ownS_Y (rd rs1 rs2 imm a b c : Int) (ha : 0 ≤ a ∧ a < 128) (hb : 0 ≤ b ∧ b < (RvForm.Y.bLim : Int)) (hc : 0 ≤ c ∧ c < (RvForm.Y.cLim : Int)) : bits .or .u32 (ownV .Y a b c) (joinV (fdsV 89) (num4 rd rs1 rs2 imm)) = a + jV .Y rd rs1 rs2 imm + b * 4096 + c * RvForm.Y.cAt := by
  simp only [RvForm.bLim, RvForm.cLim] at hb hc
  rw [joinE_Y]
  show bits .or .u32 (bits .or .u32 (bits .or .u32 a (b * 4096)) (c * 33554432 % 4294967296)) _ = _
  rw [show c * 33554432 % 4294967296 = c * 33554432 by omega]
  rw [own_join_Y a b c (rd % 32) (rs1 % 32) (imm % 32) ⟨by omega, by omega⟩ ⟨by omega, by omega⟩ ⟨by omega, by omega⟩ ⟨by omega, by omega⟩ ⟨by omega, by omega⟩ ⟨by omega, by omega⟩]
  simp only [jV, immV, RvForm.hasRd, RvForm.has1, RvForm.has2, RvForm.cAt, if_true, Bool.false_eq_true, if_false]
  omega
theorem reads_ok_Y (x : Int) : regOk (readsR .Y 0 x).rd RvForm.Y.hasRd ∧ regOk (readsR .Y 0 x).rs1 RvForm.Y.has1 ∧ regOk (readsR .Y 0 x).rs2 RvForm.Y.has2 ∧ immOk .Y (readsR .Y 0 x).imm := by
  simp only [readsR, regOk, immOk, toldV, signedV, RvForm.hasRd, RvForm.has1, RvForm.has2, if_true, Bool.false_eq_true, if_false]
  refine ⟨?_, ?_, ?_, ?_⟩ <;> (try trivial) <;> (try omega)
theorem joinE_S (rd rs1 rs2 imm : Int) : joinV (fdsV 83) (num4 rd rs1 rs2 imm) = bits .or .u32 (bits .or .u32 (bits .or .u32 (bits .or .u32 (0) (imm % 32 * 128)) (rs1 % 32 * 32768)) (rs2 % 32 * 1048576)) (imm / 32 % 128 * 33554432) := by
  have h0 : imm / 32 % 4294967296 * 33554432 % 4294967296 = imm / 32 % 128 * 33554432 := by omega
  rw [← h0]
  simp [joinV, fds_S, num4, Fd.put]
theorem joinS_S (rd rs1 rs2 imm : Int) : joinV (fdsV 83) (num4 rd rs1 rs2 imm) = jV .S rd rs1 rs2 imm := by
  rw [joinE_S]
  rw [join_S (imm % 32) (rs1 % 32) (rs2 % 32) (imm / 32 % 128) ⟨by omega, by omega⟩ ⟨by omega, by omega⟩ ⟨by omega, by omega⟩ ⟨by omega, by omega⟩]
  simp only [jV, immV, RvForm.hasRd, RvForm.has1, RvForm.has2, if_true, Bool.false_eq_true, if_false]
  omega
theorem ownS_S (rd rs1 rs2 imm a b c : Int) (ha : 0 ≤ a ∧ a < 128) (hb : 0 ≤ b ∧ b < (RvForm.S.bLim : Int)) (hc : 0 ≤ c ∧ c < (RvForm.S.cLim : Int)) : bits .or .u32 (ownV .S a b c) (joinV (fdsV 83) (num4 rd rs1 rs2 imm)) = a + jV .S rd rs1 rs2 imm + b * 4096 + c * RvForm.S.cAt := by
  simp only [RvForm.bLim, RvForm.cLim] at hb hc
  rw [joinE_S]
  show bits .or .u32 (bits .or .u32 a (b * 4096)) _ = _
  rw [own_join_S a b (imm % 32) (rs1 % 32) (rs2 % 32) (imm / 32 % 128) ⟨by omega, by omega⟩ ⟨by omega, by omega⟩ ⟨by omega, by omega⟩ ⟨by omega, by omega⟩ ⟨by omega, by omega⟩ ⟨by omega, by omega⟩]
  simp only [jV, immV, RvForm.hasRd, RvForm.has1, RvForm.has2, RvForm.cAt, if_true, Bool.false_eq_true, if_false]
  omega
theorem reads_ok_S (x : Int) : regOk (readsR .S 0 x).rd RvForm.S.hasRd ∧ regOk (readsR .S 0 x).rs1 RvForm.S.has1 ∧ regOk (readsR .S 0 x).rs2 RvForm.S.has2 ∧ immOk .S (readsR .S 0 x).imm := by
  simp only [readsR, regOk, immOk, toldV, signedV, RvForm.hasRd, RvForm.has1, RvForm.has2, if_true, Bool.false_eq_true, if_false]
  refine ⟨?_, ?_, ?_, ?_⟩ <;> (try trivial) <;> (try omega)
theorem joinE_B (rd rs1 rs2 imm : Int) : joinV (fdsV 66) (num4 rd rs1 rs2 imm) = bits .or .u32 (bits .or .u32 (bits .or .u32 (bits .or .u32 (bits .or .u32 (bits .or .u32 (0) (imm / 2048 % 2 * 128)) (imm / 2 % 16 * 256)) (rs1 % 32 * 32768)) (rs2 % 32 * 1048576)) (imm / 32 % 64 * 33554432)) (imm / 4096 % 2 * 2147483648) := by
  have h0 : imm / 4096 % 4294967296 * 2147483648 % 4294967296 = imm / 4096 % 2 * 2147483648 := by omega
  rw [← h0]
  simp [joinV, fds_B, num4, Fd.put]
theorem joinS_B (rd rs1 rs2 imm : Int) : joinV (fdsV 66) (num4 rd rs1 rs2 imm) = jV .B rd rs1 rs2 imm := by
  rw [joinE_B]
  rw [join_B (imm / 2048 % 2) (imm / 2 % 16) (rs1 % 32) (rs2 % 32) (imm / 32 % 64) (imm / 4096 % 2) ⟨by omega, by omega⟩ ⟨by omega, by omega⟩ ⟨by omega, by omega⟩ ⟨by omega, by omega⟩ ⟨by omega, by omega⟩ ⟨by omega, by omega⟩]
  simp only [jV, immV, RvForm.hasRd, RvForm.has1, RvForm.has2, if_true, Bool.false_eq_true, if_false]
  omega
theorem ownS_B (rd rs1 rs2 imm a b c : Int) (ha : 0 ≤ a ∧ a < 128) (hb : 0 ≤ b ∧ b < (RvForm.B.bLim : Int)) (hc : 0 ≤ c ∧ c < (RvForm.B.cLim : Int)) : bits .or .u32 (ownV .B a b c) (joinV (fdsV 66) (num4 rd rs1 rs2 imm)) = a + jV .B rd rs1 rs2 imm + b * 4096 + c * RvForm.B.cAt := by
  simp only [RvForm.bLim, RvForm.cLim] at hb hc
  rw [joinE_B]
  show bits .or .u32 (bits .or .u32 a (b * 4096)) _ = _
  rw [own_join_B a b (imm / 2048 % 2) (imm / 2 % 16) (rs1 % 32) (rs2 % 32) (imm / 32 % 64) (imm / 4096 % 2) ⟨by omega, by omega⟩ ⟨by omega, by omega⟩ ⟨by omega, by omega⟩ ⟨by omega, by omega⟩ ⟨by omega, by omega⟩ ⟨by omega, by omega⟩ ⟨by omega, by omega⟩ ⟨by omega, by omega⟩]
  simp only [jV, immV, RvForm.hasRd, RvForm.has1, RvForm.has2, RvForm.cAt, if_true, Bool.false_eq_true, if_false]
  omega
theorem reads_ok_B (x : Int) : regOk (readsR .B 0 x).rd RvForm.B.hasRd ∧ regOk (readsR .B 0 x).rs1 RvForm.B.has1 ∧ regOk (readsR .B 0 x).rs2 RvForm.B.has2 ∧ immOk .B (readsR .B 0 x).imm := by
  simp only [readsR, regOk, immOk, toldV, signedV, RvForm.hasRd, RvForm.has1, RvForm.has2, if_true, Bool.false_eq_true, if_false]
  refine ⟨?_, ?_, ?_, ?_⟩ <;> (try trivial) <;> (try omega)
theorem joinE_U (rd rs1 rs2 imm : Int) : joinV (fdsV 85) (num4 rd rs1 rs2 imm) = bits .or .u32 (bits .or .u32 (0) (rd % 32 * 128)) (imm % 1048576 * 4096) := by
  have h0 : imm % 4294967296 * 4096 % 4294967296 = imm % 1048576 * 4096 := by omega
  rw [← h0]
  simp [joinV, fds_U, num4, Fd.put]
theorem joinS_U (rd rs1 rs2 imm : Int) : joinV (fdsV 85) (num4 rd rs1 rs2 imm) = jV .U rd rs1 rs2 imm := by
  rw [joinE_U]
  rw [join_U (rd % 32) (imm % 1048576) ⟨by omega, by omega⟩ ⟨by omega, by omega⟩]
  simp only [jV, immV, RvForm.hasRd, RvForm.has1, RvForm.has2, if_true, Bool.false_eq_true, if_false]
  omega
theorem ownS_U (rd rs1 rs2 imm a b c : Int) (ha : 0 ≤ a ∧ a < 128) (hb : 0 ≤ b ∧ b < (RvForm.U.bLim : Int)) (hc : 0 ≤ c ∧ c < (RvForm.U.cLim : Int)) : bits .or .u32 (ownV .U a b c) (joinV (fdsV 85) (num4 rd rs1 rs2 imm)) = a + jV .U rd rs1 rs2 imm + b * 4096 + c * RvForm.U.cAt := by
  simp only [RvForm.bLim, RvForm.cLim] at hb hc
  rw [joinE_U]
  show bits .or .u32 (bits .or .u32 a (b * 4096)) _ = _
  rw [own_join_U a b (rd % 32) (imm % 1048576) ⟨by omega, by omega⟩ ⟨by omega, by omega⟩ ⟨by omega, by omega⟩ ⟨by omega, by omega⟩]
  simp only [jV, immV, RvForm.hasRd, RvForm.has1, RvForm.has2, RvForm.cAt, if_true, Bool.false_eq_true, if_false]
  omega
theorem reads_ok_U (x : Int) : regOk (readsR .U 0 x).rd RvForm.U.hasRd ∧ regOk (readsR .U 0 x).rs1 RvForm.U.has1 ∧ regOk (readsR .U 0 x).rs2 RvForm.U.has2 ∧ immOk .U (readsR .U 0 x).imm := by
  simp only [readsR, regOk, immOk, toldV, signedV, RvForm.hasRd, RvForm.has1, RvForm.has2, if_true, Bool.false_eq_true, if_false]
  refine ⟨?_, ?_, ?_, ?_⟩ <;> (try trivial) <;> (try omega)
theorem joinE_J (rd rs1 rs2 imm : Int) : joinV (fdsV 74) (num4 rd rs1 rs2 imm) = bits .or .u32 (bits .or .u32 (bits .or .u32 (bits .or .u32 (bits .or .u32 (0) (rd % 32 * 128)) (imm / 4096 % 256 * 4096)) (imm / 2048 % 2 * 1048576)) (imm / 2 % 1024 * 2097152)) (imm / 1048576 % 2 * 2147483648) := by
  have h0 : imm / 1048576 % 4294967296 * 2147483648 % 4294967296 = imm / 1048576 % 2 * 2147483648 := by omega
  rw [← h0]
  simp [joinV, fds_J, num4, Fd.put]
theorem joinS_J (rd rs1 rs2 imm : Int) : joinV (fdsV 74) (num4 rd rs1 rs2 imm) = jV .J rd rs1 rs2 imm := by
  rw [joinE_J]
  rw [join_J (rd % 32) (imm / 4096 % 256) (imm / 2048 % 2) (imm / 2 % 1024) (imm / 1048576 % 2) ⟨by omega, by omega⟩ ⟨by omega, by omega⟩ ⟨by omega, by omega⟩ ⟨by omega, by omega⟩ ⟨by omega, by omega⟩]
  simp only [jV, immV, RvForm.hasRd, RvForm.has1, RvForm.has2, if_true, Bool.false_eq_true, if_false]
  omega
theorem ownS_J (rd rs1 rs2 imm a b c : Int) (ha : 0 ≤ a ∧ a < 128) (hb : 0 ≤ b ∧ b < (RvForm.J.bLim : Int)) (hc : 0 ≤ c ∧ c < (RvForm.J.cLim : Int)) : bits .or .u32 (ownV .J a b c) (joinV (fdsV 74) (num4 rd rs1 rs2 imm)) = a + jV .J rd rs1 rs2 imm + b * 4096 + c * RvForm.J.cAt := by
  simp only [RvForm.bLim, RvForm.cLim] at hb hc
  rw [joinE_J]
  show bits .or .u32 (bits .or .u32 a (b * 4096)) _ = _
  rw [own_join_J a b (rd % 32) (imm / 4096 % 256) (imm / 2048 % 2) (imm / 2 % 1024) (imm / 1048576 % 2) ⟨by omega, by omega⟩ ⟨by omega, by omega⟩ ⟨by omega, by omega⟩ ⟨by omega, by omega⟩ ⟨by omega, by omega⟩ ⟨by omega, by omega⟩ ⟨by omega, by omega⟩]
  simp only [jV, immV, RvForm.hasRd, RvForm.has1, RvForm.has2, RvForm.cAt, if_true, Bool.false_eq_true, if_false]
  omega
theorem reads_ok_J (x : Int) : regOk (readsR .J 0 x).rd RvForm.J.hasRd ∧ regOk (readsR .J 0 x).rs1 RvForm.J.has1 ∧ regOk (readsR .J 0 x).rs2 RvForm.J.has2 ∧ immOk .J (readsR .J 0 x).imm := by
  simp only [readsR, regOk, immOk, toldV, signedV, RvForm.hasRd, RvForm.has1, RvForm.has2, if_true, Bool.false_eq_true, if_false]
  refine ⟨?_, ?_, ?_, ?_⟩ <;> (try trivial) <;> (try omega)
theorem joinE_E (rd rs1 rs2 imm : Int) : joinV (fdsV 69) (num4 rd rs1 rs2 imm) = 0 := by
  simp [joinV, fds_E, num4, Fd.put]
theorem joinS_E (rd rs1 rs2 imm : Int) : joinV (fdsV 69) (num4 rd rs1 rs2 imm) = jV .E rd rs1 rs2 imm := by
  rw [joinE_E]
  simp only [jV, immV, RvForm.hasRd, RvForm.has1, RvForm.has2, if_true, Bool.false_eq_true, if_false]
  try omega
theorem ownS_E (rd rs1 rs2 imm a b c : Int) (ha : 0 ≤ a ∧ a < 128) (hb : 0 ≤ b ∧ b < (RvForm.E.bLim : Int)) (hc : 0 ≤ c ∧ c < (RvForm.E.cLim : Int)) : bits .or .u32 (ownV .E a b c) (joinV (fdsV 69) (num4 rd rs1 rs2 imm)) = a + jV .E rd rs1 rs2 imm + b * 4096 + c * RvForm.E.cAt := by
  simp only [RvForm.bLim, RvForm.cLim] at hb hc
  rw [joinE_E]
  show bits .or .u32 (bits .or .u32 a (b * 4096)) _ = _
  rw [own_join_E a b  ⟨by omega, by omega⟩ ⟨by omega, by omega⟩ ]
  simp only [jV, immV, RvForm.hasRd, RvForm.has1, RvForm.has2, RvForm.cAt, if_true, Bool.false_eq_true, if_false]
  omega
theorem reads_ok_E (x : Int) : regOk (readsR .E 0 x).rd RvForm.E.hasRd ∧ regOk (readsR .E 0 x).rs1 RvForm.E.has1 ∧ regOk (readsR .E 0 x).rs2 RvForm.E.has2 ∧ immOk .E (readsR .E 0 x).imm := by
  simp only [readsR, regOk, immOk, toldV, signedV, RvForm.hasRd, RvForm.has1, RvForm.has2, if_true, Bool.false_eq_true, if_false]
  refine ⟨?_, ?_, ?_, ?_⟩ <;> (try trivial) <;> (try omega)
theorem chunk_R (x : Int) (hx : 0 ≤ x) (hx' : x < 4294967296) : x = x % 128 + x / 128 % 32 * 128 + x / 4096 % 8 * 4096 + x / 32768 % 32 * 32768 + x / 1048576 % 32 * 1048576 + x / 33554432 % 128 * 33554432 := by
  have q7 : x / 128 = x / 128 := rfl
  have q12 : x / 4096 = x / 128 / 32 := by omega
  have q15 : x / 32768 = x / 4096 / 8 := by omega
  have q20 : x / 1048576 = x / 32768 / 32 := by omega
  have q25 : x / 33554432 = x / 1048576 / 32 := by omega
  have r0 : x = x % 128 + x / 128 * 128 := by omega
  have r7 : x / 128 = x / 128 % 32 + x / 4096 * 32 := by omega
  have r12 : x / 4096 = x / 4096 % 8 + x / 32768 * 8 := by omega
  have r15 : x / 32768 = x / 32768 % 32 + x / 1048576 * 32 := by omega
  have r20 : x / 1048576 = x / 1048576 % 32 + x / 33554432 * 32 := by omega
  have rl : x / 33554432 = x / 33554432 % 128 := by omega
  generalize x / 33554432 = g25 at *
  generalize x / 1048576 = g20 at *
  generalize x / 32768 = g15 at *
  generalize x / 4096 = g12 at *
  generalize x / 128 = g7 at *
  omega
theorem chunk_I (x : Int) (hx : 0 ≤ x) (hx' : x < 4294967296) : x = x % 128 + x / 128 % 32 * 128 + x / 4096 % 8 * 4096 + x / 32768 % 32 * 32768 + x / 1048576 % 4096 * 1048576 := by
  have q7 : x / 128 = x / 128 := rfl
  have q12 : x / 4096 = x / 128 / 32 := by omega
  have q15 : x / 32768 = x / 4096 / 8 := by omega
  have q20 : x / 1048576 = x / 32768 / 32 := by omega
  have r0 : x = x % 128 + x / 128 * 128 := by omega
  have r7 : x / 128 = x / 128 % 32 + x / 4096 * 32 := by omega
  have r12 : x / 4096 = x / 4096 % 8 + x / 32768 * 8 := by omega
  have r15 : x / 32768 = x / 32768 % 32 + x / 1048576 * 32 := by omega
  have rl : x / 1048576 = x / 1048576 % 4096 := by omega
  generalize x / 1048576 = g20 at *
  generalize x / 32768 = g15 at *
  generalize x / 4096 = g12 at *
  generalize x / 128 = g7 at *
  omega
theorem imm_told_I (x : Int) : immV .I (toldV .I x) = x / 1048576 % 4096 * 1048576 := by
  simp only [immV, toldV, signedV]
  have b0 : 0 ≤ x / 1048576 % 4096 ∧ x / 1048576 % 4096 < 4096 := by omega
  generalize x / 1048576 % 4096 = g0 at *
  first | omega | (split <;> omega) | (repeat' apply congrArg₂) <;> (split <;> omega)
theorem chunk_X (x : Int) (hx : 0 ≤ x) (hx' : x < 4294967296) : x = x % 128 + x / 128 % 32 * 128 + x / 4096 % 8 * 4096 + x / 32768 % 32 * 32768 + x / 1048576 % 64 * 1048576 + x / 67108864 % 64 * 67108864 := by
  have q7 : x / 128 = x / 128 := rfl
  have q12 : x / 4096 = x / 128 / 32 := by omega
  have q15 : x / 32768 = x / 4096 / 8 := by omega
  have q20 : x / 1048576 = x / 32768 / 32 := by omega
  have q26 : x / 67108864 = x / 1048576 / 64 := by omega
  have r0 : x = x % 128 + x / 128 * 128 := by omega
  have r7 : x / 128 = x / 128 % 32 + x / 4096 * 32 := by omega
  have r12 : x / 4096 = x / 4096 % 8 + x / 32768 * 8 := by omega
  have r15 : x / 32768 = x / 32768 % 32 + x / 1048576 * 32 := by omega
  have r20 : x / 1048576 = x / 1048576 % 64 + x / 67108864 * 64 := by omega
  have rl : x / 67108864 = x / 67108864 % 64 := by omega
  generalize x / 67108864 = g26 at *
  generalize x / 1048576 = g20 at *
  generalize x / 32768 = g15 at *
  generalize x / 4096 = g12 at *
  generalize x / 128 = g7 at *
  omega
theorem imm_told_X (x : Int) : immV .X (toldV .X x) = x / 1048576 % 64 * 1048576 := by
  simp only [immV, toldV, signedV]
  have b0 : 0 ≤ x / 1048576 % 64 ∧ x / 1048576 % 64 < 64 := by omega
  generalize x / 1048576 % 64 = g0 at *
  first | omega | (split <;> omega) | (repeat' apply congrArg₂) <;> (split <;> omega)
theorem chunk_Y (x : Int) (hx : 0 ≤ x) (hx' : x < 4294967296) : x = x % 128 + x / 128 % 32 * 128 + x / 4096 % 8 * 4096 + x / 32768 % 32 * 32768 + x / 1048576 % 32 * 1048576 + x / 33554432 % 128 * 33554432 := by
  have q7 : x / 128 = x / 128 := rfl
  have q12 : x / 4096 = x / 128 / 32 := by omega
  have q15 : x / 32768 = x / 4096 / 8 := by omega
  have q20 : x / 1048576 = x / 32768 / 32 := by omega
  have q25 : x / 33554432 = x / 1048576 / 32 := by omega
  have r0 : x = x % 128 + x / 128 * 128 := by omega
  have r7 : x / 128 = x / 128 % 32 + x / 4096 * 32 := by omega
  have r12 : x / 4096 = x / 4096 % 8 + x / 32768 * 8 := by omega
  have r15 : x / 32768 = x / 32768 % 32 + x / 1048576 * 32 := by omega
  have r20 : x / 1048576 = x / 1048576 % 32 + x / 33554432 * 32 := by omega
  have rl : x / 33554432 = x / 33554432 % 128 := by omega
  generalize x / 33554432 = g25 at *
  generalize x / 1048576 = g20 at *
  generalize x / 32768 = g15 at *
  generalize x / 4096 = g12 at *
  generalize x / 128 = g7 at *
  omega
theorem imm_told_Y (x : Int) : immV .Y (toldV .Y x) = x / 1048576 % 32 * 1048576 := by
  simp only [immV, toldV, signedV]
  have b0 : 0 ≤ x / 1048576 % 32 ∧ x / 1048576 % 32 < 32 := by omega
  generalize x / 1048576 % 32 = g0 at *
  first | omega | (split <;> omega) | (repeat' apply congrArg₂) <;> (split <;> omega)
theorem chunk_S (x : Int) (hx : 0 ≤ x) (hx' : x < 4294967296) : x = x % 128 + x / 128 % 32 * 128 + x / 4096 % 8 * 4096 + x / 32768 % 32 * 32768 + x / 1048576 % 32 * 1048576 + x / 33554432 % 128 * 33554432 := by
  have q7 : x / 128 = x / 128 := rfl
  have q12 : x / 4096 = x / 128 / 32 := by omega
  have q15 : x / 32768 = x / 4096 / 8 := by omega
  have q20 : x / 1048576 = x / 32768 / 32 := by omega
  have q25 : x / 33554432 = x / 1048576 / 32 := by omega
  have r0 : x = x % 128 + x / 128 * 128 := by omega
  have r7 : x / 128 = x / 128 % 32 + x / 4096 * 32 := by omega
  have r12 : x / 4096 = x / 4096 % 8 + x / 32768 * 8 := by omega
  have r15 : x / 32768 = x / 32768 % 32 + x / 1048576 * 32 := by omega
  have r20 : x / 1048576 = x / 1048576 % 32 + x / 33554432 * 32 := by omega
  have rl : x / 33554432 = x / 33554432 % 128 := by omega
  generalize x / 33554432 = g25 at *
  generalize x / 1048576 = g20 at *
  generalize x / 32768 = g15 at *
  generalize x / 4096 = g12 at *
  generalize x / 128 = g7 at *
  omega
theorem imm_told_S (x : Int) : immV .S (toldV .S x) = x / 128 % 32 * 128 + x / 33554432 % 128 * 33554432 := by
  simp only [immV, toldV, signedV]
  have b0 : 0 ≤ x / 128 % 32 ∧ x / 128 % 32 < 32 := by omega
  have b1 : 0 ≤ x / 33554432 % 128 ∧ x / 33554432 % 128 < 128 := by omega
  generalize x / 128 % 32 = g0 at *
  generalize x / 33554432 % 128 = g1 at *
  first | omega | (split <;> omega) | (repeat' apply congrArg₂) <;> (split <;> omega)
theorem chunk_B (x : Int) (hx : 0 ≤ x) (hx' : x < 4294967296) : x = x % 128 + x / 128 % 2 * 128 + x / 256 % 16 * 256 + x / 4096 % 8 * 4096 + x / 32768 % 32 * 32768 + x / 1048576 % 32 * 1048576 + x / 33554432 % 64 * 33554432 + x / 2147483648 % 2 * 2147483648 := by
  have q7 : x / 128 = x / 128 := rfl
  have q8 : x / 256 = x / 128 / 2 := by omega
  have q12 : x / 4096 = x / 256 / 16 := by omega
  have q15 : x / 32768 = x / 4096 / 8 := by omega
  have q20 : x / 1048576 = x / 32768 / 32 := by omega
  have q25 : x / 33554432 = x / 1048576 / 32 := by omega
  have q31 : x / 2147483648 = x / 33554432 / 64 := by omega
  have r0 : x = x % 128 + x / 128 * 128 := by omega
  have r7 : x / 128 = x / 128 % 2 + x / 256 * 2 := by omega
  have r8 : x / 256 = x / 256 % 16 + x / 4096 * 16 := by omega
  have r12 : x / 4096 = x / 4096 % 8 + x / 32768 * 8 := by omega
  have r15 : x / 32768 = x / 32768 % 32 + x / 1048576 * 32 := by omega
  have r20 : x / 1048576 = x / 1048576 % 32 + x / 33554432 * 32 := by omega
  have r25 : x / 33554432 = x / 33554432 % 64 + x / 2147483648 * 64 := by omega
  have rl : x / 2147483648 = x / 2147483648 % 2 := by omega
  generalize x / 2147483648 = g31 at *
  generalize x / 33554432 = g25 at *
  generalize x / 1048576 = g20 at *
  generalize x / 32768 = g15 at *
  generalize x / 4096 = g12 at *
  generalize x / 256 = g8 at *
  generalize x / 128 = g7 at *
  omega
theorem imm_told_B (x : Int) : immV .B (toldV .B x) = x / 128 % 2 * 128 + x / 256 % 16 * 256 + x / 33554432 % 64 * 33554432 + x / 2147483648 % 2 * 2147483648 := by
  simp only [immV, toldV, signedV]
  have b0 : 0 ≤ x / 128 % 2 ∧ x / 128 % 2 < 2 := by omega
  have b1 : 0 ≤ x / 256 % 16 ∧ x / 256 % 16 < 16 := by omega
  have b2 : 0 ≤ x / 33554432 % 64 ∧ x / 33554432 % 64 < 64 := by omega
  have b3 : 0 ≤ x / 2147483648 % 2 ∧ x / 2147483648 % 2 < 2 := by omega
  generalize x / 128 % 2 = g0 at *
  generalize x / 256 % 16 = g1 at *
  generalize x / 33554432 % 64 = g2 at *
  generalize x / 2147483648 % 2 = g3 at *
  first | omega | (split <;> omega) | (repeat' apply congrArg₂) <;> (split <;> omega)
theorem chunk_U (x : Int) (hx : 0 ≤ x) (hx' : x < 4294967296) : x = x % 128 + x / 128 % 32 * 128 + x / 4096 % 1048576 * 4096 := by
  have q7 : x / 128 = x / 128 := rfl
  have q12 : x / 4096 = x / 128 / 32 := by omega
  have r0 : x = x % 128 + x / 128 * 128 := by omega
  have r7 : x / 128 = x / 128 % 32 + x / 4096 * 32 := by omega
  have rl : x / 4096 = x / 4096 % 1048576 := by omega
  generalize x / 4096 = g12 at *
  generalize x / 128 = g7 at *
  omega
theorem imm_told_U (x : Int) : immV .U (toldV .U x) = x / 4096 % 1048576 * 4096 := by
  simp only [immV, toldV, signedV]
  have b0 : 0 ≤ x / 4096 % 1048576 ∧ x / 4096 % 1048576 < 1048576 := by omega
  generalize x / 4096 % 1048576 = g0 at *
  first | omega | (split <;> omega) | (repeat' apply congrArg₂) <;> (split <;> omega)
theorem chunk_J (x : Int) (hx : 0 ≤ x) (hx' : x < 4294967296) : x = x % 128 + x / 128 % 32 * 128 + x / 4096 % 256 * 4096 + x / 1048576 % 2 * 1048576 + x / 2097152 % 1024 * 2097152 + x / 2147483648 % 2 * 2147483648 := by
  have q7 : x / 128 = x / 128 := rfl
  have q12 : x / 4096 = x / 128 / 32 := by omega
  have q20 : x / 1048576 = x / 4096 / 256 := by omega
  have q21 : x / 2097152 = x / 1048576 / 2 := by omega
  have q31 : x / 2147483648 = x / 2097152 / 1024 := by omega
  have r0 : x = x % 128 + x / 128 * 128 := by omega
  have r7 : x / 128 = x / 128 % 32 + x / 4096 * 32 := by omega
  have r12 : x / 4096 = x / 4096 % 256 + x / 1048576 * 256 := by omega
  have r20 : x / 1048576 = x / 1048576 % 2 + x / 2097152 * 2 := by omega
  have r21 : x / 2097152 = x / 2097152 % 1024 + x / 2147483648 * 1024 := by omega
  have rl : x / 2147483648 = x / 2147483648 % 2 := by omega
  generalize x / 2147483648 = g31 at *
  generalize x / 2097152 = g21 at *
  generalize x / 1048576 = g20 at *
  generalize x / 4096 = g12 at *
  generalize x / 128 = g7 at *
  omega
theorem imm_told_J (x : Int) : immV .J (toldV .J x) = x / 4096 % 256 * 4096 + x / 1048576 % 2 * 1048576 + x / 2097152 % 1024 * 2097152 + x / 2147483648 % 2 * 2147483648 := by
  simp only [immV, toldV, signedV]
  have b0 : 0 ≤ x / 4096 % 256 ∧ x / 4096 % 256 < 256 := by omega
  have b1 : 0 ≤ x / 1048576 % 2 ∧ x / 1048576 % 2 < 2 := by omega
  have b2 : 0 ≤ x / 2097152 % 1024 ∧ x / 2097152 % 1024 < 1024 := by omega
  have b3 : 0 ≤ x / 2147483648 % 2 ∧ x / 2147483648 % 2 < 2 := by omega
  generalize x / 4096 % 256 = g0 at *
  generalize x / 1048576 % 2 = g1 at *
  generalize x / 2097152 % 1024 = g2 at *
  generalize x / 2147483648 % 2 = g3 at *
  first | omega | (split <;> omega) | (repeat' apply congrArg₂) <;> (split <;> omega)
theorem dec_R (x a b c : Int) (hx : 0 ≤ x) (hx' : x < 4294967296) (ha : 0 ≤ a ∧ a < 128) (hb : 0 ≤ b ∧ b < (RvForm.R.bLim : Int)) (hc : 0 ≤ c ∧ c < (RvForm.R.cLim : Int)) :
    bits .and .u32 x (maskV .R) = ownV .R a b c ↔ x = a + jV .R (readsR .R 0 x).rd (readsR .R 0 x).rs1 (readsR .R 0 x).rs2 (readsR .R 0 x).imm + b * 4096 + c * RvForm.R.cAt := by
  simp only [RvForm.bLim, RvForm.cLim] at hb hc
  have hm : bits .and .u32 x (maskV .R) = x % 128 + x / 4096 % 8 * 4096 + x / 33554432 % 128 * 33554432 := by
    rw [show maskV .R = (bits .or .u32 (bits .or .u32 ((2 ^ 7 - 1) * 2 ^ 0) ((2 ^ 3 - 1) * 2 ^ 12)) ((2 ^ 7 - 1) * 2 ^ 25)) by decide +kernel]
    rw [and32_or, and32_or, and32_run 7 0 x hx hx' (by omega), and32_run 3 12 x hx hx' (by omega), and32_run 7 25 x hx hx' (by omega)]
    rw [show x / 2 ^ 0 % 2 ^ 7 * 2 ^ 0 = x % 128 by simp]
    rw [show bits .or .u32 (x % 128) (x / 2 ^ 12 % 2 ^ 3 * 2 ^ 12) = x % 128 + x / 4096 % 8 * 4096 from or32_add 12 _ (x / 4096 % 8) (by omega) (by omega) (by omega) (by omega)]
    rw [show bits .or .u32 (x % 128 + x / 4096 % 8 * 4096) (x / 2 ^ 25 % 2 ^ 7 * 2 ^ 25) = x % 128 + x / 4096 % 8 * 4096 + x / 33554432 % 128 * 33554432 from or32_add 25 _ (x / 33554432 % 128) (by omega) (by omega) (by omega) (by omega)]
  have ho : ownV .R a b c = a + b * 4096 + c * 33554432 := by
    show bits .or .u32 (bits .or .u32 a (b * 4096)) (c * 33554432 % 4294967296) = _
    rw [show bits .or .u32 a (b * 4096) = a + b * 4096 from or32_add 12 _ b (by omega) (by omega) (by omega) (by omega)]
    rw [show c * 33554432 % 4294967296 = c * 33554432 by omega]
    exact or32_add 25 _ c (by omega) (by omega) (by omega) (by omega)
  have hk := chunk_R x hx hx'
  rw [hm, ho]
  simp only [jV, readsR, RvForm.hasRd, RvForm.has1, RvForm.has2, RvForm.cAt, if_true, Bool.false_eq_true, if_false]
  simp only [immV, toldV]
  have b0 : 0 ≤ x % 128 ∧ x % 128 < 128 := by omega
  have b1 : 0 ≤ x / 128 % 32 ∧ x / 128 % 32 < 32 := by omega
  have b2 : 0 ≤ x / 4096 % 8 ∧ x / 4096 % 8 < 8 := by omega
  have b3 : 0 ≤ x / 32768 % 32 ∧ x / 32768 % 32 < 32 := by omega
  have b4 : 0 ≤ x / 1048576 % 32 ∧ x / 1048576 % 32 < 32 := by omega
  have b5 : 0 ≤ x / 33554432 % 128 ∧ x / 33554432 % 128 < 128 := by omega
  clear hm ho
  generalize x % 128 = g0 at *
  generalize x / 128 % 32 = g1 at *
  generalize x / 4096 % 8 = g2 at *
  generalize x / 32768 % 32 = g3 at *
  generalize x / 1048576 % 32 = g4 at *
  generalize x / 33554432 % 128 = g5 at *
  constructor <;> intro h <;> omega
theorem dec_I (x a b c : Int) (hx : 0 ≤ x) (hx' : x < 4294967296) (ha : 0 ≤ a ∧ a < 128) (hb : 0 ≤ b ∧ b < (RvForm.I.bLim : Int)) (hc : 0 ≤ c ∧ c < (RvForm.I.cLim : Int)) :
    bits .and .u32 x (maskV .I) = ownV .I a b c ↔ x = a + jV .I (readsR .I 0 x).rd (readsR .I 0 x).rs1 (readsR .I 0 x).rs2 (readsR .I 0 x).imm + b * 4096 + c * RvForm.I.cAt := by
  simp only [RvForm.bLim, RvForm.cLim] at hb hc
  have hm : bits .and .u32 x (maskV .I) = x % 128 + x / 4096 % 8 * 4096 := by
    rw [show maskV .I = (bits .or .u32 ((2 ^ 7 - 1) * 2 ^ 0) ((2 ^ 3 - 1) * 2 ^ 12)) by decide +kernel]
    rw [and32_or, and32_run 7 0 x hx hx' (by omega), and32_run 3 12 x hx hx' (by omega)]
    rw [show x / 2 ^ 0 % 2 ^ 7 * 2 ^ 0 = x % 128 by simp]
    rw [show bits .or .u32 (x % 128) (x / 2 ^ 12 % 2 ^ 3 * 2 ^ 12) = x % 128 + x / 4096 % 8 * 4096 from or32_add 12 _ (x / 4096 % 8) (by omega) (by omega) (by omega) (by omega)]
  have ho : ownV .I a b c = a + b * 4096 := by
    show bits .or .u32 a (b * 4096) = _
    rw [show bits .or .u32 a (b * 4096) = a + b * 4096 from or32_add 12 _ b (by omega) (by omega) (by omega) (by omega)]
  have hk := chunk_I x hx hx'
  rw [hm, ho]
  simp only [jV, readsR, RvForm.hasRd, RvForm.has1, RvForm.has2, RvForm.cAt, if_true, Bool.false_eq_true, if_false]
  rw [imm_told_I]
  have b0 : 0 ≤ x % 128 ∧ x % 128 < 128 := by omega
  have b1 : 0 ≤ x / 128 % 32 ∧ x / 128 % 32 < 32 := by omega
  have b2 : 0 ≤ x / 4096 % 8 ∧ x / 4096 % 8 < 8 := by omega
  have b3 : 0 ≤ x / 32768 % 32 ∧ x / 32768 % 32 < 32 := by omega
  have b4 : 0 ≤ x / 1048576 % 4096 ∧ x / 1048576 % 4096 < 4096 := by omega
  clear hm ho
  generalize x % 128 = g0 at *
  generalize x / 128 % 32 = g1 at *
  generalize x / 4096 % 8 = g2 at *
  generalize x / 32768 % 32 = g3 at *
  generalize x / 1048576 % 4096 = g4 at *
  constructor <;> intro h <;> omega
theorem dec_X (x a b c : Int) (hx : 0 ≤ x) (hx' : x < 4294967296) (ha : 0 ≤ a ∧ a < 128) (hb : 0 ≤ b ∧ b < (RvForm.X.bLim : Int)) (hc : 0 ≤ c ∧ c < (RvForm.X.cLim : Int)) :
    bits .and .u32 x (maskV .X) = ownV .X a b c ↔ x = a + jV .X (readsR .X 0 x).rd (readsR .X 0 x).rs1 (readsR .X 0 x).rs2 (readsR .X 0 x).imm + b * 4096 + c * RvForm.X.cAt := by
  simp only [RvForm.bLim, RvForm.cLim] at hb hc
  have hm : bits .and .u32 x (maskV .X) = x % 128 + x / 4096 % 8 * 4096 + x / 67108864 % 64 * 67108864 := by
    rw [show maskV .X = (bits .or .u32 (bits .or .u32 ((2 ^ 7 - 1) * 2 ^ 0) ((2 ^ 3 - 1) * 2 ^ 12)) ((2 ^ 6 - 1) * 2 ^ 26)) by decide +kernel]
    rw [and32_or, and32_or, and32_run 7 0 x hx hx' (by omega), and32_run 3 12 x hx hx' (by omega), and32_run 6 26 x hx hx' (by omega)]
    rw [show x / 2 ^ 0 % 2 ^ 7 * 2 ^ 0 = x % 128 by simp]
    rw [show bits .or .u32 (x % 128) (x / 2 ^ 12 % 2 ^ 3 * 2 ^ 12) = x % 128 + x / 4096 % 8 * 4096 from or32_add 12 _ (x / 4096 % 8) (by omega) (by omega) (by omega) (by omega)]
    rw [show bits .or .u32 (x % 128 + x / 4096 % 8 * 4096) (x / 2 ^ 26 % 2 ^ 6 * 2 ^ 26) = x % 128 + x / 4096 % 8 * 4096 + x / 67108864 % 64 * 67108864 from or32_add 26 _ (x / 67108864 % 64) (by omega) (by omega) (by omega) (by omega)]
  have ho : ownV .X a b c = a + b * 4096 + c * 67108864 := by
    show bits .or .u32 (bits .or .u32 a (b * 4096)) (c * 67108864 % 4294967296) = _
    rw [show bits .or .u32 a (b * 4096) = a + b * 4096 from or32_add 12 _ b (by omega) (by omega) (by omega) (by omega)]
    rw [show c * 67108864 % 4294967296 = c * 67108864 by omega]
    exact or32_add 26 _ c (by omega) (by omega) (by omega) (by omega)
  have hk := chunk_X x hx hx'
  rw [hm, ho]
  simp only [jV, readsR, RvForm.hasRd, RvForm.has1, RvForm.has2, RvForm.cAt, if_true, Bool.false_eq_true, if_false]
  rw [imm_told_X]
  have b0 : 0 ≤ x % 128 ∧ x % 128 < 128 := by omega
  have b1 : 0 ≤ x / 128 % 32 ∧ x / 128 % 32 < 32 := by omega
  have b2 : 0 ≤ x / 4096 % 8 ∧ x / 4096 % 8 < 8 := by omega
  have b3 : 0 ≤ x / 32768 % 32 ∧ x / 32768 % 32 < 32 := by omega
  have b4 : 0 ≤ x / 1048576 % 64 ∧ x / 1048576 % 64 < 64 := by omega
  have b5 : 0 ≤ x / 67108864 % 64 ∧ x / 67108864 % 64 < 64 := by omega
  clear hm ho
  generalize x % 128 = g0 at *
  generalize x / 128 % 32 = g1 at *
  generalize x / 4096 % 8 = g2 at *
  generalize x / 32768 % 32 = g3 at *
  generalize x / 1048576 % 64 = g4 at *
  generalize x / 67108864 % 64 = g5 at *
  constructor <;> intro h <;> omega
theorem dec_Y (x a b c : Int) (hx : 0 ≤ x) (hx' : x < 4294967296) (ha : 0 ≤ a ∧ a < 128) (hb : 0 ≤ b ∧ b < (RvForm.Y.bLim : Int)) (hc : 0 ≤ c ∧ c < (RvForm.Y.cLim : Int)) :
    bits .and .u32 x (maskV .Y) = ownV .Y a b c ↔ x = a + jV .Y (readsR .Y 0 x).rd (readsR .Y 0 x).rs1 (readsR .Y 0 x).rs2 (readsR .Y 0 x).imm + b * 4096 + c * RvForm.Y.cAt := by
  simp only [RvForm.bLim, RvForm.cLim] at hb hc
  have hm : bits .and .u32 x (maskV .Y) = x % 128 + x / 4096 % 8 * 4096 + x / 33554432 % 128 * 33554432 := by
    rw [show maskV .Y = (bits .or .u32 (bits .or .u32 ((2 ^ 7 - 1) * 2 ^ 0) ((2 ^ 3 - 1) * 2 ^ 12)) ((2 ^ 7 - 1) * 2 ^ 25)) by decide +kernel]
    rw [and32_or, and32_or, and32_run 7 0 x hx hx' (by omega), and32_run 3 12 x hx hx' (by omega), and32_run 7 25 x hx hx' (by omega)]
    rw [show x / 2 ^ 0 % 2 ^ 7 * 2 ^ 0 = x % 128 by simp]
    rw [show bits .or .u32 (x % 128) (x / 2 ^ 12 % 2 ^ 3 * 2 ^ 12) = x % 128 + x / 4096 % 8 * 4096 from or32_add 12 _ (x / 4096 % 8) (by omega) (by omega) (by omega) (by omega)]
    rw [show bits .or .u32 (x % 128 + x / 4096 % 8 * 4096) (x / 2 ^ 25 % 2 ^ 7 * 2 ^ 25) = x % 128 + x / 4096 % 8 * 4096 + x / 33554432 % 128 * 33554432 from or32_add 25 _ (x / 33554432 % 128) (by omega) (by omega) (by omega) (by omega)]
  have ho : ownV .Y a b c = a + b * 4096 + c * 33554432 := by
    show bits .or .u32 (bits .or .u32 a (b * 4096)) (c * 33554432 % 4294967296) = _
    rw [show bits .or .u32 a (b * 4096) = a + b * 4096 from or32_add 12 _ b (by omega) (by omega) (by omega) (by omega)]
    rw [show c * 33554432 % 4294967296 = c * 33554432 by omega]
    exact or32_add 25 _ c (by omega) (by omega) (by omega) (by omega)
  have hk := chunk_Y x hx hx'
  rw [hm, ho]
  simp only [jV, readsR, RvForm.hasRd, RvForm.has1, RvForm.has2, RvForm.cAt, if_true, Bool.false_eq_true, if_false]
  rw [imm_told_Y]
  have b0 : 0 ≤ x % 128 ∧ x % 128 < 128 := by omega
  have b1 : 0 ≤ x / 128 % 32 ∧ x / 128 % 32 < 32 := by omega
  have b2 : 0 ≤ x / 4096 % 8 ∧ x / 4096 % 8 < 8 := by omega
  have b3 : 0 ≤ x / 32768 % 32 ∧ x / 32768 % 32 < 32 := by omega
  have b4 : 0 ≤ x / 1048576 % 32 ∧ x / 1048576 % 32 < 32 := by omega
  have b5 : 0 ≤ x / 33554432 % 128 ∧ x / 33554432 % 128 < 128 := by omega
  clear hm ho
  generalize x % 128 = g0 at *
  generalize x / 128 % 32 = g1 at *
  generalize x / 4096 % 8 = g2 at *
  generalize x / 32768 % 32 = g3 at *
  generalize x / 1048576 % 32 = g4 at *
  generalize x / 33554432 % 128 = g5 at *
  constructor <;> intro h <;> omega
theorem dec_S (x a b c : Int) (hx : 0 ≤ x) (hx' : x < 4294967296) (ha : 0 ≤ a ∧ a < 128) (hb : 0 ≤ b ∧ b < (RvForm.S.bLim : Int)) (hc : 0 ≤ c ∧ c < (RvForm.S.cLim : Int)) :
    bits .and .u32 x (maskV .S) = ownV .S a b c ↔ x = a + jV .S (readsR .S 0 x).rd (readsR .S 0 x).rs1 (readsR .S 0 x).rs2 (readsR .S 0 x).imm + b * 4096 + c * RvForm.S.cAt := by
  simp only [RvForm.bLim, RvForm.cLim] at hb hc
  have hm : bits .and .u32 x (maskV .S) = x % 128 + x / 4096 % 8 * 4096 := by
    rw [show maskV .S = (bits .or .u32 ((2 ^ 7 - 1) * 2 ^ 0) ((2 ^ 3 - 1) * 2 ^ 12)) by decide +kernel]
    rw [and32_or, and32_run 7 0 x hx hx' (by omega), and32_run 3 12 x hx hx' (by omega)]
    rw [show x / 2 ^ 0 % 2 ^ 7 * 2 ^ 0 = x % 128 by simp]
    rw [show bits .or .u32 (x % 128) (x / 2 ^ 12 % 2 ^ 3 * 2 ^ 12) = x % 128 + x / 4096 % 8 * 4096 from or32_add 12 _ (x / 4096 % 8) (by omega) (by omega) (by omega) (by omega)]
  have ho : ownV .S a b c = a + b * 4096 := by
    show bits .or .u32 a (b * 4096) = _
    rw [show bits .or .u32 a (b * 4096) = a + b * 4096 from or32_add 12 _ b (by omega) (by omega) (by omega) (by omega)]
  have hk := chunk_S x hx hx'
  rw [hm, ho]
  simp only [jV, readsR, RvForm.hasRd, RvForm.has1, RvForm.has2, RvForm.cAt, if_true, Bool.false_eq_true, if_false]
  rw [imm_told_S]
  have b0 : 0 ≤ x % 128 ∧ x % 128 < 128 := by omega
  have b1 : 0 ≤ x / 128 % 32 ∧ x / 128 % 32 < 32 := by omega
  have b2 : 0 ≤ x / 4096 % 8 ∧ x / 4096 % 8 < 8 := by omega
  have b3 : 0 ≤ x / 32768 % 32 ∧ x / 32768 % 32 < 32 := by omega
  have b4 : 0 ≤ x / 1048576 % 32 ∧ x / 1048576 % 32 < 32 := by omega
  have b5 : 0 ≤ x / 33554432 % 128 ∧ x / 33554432 % 128 < 128 := by omega
  clear hm ho
  generalize x % 128 = g0 at *
  generalize x / 128 % 32 = g1 at *
  generalize x / 4096 % 8 = g2 at *
  generalize x / 32768 % 32 = g3 at *
  generalize x / 1048576 % 32 = g4 at *
  generalize x / 33554432 % 128 = g5 at *
  constructor <;> intro h <;> omega
theorem dec_B (x a b c : Int) (hx : 0 ≤ x) (hx' : x < 4294967296) (ha : 0 ≤ a ∧ a < 128) (hb : 0 ≤ b ∧ b < (RvForm.B.bLim : Int)) (hc : 0 ≤ c ∧ c < (RvForm.B.cLim : Int)) :
    bits .and .u32 x (maskV .B) = ownV .B a b c ↔ x = a + jV .B (readsR .B 0 x).rd (readsR .B 0 x).rs1 (readsR .B 0 x).rs2 (readsR .B 0 x).imm + b * 4096 + c * RvForm.B.cAt := by
  simp only [RvForm.bLim, RvForm.cLim] at hb hc
  have hm : bits .and .u32 x (maskV .B) = x % 128 + x / 4096 % 8 * 4096 := by
    rw [show maskV .B = (bits .or .u32 ((2 ^ 7 - 1) * 2 ^ 0) ((2 ^ 3 - 1) * 2 ^ 12)) by decide +kernel]
    rw [and32_or, and32_run 7 0 x hx hx' (by omega), and32_run 3 12 x hx hx' (by omega)]
    rw [show x / 2 ^ 0 % 2 ^ 7 * 2 ^ 0 = x % 128 by simp]
    rw [show bits .or .u32 (x % 128) (x / 2 ^ 12 % 2 ^ 3 * 2 ^ 12) = x % 128 + x / 4096 % 8 * 4096 from or32_add 12 _ (x / 4096 % 8) (by omega) (by omega) (by omega) (by omega)]
  have ho : ownV .B a b c = a + b * 4096 := by
    show bits .or .u32 a (b * 4096) = _
    rw [show bits .or .u32 a (b * 4096) = a + b * 4096 from or32_add 12 _ b (by omega) (by omega) (by omega) (by omega)]
  have hk := chunk_B x hx hx'
  rw [hm, ho]
  simp only [jV, readsR, RvForm.hasRd, RvForm.has1, RvForm.has2, RvForm.cAt, if_true, Bool.false_eq_true, if_false]
  rw [imm_told_B]
  have b0 : 0 ≤ x % 128 ∧ x % 128 < 128 := by omega
  have b1 : 0 ≤ x / 128 % 2 ∧ x / 128 % 2 < 2 := by omega
  have b2 : 0 ≤ x / 256 % 16 ∧ x / 256 % 16 < 16 := by omega
  have b3 : 0 ≤ x / 4096 % 8 ∧ x / 4096 % 8 < 8 := by omega
  have b4 : 0 ≤ x / 32768 % 32 ∧ x / 32768 % 32 < 32 := by omega
  have b5 : 0 ≤ x / 1048576 % 32 ∧ x / 1048576 % 32 < 32 := by omega
  have b6 : 0 ≤ x / 33554432 % 64 ∧ x / 33554432 % 64 < 64 := by omega
  have b7 : 0 ≤ x / 2147483648 % 2 ∧ x / 2147483648 % 2 < 2 := by omega
  clear hm ho
  generalize x % 128 = g0 at *
  generalize x / 128 % 2 = g1 at *
  generalize x / 256 % 16 = g2 at *
  generalize x / 4096 % 8 = g3 at *
  generalize x / 32768 % 32 = g4 at *
  generalize x / 1048576 % 32 = g5 at *
  generalize x / 33554432 % 64 = g6 at *
  generalize x / 2147483648 % 2 = g7 at *
  constructor <;> intro h <;> omega
theorem dec_U (x a b c : Int) (hx : 0 ≤ x) (hx' : x < 4294967296) (ha : 0 ≤ a ∧ a < 128) (hb : 0 ≤ b ∧ b < (RvForm.U.bLim : Int)) (hc : 0 ≤ c ∧ c < (RvForm.U.cLim : Int)) :
    bits .and .u32 x (maskV .U) = ownV .U a b c ↔ x = a + jV .U (readsR .U 0 x).rd (readsR .U 0 x).rs1 (readsR .U 0 x).rs2 (readsR .U 0 x).imm + b * 4096 + c * RvForm.U.cAt := by
  simp only [RvForm.bLim, RvForm.cLim] at hb hc
  have hm : bits .and .u32 x (maskV .U) = x % 128 := by
    rw [show maskV .U = ((2 ^ 7 - 1) * 2 ^ 0) by decide +kernel]
    rw [and32_run 7 0 x hx hx' (by omega)]
    rw [show x / 2 ^ 0 % 2 ^ 7 * 2 ^ 0 = x % 128 by simp]
  have ho : ownV .U a b c = a + b * 4096 := by
    show bits .or .u32 a (b * 4096) = _
    rw [show bits .or .u32 a (b * 4096) = a + b * 4096 from or32_add 12 _ b (by omega) (by omega) (by omega) (by omega)]
  have hk := chunk_U x hx hx'
  rw [hm, ho]
  simp only [jV, readsR, RvForm.hasRd, RvForm.has1, RvForm.has2, RvForm.cAt, if_true, Bool.false_eq_true, if_false]
  rw [imm_told_U]
  have b0 : 0 ≤ x % 128 ∧ x % 128 < 128 := by omega
  have b1 : 0 ≤ x / 128 % 32 ∧ x / 128 % 32 < 32 := by omega
  have b2 : 0 ≤ x / 4096 % 1048576 ∧ x / 4096 % 1048576 < 1048576 := by omega
  clear hm ho
  generalize x % 128 = g0 at *
  generalize x / 128 % 32 = g1 at *
  generalize x / 4096 % 1048576 = g2 at *
  constructor <;> intro h <;> omega
theorem dec_J (x a b c : Int) (hx : 0 ≤ x) (hx' : x < 4294967296) (ha : 0 ≤ a ∧ a < 128) (hb : 0 ≤ b ∧ b < (RvForm.J.bLim : Int)) (hc : 0 ≤ c ∧ c < (RvForm.J.cLim : Int)) :
    bits .and .u32 x (maskV .J) = ownV .J a b c ↔ x = a + jV .J (readsR .J 0 x).rd (readsR .J 0 x).rs1 (readsR .J 0 x).rs2 (readsR .J 0 x).imm + b * 4096 + c * RvForm.J.cAt := by
  simp only [RvForm.bLim, RvForm.cLim] at hb hc
  have hm : bits .and .u32 x (maskV .J) = x % 128 := by
    rw [show maskV .J = ((2 ^ 7 - 1) * 2 ^ 0) by decide +kernel]
    rw [and32_run 7 0 x hx hx' (by omega)]
    rw [show x / 2 ^ 0 % 2 ^ 7 * 2 ^ 0 = x % 128 by simp]
  have ho : ownV .J a b c = a + b * 4096 := by
    show bits .or .u32 a (b * 4096) = _
    rw [show bits .or .u32 a (b * 4096) = a + b * 4096 from or32_add 12 _ b (by omega) (by omega) (by omega) (by omega)]
  have hk := chunk_J x hx hx'
  rw [hm, ho]
  simp only [jV, readsR, RvForm.hasRd, RvForm.has1, RvForm.has2, RvForm.cAt, if_true, Bool.false_eq_true, if_false]
  rw [imm_told_J]
  have b0 : 0 ≤ x % 128 ∧ x % 128 < 128 := by omega
  have b1 : 0 ≤ x / 128 % 32 ∧ x / 128 % 32 < 32 := by omega
  have b2 : 0 ≤ x / 4096 % 256 ∧ x / 4096 % 256 < 256 := by omega
  have b3 : 0 ≤ x / 1048576 % 2 ∧ x / 1048576 % 2 < 2 := by omega
  have b4 : 0 ≤ x / 2097152 % 1024 ∧ x / 2097152 % 1024 < 1024 := by omega
  have b5 : 0 ≤ x / 2147483648 % 2 ∧ x / 2147483648 % 2 < 2 := by omega
  clear hm ho
  generalize x % 128 = g0 at *
  generalize x / 128 % 32 = g1 at *
  generalize x / 4096 % 256 = g2 at *
  generalize x / 1048576 % 2 = g3 at *
  generalize x / 2097152 % 1024 = g4 at *
  generalize x / 2147483648 % 2 = g5 at *
  constructor <;> intro h <;> omega
theorem dec_E (x a b c : Int) (hx : 0 ≤ x) (hx' : x < 4294967296) (ha : 0 ≤ a ∧ a < 128) (hb : 0 ≤ b ∧ b < (RvForm.E.bLim : Int)) (hc : 0 ≤ c ∧ c < (RvForm.E.cLim : Int)) :
    bits .and .u32 x (maskV .E) = ownV .E a b c ↔ x = a + jV .E (readsR .E 0 x).rd (readsR .E 0 x).rs1 (readsR .E 0 x).rs2 (readsR .E 0 x).imm + b * 4096 + c * RvForm.E.cAt := by
  simp only [RvForm.bLim, RvForm.cLim] at hb hc
  obtain rfl : b = 0 := by omega
  obtain rfl : c = 0 := by omega
  have hm : bits .and .u32 x (maskV .E) = x := by
    rw [show maskV .E = ((2 ^ 32 - 1) * 2 ^ 0) by decide +kernel, and32_run 32 0 x hx hx' (by omega)]
    simp
    omega
  have ho : ownV .E a 0 0 = a := by
    show bits .or .u32 a (0 * 4096) = _
    rw [show (0 : Int) * 4096 = 0 from rfl, or32_comm, or32_zero a (by omega) (by omega)]
  rw [hm, ho]
  simp [jV, readsR, immV, toldV, RvForm.hasRd, RvForm.has1, RvForm.has2]


/-- All forms at once. -/
theorem split_is (f : RvForm) (x : Int) (hx : 0 ≤ x) (hx' : x < 4294967296) : SplitIs f x := by
  cases f
  · exact split_R x hx hx'
  · exact split_I x hx hx'
  · exact split_X x hx hx'
  · exact split_Y x hx hx'
  · exact split_S x hx hx'
  · exact split_B x hx hx'
  · exact split_U x hx hx'
  · exact split_J x hx hx'
  · exact split_E x hx hx'
theorem join_is (f : RvForm) (rd rs1 rs2 imm : Int) : joinV (fdsV f.letter) (num4 rd rs1 rs2 imm) = jV f rd rs1 rs2 imm := by
  cases f
  · exact joinS_R rd rs1 rs2 imm
  · exact joinS_I rd rs1 rs2 imm
  · exact joinS_X rd rs1 rs2 imm
  · exact joinS_Y rd rs1 rs2 imm
  · exact joinS_S rd rs1 rs2 imm
  · exact joinS_B rd rs1 rs2 imm
  · exact joinS_U rd rs1 rs2 imm
  · exact joinS_J rd rs1 rs2 imm
  · exact joinS_E rd rs1 rs2 imm
theorem own_is (f : RvForm) (rd rs1 rs2 imm a b c : Int) (ha : 0 ≤ a ∧ a < 128) (hb : 0 ≤ b ∧ b < (f.bLim : Int)) (hc : 0 ≤ c ∧ c < (f.cLim : Int)) :
    bits .or .u32 (ownV f a b c) (joinV (fdsV f.letter) (num4 rd rs1 rs2 imm)) = a + jV f rd rs1 rs2 imm + b * 4096 + c * f.cAt := by
  cases f
  · exact ownS_R rd rs1 rs2 imm a b c ha hb hc
  · exact ownS_I rd rs1 rs2 imm a b c ha hb hc
  · exact ownS_X rd rs1 rs2 imm a b c ha hb hc
  · exact ownS_Y rd rs1 rs2 imm a b c ha hb hc
  · exact ownS_S rd rs1 rs2 imm a b c ha hb hc
  · exact ownS_B rd rs1 rs2 imm a b c ha hb hc
  · exact ownS_U rd rs1 rs2 imm a b c ha hb hc
  · exact ownS_J rd rs1 rs2 imm a b c ha hb hc
  · exact ownS_E rd rs1 rs2 imm a b c ha hb hc
theorem reads_ok (f : RvForm) (x : Int) : regOk (readsR f 0 x).rd f.hasRd ∧ regOk (readsR f 0 x).rs1 f.has1 ∧ regOk (readsR f 0 x).rs2 f.has2 ∧ immOk f (readsR f 0 x).imm := by
  cases f
  · exact reads_ok_R x
  · exact reads_ok_I x
  · exact reads_ok_X x
  · exact reads_ok_Y x
  · exact reads_ok_S x
  · exact reads_ok_B x
  · exact reads_ok_U x
  · exact reads_ok_J x
  · exact reads_ok_E x
theorem dec_is (f : RvForm) (x a b c : Int) (hx : 0 ≤ x) (hx' : x < 4294967296) (ha : 0 ≤ a ∧ a < 128) (hb : 0 ≤ b ∧ b < (f.bLim : Int)) (hc : 0 ≤ c ∧ c < (f.cLim : Int)) :
    bits .and .u32 x (maskV f) = ownV f a b c ↔ x = a + jV f (readsR f 0 x).rd (readsR f 0 x).rs1 (readsR f 0 x).rs2 (readsR f 0 x).imm + b * 4096 + c * f.cAt := by
  cases f
  · exact dec_R x a b c hx hx' ha hb hc
  · exact dec_I x a b c hx hx' ha hb hc
  · exact dec_X x a b c hx hx' ha hb hc
  · exact dec_Y x a b c hx hx' ha hb hc
  · exact dec_S x a b c hx hx' ha hb hc
  · exact dec_B x a b c hx hx' ha hb hc
  · exact dec_U x a b c hx hx' ha hb hc
  · exact dec_J x a b c hx hx' ha hb hc
  · exact dec_E x a b c hx hx' ha hb hc
end Go.Proofs.Ytcglfbjfllohjaa