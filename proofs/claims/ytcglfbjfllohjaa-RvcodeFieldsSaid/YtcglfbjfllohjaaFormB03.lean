/- What join, split and the masks of package rvcode come to, in the words of the instructions' mathematics. No condition but the bounds that each names. -/
import Derived.Test.YtcglfbjfllohjaaForm03
import Derived.Test.YtcglfbjfllohjaaRv03Math
namespace Go.Proofs.Ytcglfbjfllohjaa
open Go.RowKit
set_option linter.unusedVariables false
set_option linter.unusedSimpArgs false
theorem wrap32_sg {x : Int} (h : 0 ≤ x) (h' : x < 4294967296) : wrap32 x = if x < 2147483648 then x else x - 4294967296 := by
  unfold wrap32
  split <;> omega
/-- What split makes of a word. -/
structure SplitIs (f : RvForm) (x : Int) : Prop where
  s0 : splitV (fdsV f.letter) x 0 = (readsR f 0 x).rd
  s1 : splitV (fdsV f.letter) x 1 = (readsR f 0 x).rs1
  s2 : splitV (fdsV f.letter) x 2 = (readsR f 0 x).rs2
  s3 : splitV (fdsV f.letter) x 3 = (readsR f 0 x).imm

theorem fds_R : fdsV 82 = [⟨0, 0, 5, 7⟩, ⟨1, 0, 5, 15⟩, ⟨2, 0, 5, 20⟩] := rfl
theorem split_R (x : Int) (hx : 0 ≤ x) (hx' : x < 4294967296) : SplitIs .R x := by
  have hw := wrap32_sg hx hx'
  have e0 : splitV (fdsV 82) x 0 = bits .or .i64 (0) (x / 128 % 32) := by simp [splitV, fds_R, setN, Fd.take]
  have e1 : splitV (fdsV 82) x 1 = bits .or .i64 (0) (x / 32768 % 32) := by simp [splitV, fds_R, setN, Fd.take]
  have e2 : splitV (fdsV 82) x 2 = bits .or .i64 (0) (x / 1048576 % 32) := by simp [splitV, fds_R, setN, Fd.take]
  have e3 : splitV (fdsV 82) x 3 = 0 := by simp [splitV, fds_R, setN, Fd.take]
  rw [or64_zero (x / 128 % 32) (by omega) (by omega)] at e0
  rw [or64_zero (x / 32768 % 32) (by omega) (by omega)] at e1
  rw [or64_zero (x / 1048576 % 32) (by omega) (by omega)] at e2
  refine ⟨e0.trans ?_, e1.trans ?_, e2.trans ?_, e3.trans ?_⟩ <;> simp only [readsR, RvForm.hasRd, RvForm.has1, RvForm.has2, toldV, signedV, if_true, Bool.false_eq_true, if_false]

theorem fds_I : fdsV 73 = [⟨0, 0, 5, 7⟩, ⟨1, 0, 5, 15⟩, ⟨3, 0, 0, 20⟩] := rfl
theorem split_I (x : Int) (hx : 0 ≤ x) (hx' : x < 4294967296) : SplitIs .I x := by
  have hw := wrap32_sg hx hx'
  have e0 : splitV (fdsV 73) x 0 = bits .or .i64 (0) (x / 128 % 32) := by simp [splitV, fds_I, setN, Fd.take]
  have e1 : splitV (fdsV 73) x 1 = bits .or .i64 (0) (x / 32768 % 32) := by simp [splitV, fds_I, setN, Fd.take]
  have e2 : splitV (fdsV 73) x 2 = 0 := by simp [splitV, fds_I, setN, Fd.take]
  have e3 : splitV (fdsV 73) x 3 = bits .or .i64 (0) (wrap32 x / 1048576) := by simp [splitV, fds_I, setN, Fd.take]
  rw [or64_zero (x / 128 % 32) (by omega) (by omega)] at e0
  rw [or64_zero (x / 32768 % 32) (by omega) (by omega)] at e1
  have hb : -2147483648 ≤ wrap32 x ∧ wrap32 x < 2147483648 := by rw [hw]; split <;> omega
  rw [or64_zero (wrap32 x / 1048576) (by omega) (by omega)] at e3
  refine ⟨e0.trans ?_, e1.trans ?_, e2.trans ?_, e3.trans ?_⟩ <;> simp only [readsR, RvForm.hasRd, RvForm.has1, RvForm.has2, toldV, signedV, if_true, Bool.false_eq_true, if_false]
  all_goals (rw [hw]; split <;> split <;> omega)
theorem fds_X : fdsV 88 = [⟨0, 0, 5, 7⟩, ⟨1, 0, 5, 15⟩, ⟨3, 0, 6, 20⟩] := rfl
theorem split_X (x : Int) (hx : 0 ≤ x) (hx' : x < 4294967296) : SplitIs .X x := by
  have hw := wrap32_sg hx hx'
  have e0 : splitV (fdsV 88) x 0 = bits .or .i64 (0) (x / 128 % 32) := by simp [splitV, fds_X, setN, Fd.take]
  have e1 : splitV (fdsV 88) x 1 = bits .or .i64 (0) (x / 32768 % 32) := by simp [splitV, fds_X, setN, Fd.take]
  have e2 : splitV (fdsV 88) x 2 = 0 := by simp [splitV, fds_X, setN, Fd.take]
  have e3 : splitV (fdsV 88) x 3 = bits .or .i64 (0) (x / 1048576 % 64) := by simp [splitV, fds_X, setN, Fd.take]
  rw [or64_zero (x / 128 % 32) (by omega) (by omega)] at e0
  rw [or64_zero (x / 32768 % 32) (by omega) (by omega)] at e1
  have hb : -2147483648 ≤ wrap32 x ∧ wrap32 x < 2147483648 := by rw [hw]; split <;> omega
  rw [or64_zero (x / 1048576 % 64) (by omega) (by omega)] at e3
  refine ⟨e0.trans ?_, e1.trans ?_, e2.trans ?_, e3.trans ?_⟩ <;> simp only [readsR, RvForm.hasRd, RvForm.has1, RvForm.has2, toldV, signedV, if_true, Bool.false_eq_true, if_false]

theorem fds_Y : fdsV 89 = [⟨0, 0, 5, 7⟩, ⟨1, 0, 5, 15⟩, ⟨3, 0, 5, 20⟩] := rfl
theorem split_Y (x : Int) (hx : 0 ≤ x) (hx' : x < 4294967296) : SplitIs .Y x := by
  have hw := wrap32_sg hx hx'
  have e0 : splitV (fdsV 89) x 0 = bits .or .i64 (0) (x / 128 % 32) := by simp [splitV, fds_Y, setN, Fd.take]
  have e1 : splitV (fdsV 89) x 1 = bits .or .i64 (0) (x / 32768 % 32) := by simp [splitV, fds_Y, setN, Fd.take]
  have e2 : splitV (fdsV 89) x 2 = 0 := by simp [splitV, fds_Y, setN, Fd.take]
  have e3 : splitV (fdsV 89) x 3 = bits .or .i64 (0) (x / 1048576 % 32) := by simp [splitV, fds_Y, setN, Fd.take]
  rw [or64_zero (x / 128 % 32) (by omega) (by omega)] at e0
  rw [or64_zero (x / 32768 % 32) (by omega) (by omega)] at e1
  have hb : -2147483648 ≤ wrap32 x ∧ wrap32 x < 2147483648 := by rw [hw]; split <;> omega
  rw [or64_zero (x / 1048576 % 32) (by omega) (by omega)] at e3
  refine ⟨e0.trans ?_, e1.trans ?_, e2.trans ?_, e3.trans ?_⟩ <;> simp only [readsR, RvForm.hasRd, RvForm.has1, RvForm.has2, toldV, signedV, if_true, Bool.false_eq_true, if_false]

theorem fds_S : fdsV 83 = [⟨3, 0, 5, 7⟩, ⟨1, 0, 5, 15⟩, ⟨2, 0, 5, 20⟩, ⟨3, 5, 0, 25⟩] := rfl
theorem split_S (x : Int) (hx : 0 ≤ x) (hx' : x < 4294967296) : SplitIs .S x := by
  have hw := wrap32_sg hx hx'
  have e0 : splitV (fdsV 83) x 0 = 0 := by simp [splitV, fds_S, setN, Fd.take]
  have e1 : splitV (fdsV 83) x 1 = bits .or .i64 (0) (x / 32768 % 32) := by simp [splitV, fds_S, setN, Fd.take]
  have e2 : splitV (fdsV 83) x 2 = bits .or .i64 (0) (x / 1048576 % 32) := by simp [splitV, fds_S, setN, Fd.take]
  have e3 : splitV (fdsV 83) x 3 = bits .or .i64 (bits .or .i64 (0) (x / 128 % 32)) (wrap32 x / 33554432 * 32) := by simp [splitV, fds_S, setN, Fd.take]
  rw [or64_zero (x / 32768 % 32) (by omega) (by omega)] at e1
  rw [or64_zero (x / 1048576 % 32) (by omega) (by omega)] at e2
  have hb : -2147483648 ≤ wrap32 x ∧ wrap32 x < 2147483648 := by rw [hw]; split <;> omega
  rw [or64_zero (x / 128 % 32) (by omega) (by omega)] at e3
  rw [show bits .or .i64 (x / 128 % 32) (wrap32 x / 33554432 * 32) = x / 128 % 32 + wrap32 x / 33554432 * 32 from or64_add 5 _ (wrap32 x / 33554432) (by omega) (by omega) (by omega) (by omega)] at e3
  refine ⟨e0.trans ?_, e1.trans ?_, e2.trans ?_, e3.trans ?_⟩ <;> simp only [readsR, RvForm.hasRd, RvForm.has1, RvForm.has2, toldV, signedV, if_true, Bool.false_eq_true, if_false]
  all_goals (rw [hw]; split <;> split <;> omega)
theorem fds_B : fdsV 66 = [⟨3, 11, 1, 7⟩, ⟨3, 1, 4, 8⟩, ⟨1, 0, 5, 15⟩, ⟨2, 0, 5, 20⟩, ⟨3, 5, 6, 25⟩, ⟨3, 12, 0, 31⟩] := rfl
theorem split_B (x : Int) (hx : 0 ≤ x) (hx' : x < 4294967296) : SplitIs .B x := by
  have hw := wrap32_sg hx hx'
  have e0 : splitV (fdsV 66) x 0 = 0 := by simp [splitV, fds_B, setN, Fd.take]
  have e1 : splitV (fdsV 66) x 1 = bits .or .i64 (0) (x / 32768 % 32) := by simp [splitV, fds_B, setN, Fd.take]
  have e2 : splitV (fdsV 66) x 2 = bits .or .i64 (0) (x / 1048576 % 32) := by simp [splitV, fds_B, setN, Fd.take]
  have e3 : splitV (fdsV 66) x 3 = bits .or .i64 (bits .or .i64 (bits .or .i64 (bits .or .i64 (0) (x / 128 % 2 * 2048)) (x / 256 % 16 * 2)) (x / 33554432 % 64 * 32)) (wrap32 x / 2147483648 * 4096) := by simp [splitV, fds_B, setN, Fd.take]
  rw [or64_zero (x / 32768 % 32) (by omega) (by omega)] at e1
  rw [or64_zero (x / 1048576 % 32) (by omega) (by omega)] at e2
  have hb : -2147483648 ≤ wrap32 x ∧ wrap32 x < 2147483648 := by rw [hw]; split <;> omega
  rw [or64_zero (x / 128 % 2 * 2048) (by omega) (by omega)] at e3
  rw [show bits .or .i64 (bits .or .i64 (bits .or .i64 (x / 128 % 2 * 2048) (x / 256 % 16 * 2)) (x / 33554432 % 64 * 32)) (wrap32 x / 2147483648 * 4096) = bits .or .i64 (bits .or .i64 (bits .or .i64 (x / 256 % 16 * 2) (x / 33554432 % 64 * 32)) (x / 128 % 2 * 2048)) (wrap32 x / 2147483648 * 4096) by ac_rfl,
    show bits .or .i64 (x / 256 % 16 * 2) (x / 33554432 % 64 * 32) = x / 256 % 16 * 2 + x / 33554432 % 64 * 32 from or64_add 5 _ (x / 33554432 % 64) (by omega) (by omega) (by omega) (by omega),
    show bits .or .i64 (x / 256 % 16 * 2 + x / 33554432 % 64 * 32) (x / 128 % 2 * 2048) = x / 256 % 16 * 2 + x / 33554432 % 64 * 32 + x / 128 % 2 * 2048 from or64_add 11 _ (x / 128 % 2) (by omega) (by omega) (by omega) (by omega),
    show bits .or .i64 (x / 256 % 16 * 2 + x / 33554432 % 64 * 32 + x / 128 % 2 * 2048) (wrap32 x / 2147483648 * 4096) = x / 256 % 16 * 2 + x / 33554432 % 64 * 32 + x / 128 % 2 * 2048 + wrap32 x / 2147483648 * 4096 from or64_add 12 _ (wrap32 x / 2147483648) (by omega) (by omega) (by omega) (by omega)] at e3
  refine ⟨e0.trans ?_, e1.trans ?_, e2.trans ?_, e3.trans ?_⟩ <;> simp only [readsR, RvForm.hasRd, RvForm.has1, RvForm.has2, toldV, signedV, if_true, Bool.false_eq_true, if_false]
  all_goals (rw [hw]; split <;> split <;> omega)
theorem fds_U : fdsV 85 = [⟨0, 0, 5, 7⟩, ⟨3, 0, 0, 12⟩] := rfl
theorem split_U (x : Int) (hx : 0 ≤ x) (hx' : x < 4294967296) : SplitIs .U x := by
  have hw := wrap32_sg hx hx'
  have e0 : splitV (fdsV 85) x 0 = bits .or .i64 (0) (x / 128 % 32) := by simp [splitV, fds_U, setN, Fd.take]
  have e1 : splitV (fdsV 85) x 1 = 0 := by simp [splitV, fds_U, setN, Fd.take]
  have e2 : splitV (fdsV 85) x 2 = 0 := by simp [splitV, fds_U, setN, Fd.take]
  have e3 : splitV (fdsV 85) x 3 = bits .or .i64 (0) (wrap32 x / 4096) := by simp [splitV, fds_U, setN, Fd.take]
  rw [or64_zero (x / 128 % 32) (by omega) (by omega)] at e0
  have hb : -2147483648 ≤ wrap32 x ∧ wrap32 x < 2147483648 := by rw [hw]; split <;> omega
  rw [or64_zero (wrap32 x / 4096) (by omega) (by omega)] at e3
  refine ⟨e0.trans ?_, e1.trans ?_, e2.trans ?_, e3.trans ?_⟩ <;> simp only [readsR, RvForm.hasRd, RvForm.has1, RvForm.has2, toldV, signedV, if_true, Bool.false_eq_true, if_false]
  all_goals (rw [hw]; split <;> split <;> omega)
theorem fds_J : fdsV 74 = [⟨0, 0, 5, 7⟩, ⟨3, 12, 8, 12⟩, ⟨3, 11, 1, 20⟩, ⟨3, 1, 10, 21⟩, ⟨3, 20, 0, 31⟩] := rfl
theorem split_J (x : Int) (hx : 0 ≤ x) (hx' : x < 4294967296) : SplitIs .J x := by
  have hw := wrap32_sg hx hx'
  have e0 : splitV (fdsV 74) x 0 = bits .or .i64 (0) (x / 128 % 32) := by simp [splitV, fds_J, setN, Fd.take]
  have e1 : splitV (fdsV 74) x 1 = 0 := by simp [splitV, fds_J, setN, Fd.take]
  have e2 : splitV (fdsV 74) x 2 = 0 := by simp [splitV, fds_J, setN, Fd.take]
  have e3 : splitV (fdsV 74) x 3 = bits .or .i64 (bits .or .i64 (bits .or .i64 (bits .or .i64 (0) (x / 4096 % 256 * 4096)) (x / 1048576 % 2 * 2048)) (x / 2097152 % 1024 * 2)) (wrap32 x / 2147483648 * 1048576) := by simp [splitV, fds_J, setN, Fd.take]
  rw [or64_zero (x / 128 % 32) (by omega) (by omega)] at e0
  have hb : -2147483648 ≤ wrap32 x ∧ wrap32 x < 2147483648 := by rw [hw]; split <;> omega
  rw [or64_zero (x / 4096 % 256 * 4096) (by omega) (by omega)] at e3
  rw [show bits .or .i64 (bits .or .i64 (bits .or .i64 (x / 4096 % 256 * 4096) (x / 1048576 % 2 * 2048)) (x / 2097152 % 1024 * 2)) (wrap32 x / 2147483648 * 1048576) = bits .or .i64 (bits .or .i64 (bits .or .i64 (x / 2097152 % 1024 * 2) (x / 1048576 % 2 * 2048)) (x / 4096 % 256 * 4096)) (wrap32 x / 2147483648 * 1048576) by ac_rfl,
    show bits .or .i64 (x / 2097152 % 1024 * 2) (x / 1048576 % 2 * 2048) = x / 2097152 % 1024 * 2 + x / 1048576 % 2 * 2048 from or64_add 11 _ (x / 1048576 % 2) (by omega) (by omega) (by omega) (by omega),
    show bits .or .i64 (x / 2097152 % 1024 * 2 + x / 1048576 % 2 * 2048) (x / 4096 % 256 * 4096) = x / 2097152 % 1024 * 2 + x / 1048576 % 2 * 2048 + x / 4096 % 256 * 4096 from or64_add 12 _ (x / 4096 % 256) (by omega) (by omega) (by omega) (by omega),
    show bits .or .i64 (x / 2097152 % 1024 * 2 + x / 1048576 % 2 * 2048 + x / 4096 % 256 * 4096) (wrap32 x / 2147483648 * 1048576) = x / 2097152 % 1024 * 2 + x / 1048576 % 2 * 2048 + x / 4096 % 256 * 4096 + wrap32 x / 2147483648 * 1048576 from or64_add 20 _ (wrap32 x / 2147483648) (by omega) (by omega) (by omega) (by omega)] at e3
  refine ⟨e0.trans ?_, e1.trans ?_, e2.trans ?_, e3.trans ?_⟩ <;> simp only [readsR, RvForm.hasRd, RvForm.has1, RvForm.has2, toldV, signedV, if_true, Bool.false_eq_true, if_false]
  all_goals (rw [hw]; split <;> split <;> omega)
theorem fds_E : fdsV 69 = [] := rfl
theorem split_E (x : Int) (hx : 0 ≤ x) (hx' : x < 4294967296) : SplitIs .E x := by
  have hw := wrap32_sg hx hx'
  have e0 : splitV (fdsV 69) x 0 = 0 := by simp [splitV, fds_E, setN, Fd.take]
  have e1 : splitV (fdsV 69) x 1 = 0 := by simp [splitV, fds_E, setN, Fd.take]
  have e2 : splitV (fdsV 69) x 2 = 0 := by simp [splitV, fds_E, setN, Fd.take]
  have e3 : splitV (fdsV 69) x 3 = 0 := by simp [splitV, fds_E, setN, Fd.take]
  refine ⟨e0.trans ?_, e1.trans ?_, e2.trans ?_, e3.trans ?_⟩ <;> simp only [readsR, RvForm.hasRd, RvForm.has1, RvForm.has2, toldV, signedV, if_true, Bool.false_eq_true, if_false]

end Go.Proofs.Ytcglfbjfllohjaa