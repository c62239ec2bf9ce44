/- What the fields of each form join to, and split into: plain arithmetic, form by form. No condition but the bounds that each names. -/
import Derived.Test.YtnaceogkaiodnaaGreatM4
import Derived.Test.YtnaceogkaiodnaaGreatM1
import Derived.ChangeKeysEq
import Derived.Deep.RegionHeld3
import Derived.Test.YtnaceogkaiodnaaGreatRows
import Derived.WalkKit
import Derived.WalkSpells
import Derived.WalkLawsBesides
import Derived.ProofKit
import Derived.IntWalk
import Derived.Lib.Hide
namespace Go.Proofs.YtnaceogkaiodnaaGreat
open Go.RowKit
set_option linter.unusedVariables false
set_option linter.unusedSimpArgs false

theorem join_R (x0 x1 x2 : Int) (hx0 : 0 ≤ x0 ∧ x0 < 32) (hx1 : 0 ≤ x1 ∧ x1 < 32) (hx2 : 0 ≤ x2 ∧ x2 < 32) : bits .or .u32 (bits .or .u32 (bits .or .u32 (0) (x0 * 128)) (x1 * 32768)) (x2 * 1048576) = x0 * 128 + x1 * 32768 + x2 * 1048576 := by
  rw [or32_zero (x0 * 128) (by omega) (by omega)]
  rw [show bits .or .u32 (x0 * 128) (x1 * 32768) = x0 * 128 + x1 * 32768 from or32_add 15 _ x1 (by omega) (by omega) (by omega) (by omega)]
  rw [show bits .or .u32 (x0 * 128 + x1 * 32768) (x2 * 1048576) = x0 * 128 + x1 * 32768 + x2 * 1048576 from or32_add 20 _ x2 (by omega) (by omega) (by omega) (by omega)]
theorem own_join_R (a b c x0 x1 x2 : Int) (ha : 0 ≤ a ∧ a < 128) (hb : 0 ≤ b ∧ b < 8) (hc : 0 ≤ c ∧ c < 128) (hx0 : 0 ≤ x0 ∧ x0 < 32) (hx1 : 0 ≤ x1 ∧ x1 < 32) (hx2 : 0 ≤ x2 ∧ x2 < 32) : bits .or .u32 (bits .or .u32 (bits .or .u32 a (b * 4096)) (c * 33554432)) (bits .or .u32 (bits .or .u32 (bits .or .u32 (0) (x0 * 128)) (x1 * 32768)) (x2 * 1048576)) = a + x0 * 128 + b * 4096 + x1 * 32768 + x2 * 1048576 + c * 33554432 := by
  rw [or32_zero (x0 * 128) (by omega) (by omega)]
  rw [show bits .or .u32 (bits .or .u32 (bits .or .u32 a (b * 4096)) (c * 33554432)) (bits .or .u32 (bits .or .u32 (x0 * 128) (x1 * 32768)) (x2 * 1048576)) = bits .or .u32 (bits .or .u32 (bits .or .u32 (bits .or .u32 (bits .or .u32 (a) (x0 * 128)) (b * 4096)) (x1 * 32768)) (x2 * 1048576)) (c * 33554432) by ac_rfl]
  rw [show bits .or .u32 (a) (x0 * 128) = a + x0 * 128 from or32_add 7 _ x0 (by omega) (by omega) (by omega) (by omega)]
  rw [show bits .or .u32 (a + x0 * 128) (b * 4096) = a + x0 * 128 + b * 4096 from or32_add 12 _ b (by omega) (by omega) (by omega) (by omega)]
  rw [show bits .or .u32 (a + x0 * 128 + b * 4096) (x1 * 32768) = a + x0 * 128 + b * 4096 + x1 * 32768 from or32_add 15 _ x1 (by omega) (by omega) (by omega) (by omega)]
  rw [show bits .or .u32 (a + x0 * 128 + b * 4096 + x1 * 32768) (x2 * 1048576) = a + x0 * 128 + b * 4096 + x1 * 32768 + x2 * 1048576 from or32_add 20 _ x2 (by omega) (by omega) (by omega) (by omega)]
  rw [show bits .or .u32 (a + x0 * 128 + b * 4096 + x1 * 32768 + x2 * 1048576) (c * 33554432) = a + x0 * 128 + b * 4096 + x1 * 32768 + x2 * 1048576 + c * 33554432 from or32_add 25 _ c (by omega) (by omega) (by omega) (by omega)]
theorem join_I (x0 x1 x2 : Int) (hx0 : 0 ≤ x0 ∧ x0 < 32) (hx1 : 0 ≤ x1 ∧ x1 < 32) (hx2 : 0 ≤ x2 ∧ x2 < 4096) : bits .or .u32 (bits .or .u32 (bits .or .u32 (0) (x0 * 128)) (x1 * 32768)) (x2 * 1048576) = x0 * 128 + x1 * 32768 + x2 * 1048576 := by
  rw [or32_zero (x0 * 128) (by omega) (by omega)]
  rw [show bits .or .u32 (x0 * 128) (x1 * 32768) = x0 * 128 + x1 * 32768 from or32_add 15 _ x1 (by omega) (by omega) (by omega) (by omega)]
  rw [show bits .or .u32 (x0 * 128 + x1 * 32768) (x2 * 1048576) = x0 * 128 + x1 * 32768 + x2 * 1048576 from or32_add 20 _ x2 (by omega) (by omega) (by omega) (by omega)]
theorem own_join_I (a b x0 x1 x2 : Int) (ha : 0 ≤ a ∧ a < 128) (hb : 0 ≤ b ∧ b < 8) (hx0 : 0 ≤ x0 ∧ x0 < 32) (hx1 : 0 ≤ x1 ∧ x1 < 32) (hx2 : 0 ≤ x2 ∧ x2 < 4096) : bits .or .u32 (bits .or .u32 a (b * 4096)) (bits .or .u32 (bits .or .u32 (bits .or .u32 (0) (x0 * 128)) (x1 * 32768)) (x2 * 1048576)) = a + x0 * 128 + b * 4096 + x1 * 32768 + x2 * 1048576 := by
  rw [or32_zero (x0 * 128) (by omega) (by omega)]
  rw [show bits .or .u32 (bits .or .u32 a (b * 4096)) (bits .or .u32 (bits .or .u32 (x0 * 128) (x1 * 32768)) (x2 * 1048576)) = bits .or .u32 (bits .or .u32 (bits .or .u32 (bits .or .u32 (a) (x0 * 128)) (b * 4096)) (x1 * 32768)) (x2 * 1048576) by ac_rfl]
  rw [show bits .or .u32 (a) (x0 * 128) = a + x0 * 128 from or32_add 7 _ x0 (by omega) (by omega) (by omega) (by omega)]
  rw [show bits .or .u32 (a + x0 * 128) (b * 4096) = a + x0 * 128 + b * 4096 from or32_add 12 _ b (by omega) (by omega) (by omega) (by omega)]
  rw [show bits .or .u32 (a + x0 * 128 + b * 4096) (x1 * 32768) = a + x0 * 128 + b * 4096 + x1 * 32768 from or32_add 15 _ x1 (by omega) (by omega) (by omega) (by omega)]
  rw [show bits .or .u32 (a + x0 * 128 + b * 4096 + x1 * 32768) (x2 * 1048576) = a + x0 * 128 + b * 4096 + x1 * 32768 + x2 * 1048576 from or32_add 20 _ x2 (by omega) (by omega) (by omega) (by omega)]
theorem join_X (x0 x1 x2 : Int) (hx0 : 0 ≤ x0 ∧ x0 < 32) (hx1 : 0 ≤ x1 ∧ x1 < 32) (hx2 : 0 ≤ x2 ∧ x2 < 64) : bits .or .u32 (bits .or .u32 (bits .or .u32 (0) (x0 * 128)) (x1 * 32768)) (x2 * 1048576) = x0 * 128 + x1 * 32768 + x2 * 1048576 := by
  rw [or32_zero (x0 * 128) (by omega) (by omega)]
  rw [show bits .or .u32 (x0 * 128) (x1 * 32768) = x0 * 128 + x1 * 32768 from or32_add 15 _ x1 (by omega) (by omega) (by omega) (by omega)]
  rw [show bits .or .u32 (x0 * 128 + x1 * 32768) (x2 * 1048576) = x0 * 128 + x1 * 32768 + x2 * 1048576 from or32_add 20 _ x2 (by omega) (by omega) (by omega) (by omega)]
theorem own_join_X (a b c x0 x1 x2 : Int) (ha : 0 ≤ a ∧ a < 128) (hb : 0 ≤ b ∧ b < 8) (hc : 0 ≤ c ∧ c < 64) (hx0 : 0 ≤ x0 ∧ x0 < 32) (hx1 : 0 ≤ x1 ∧ x1 < 32) (hx2 : 0 ≤ x2 ∧ x2 < 64) : bits .or .u32 (bits .or .u32 (bits .or .u32 a (b * 4096)) (c * 67108864)) (bits .or .u32 (bits .or .u32 (bits .or .u32 (0) (x0 * 128)) (x1 * 32768)) (x2 * 1048576)) = a + x0 * 128 + b * 4096 + x1 * 32768 + x2 * 1048576 + c * 67108864 := by
  rw [or32_zero (x0 * 128) (by omega) (by omega)]
  rw [show bits .or .u32 (bits .or .u32 (bits .or .u32 a (b * 4096)) (c * 67108864)) (bits .or .u32 (bits .or .u32 (x0 * 128) (x1 * 32768)) (x2 * 1048576)) = bits .or .u32 (bits .or .u32 (bits .or .u32 (bits .or .u32 (bits .or .u32 (a) (x0 * 128)) (b * 4096)) (x1 * 32768)) (x2 * 1048576)) (c * 67108864) by ac_rfl]
  rw [show bits .or .u32 (a) (x0 * 128) = a + x0 * 128 from or32_add 7 _ x0 (by omega) (by omega) (by omega) (by omega)]
  rw [show bits .or .u32 (a + x0 * 128) (b * 4096) = a + x0 * 128 + b * 4096 from or32_add 12 _ b (by omega) (by omega) (by omega) (by omega)]
  rw [show bits .or .u32 (a + x0 * 128 + b * 4096) (x1 * 32768) = a + x0 * 128 + b * 4096 + x1 * 32768 from or32_add 15 _ x1 (by omega) (by omega) (by omega) (by omega)]
  rw [show bits .or .u32 (a + x0 * 128 + b * 4096 + x1 * 32768) (x2 * 1048576) = a + x0 * 128 + b * 4096 + x1 * 32768 + x2 * 1048576 from or32_add 20 _ x2 (by omega) (by omega) (by omega) (by omega)]
  rw [show bits .or .u32 (a + x0 * 128 + b * 4096 + x1 * 32768 + x2 * 1048576) (c * 67108864) = a + x0 * 128 + b * 4096 + x1 * 32768 + x2 * 1048576 + c * 67108864 from or32_add 26 _ c (by omega) (by omega) (by omega) (by omega)]
theorem join_Y (x0 x1 x2 : Int) (hx0 : 0 ≤ x0 ∧ x0 < 32) (hx1 : 0 ≤ x1 ∧ x1 < 32) (hx2 : 0 ≤ x2 ∧ x2 < 32) : bits .or .u32 (bits .or .u32 (bits .or .u32 (0) (x0 * 128)) (x1 * 32768)) (x2 * 1048576) = x0 * 128 + x1 * 32768 + x2 * 1048576 := by
  rw [or32_zero (x0 * 128) (by omega) (by omega)]
  rw [show bits .or .u32 (x0 * 128) (x1 * 32768) = x0 * 128 + x1 * 32768 from or32_add 15 _ x1 (by omega) (by omega) (by omega) (by omega)]
  rw [show bits .or .u32 (x0 * 128 + x1 * 32768) (x2 * 1048576) = x0 * 128 + x1 * 32768 + x2 * 1048576 from or32_add 20 _ x2 (by omega) (by omega) (by omega) (by omega)]
theorem own_join_Y (a b c x0 x1 x2 : Int) (ha : 0 ≤ a ∧ a < 128) (hb : 0 ≤ b ∧ b < 8) (hc : 0 ≤ c ∧ c < 128) (hx0 : 0 ≤ x0 ∧ x0 < 32) (hx1 : 0 ≤ x1 ∧ x1 < 32) (hx2 : 0 ≤ x2 ∧ x2 < 32) : bits .or .u32 (bits .or .u32 (bits .or .u32 a (b * 4096)) (c * 33554432)) (bits .or .u32 (bits .or .u32 (bits .or .u32 (0) (x0 * 128)) (x1 * 32768)) (x2 * 1048576)) = a + x0 * 128 + b * 4096 + x1 * 32768 + x2 * 1048576 + c * 33554432 := by
  rw [or32_zero (x0 * 128) (by omega) (by omega)]
  rw [show bits .or .u32 (bits .or .u32 (bits .or .u32 a (b * 4096)) (c * 33554432)) (bits .or .u32 (bits .or .u32 (x0 * 128) (x1 * 32768)) (x2 * 1048576)) = bits .or .u32 (bits .or .u32 (bits .or .u32 (bits .or .u32 (bits .or .u32 (a) (x0 * 128)) (b * 4096)) (x1 * 32768)) (x2 * 1048576)) (c * 33554432) by ac_rfl]
  rw [show bits .or .u32 (a) (x0 * 128) = a + x0 * 128 from or32_add 7 _ x0 (by omega) (by omega) (by omega) (by omega)]
  rw [show bits .or .u32 (a + x0 * 128) (b * 4096) = a + x0 * 128 + b * 4096 from or32_add 12 _ b (by omega) (by omega) (by omega) (by omega)]
  rw [show bits .or .u32 (a + x0 * 128 + b * 4096) (x1 * 32768) = a + x0 * 128 + b * 4096 + x1 * 32768 from or32_add 15 _ x1 (by omega) (by omega) (by omega) (by omega)]
  rw [show bits .or .u32 (a + x0 * 128 + b * 4096 + x1 * 32768) (x2 * 1048576) = a + x0 * 128 + b * 4096 + x1 * 32768 + x2 * 1048576 from or32_add 20 _ x2 (by omega) (by omega) (by omega) (by omega)]
  rw [show bits .or .u32 (a + x0 * 128 + b * 4096 + x1 * 32768 + x2 * 1048576) (c * 33554432) = a + x0 * 128 + b * 4096 + x1 * 32768 + x2 * 1048576 + c * 33554432 from or32_add 25 _ c (by omega) (by omega) (by omega) (by omega)]
theorem join_S (x0 x1 x2 x3 : Int) (hx0 : 0 ≤ x0 ∧ x0 < 32) (hx1 : 0 ≤ x1 ∧ x1 < 32) (hx2 : 0 ≤ x2 ∧ x2 < 32) (hx3 : 0 ≤ x3 ∧ x3 < 128) : bits .or .u32 (bits .or .u32 (bits .or .u32 (bits .or .u32 (0) (x0 * 128)) (x1 * 32768)) (x2 * 1048576)) (x3 * 33554432) = x0 * 128 + x1 * 32768 + x2 * 1048576 + x3 * 33554432 := by
  rw [or32_zero (x0 * 128) (by omega) (by omega)]
  rw [show bits .or .u32 (x0 * 128) (x1 * 32768) = x0 * 128 + x1 * 32768 from or32_add 15 _ x1 (by omega) (by omega) (by omega) (by omega)]
  rw [show bits .or .u32 (x0 * 128 + x1 * 32768) (x2 * 1048576) = x0 * 128 + x1 * 32768 + x2 * 1048576 from or32_add 20 _ x2 (by omega) (by omega) (by omega) (by omega)]
  rw [show bits .or .u32 (x0 * 128 + x1 * 32768 + x2 * 1048576) (x3 * 33554432) = x0 * 128 + x1 * 32768 + x2 * 1048576 + x3 * 33554432 from or32_add 25 _ x3 (by omega) (by omega) (by omega) (by omega)]
theorem own_join_S (a b x0 x1 x2 x3 : Int) (ha : 0 ≤ a ∧ a < 128) (hb : 0 ≤ b ∧ b < 8) (hx0 : 0 ≤ x0 ∧ x0 < 32) (hx1 : 0 ≤ x1 ∧ x1 < 32) (hx2 : 0 ≤ x2 ∧ x2 < 32) (hx3 : 0 ≤ x3 ∧ x3 < 128) : bits .or .u32 (bits .or .u32 a (b * 4096)) (bits .or .u32 (bits .or .u32 (bits .or .u32 (bits .or .u32 (0) (x0 * 128)) (x1 * 32768)) (x2 * 1048576)) (x3 * 33554432)) = a + x0 * 128 + b * 4096 + x1 * 32768 + x2 * 1048576 + x3 * 33554432 := by
  rw [or32_zero (x0 * 128) (by omega) (by omega)]
  rw [show bits .or .u32 (bits .or .u32 a (b * 4096)) (bits .or .u32 (bits .or .u32 (bits .or .u32 (x0 * 128) (x1 * 32768)) (x2 * 1048576)) (x3 * 33554432)) = bits .or .u32 (bits .or .u32 (bits .or .u32 (bits .or .u32 (bits .or .u32 (a) (x0 * 128)) (b * 4096)) (x1 * 32768)) (x2 * 1048576)) (x3 * 33554432) by ac_rfl]
  rw [show bits .or .u32 (a) (x0 * 128) = a + x0 * 128 from or32_add 7 _ x0 (by omega) (by omega) (by omega) (by omega)]
  rw [show bits .or .u32 (a + x0 * 128) (b * 4096) = a + x0 * 128 + b * 4096 from or32_add 12 _ b (by omega) (by omega) (by omega) (by omega)]
  rw [show bits .or .u32 (a + x0 * 128 + b * 4096) (x1 * 32768) = a + x0 * 128 + b * 4096 + x1 * 32768 from or32_add 15 _ x1 (by omega) (by omega) (by omega) (by omega)]
  rw [show bits .or .u32 (a + x0 * 128 + b * 4096 + x1 * 32768) (x2 * 1048576) = a + x0 * 128 + b * 4096 + x1 * 32768 + x2 * 1048576 from or32_add 20 _ x2 (by omega) (by omega) (by omega) (by omega)]
  rw [show bits .or .u32 (a + x0 * 128 + b * 4096 + x1 * 32768 + x2 * 1048576) (x3 * 33554432) = a + x0 * 128 + b * 4096 + x1 * 32768 + x2 * 1048576 + x3 * 33554432 from or32_add 25 _ x3 (by omega) (by omega) (by omega) (by omega)]
theorem join_B (x0 x1 x2 x3 x4 x5 : Int) (hx0 : 0 ≤ x0 ∧ x0 < 2) (hx1 : 0 ≤ x1 ∧ x1 < 16) (hx2 : 0 ≤ x2 ∧ x2 < 32) (hx3 : 0 ≤ x3 ∧ x3 < 32) (hx4 : 0 ≤ x4 ∧ x4 < 64) (hx5 : 0 ≤ x5 ∧ x5 < 2) : bits .or .u32 (bits .or .u32 (bits .or .u32 (bits .or .u32 (bits .or .u32 (bits .or .u32 (0) (x0 * 128)) (x1 * 256)) (x2 * 32768)) (x3 * 1048576)) (x4 * 33554432)) (x5 * 2147483648) = x0 * 128 + x1 * 256 + x2 * 32768 + x3 * 1048576 + x4 * 33554432 + x5 * 2147483648 := by
  rw [or32_zero (x0 * 128) (by omega) (by omega)]
  rw [show bits .or .u32 (x0 * 128) (x1 * 256) = x0 * 128 + x1 * 256 from or32_add 8 _ x1 (by omega) (by omega) (by omega) (by omega)]
  rw [show bits .or .u32 (x0 * 128 + x1 * 256) (x2 * 32768) = x0 * 128 + x1 * 256 + x2 * 32768 from or32_add 15 _ x2 (by omega) (by omega) (by omega) (by omega)]
  rw [show bits .or .u32 (x0 * 128 + x1 * 256 + x2 * 32768) (x3 * 1048576) = x0 * 128 + x1 * 256 + x2 * 32768 + x3 * 1048576 from or32_add 20 _ x3 (by omega) (by omega) (by omega) (by omega)]
  rw [show bits .or .u32 (x0 * 128 + x1 * 256 + x2 * 32768 + x3 * 1048576) (x4 * 33554432) = x0 * 128 + x1 * 256 + x2 * 32768 + x3 * 1048576 + x4 * 33554432 from or32_add 25 _ x4 (by omega) (by omega) (by omega) (by omega)]
  rw [show bits .or .u32 (x0 * 128 + x1 * 256 + x2 * 32768 + x3 * 1048576 + x4 * 33554432) (x5 * 2147483648) = x0 * 128 + x1 * 256 + x2 * 32768 + x3 * 1048576 + x4 * 33554432 + x5 * 2147483648 from or32_add 31 _ x5 (by omega) (by omega) (by omega) (by omega)]
theorem own_join_B (a b x0 x1 x2 x3 x4 x5 : Int) (ha : 0 ≤ a ∧ a < 128) (hb : 0 ≤ b ∧ b < 8) (hx0 : 0 ≤ x0 ∧ x0 < 2) (hx1 : 0 ≤ x1 ∧ x1 < 16) (hx2 : 0 ≤ x2 ∧ x2 < 32) (hx3 : 0 ≤ x3 ∧ x3 < 32) (hx4 : 0 ≤ x4 ∧ x4 < 64) (hx5 : 0 ≤ x5 ∧ x5 < 2) : bits .or .u32 (bits .or .u32 a (b * 4096)) (bits .or .u32 (bits .or .u32 (bits .or .u32 (bits .or .u32 (bits .or .u32 (bits .or .u32 (0) (x0 * 128)) (x1 * 256)) (x2 * 32768)) (x3 * 1048576)) (x4 * 33554432)) (x5 * 2147483648)) = a + x0 * 128 + x1 * 256 + b * 4096 + x2 * 32768 + x3 * 1048576 + x4 * 33554432 + x5 * 2147483648 := by
  rw [or32_zero (x0 * 128) (by omega) (by omega)]
  rw [show bits .or .u32 (bits .or .u32 a (b * 4096)) (bits .or .u32 (bits .or .u32 (bits .or .u32 (bits .or .u32 (bits .or .u32 (x0 * 128) (x1 * 256)) (x2 * 32768)) (x3 * 1048576)) (x4 * 33554432)) (x5 * 2147483648)) = bits .or .u32 (bits .or .u32 (bits .or .u32 (bits .or .u32 (bits .or .u32 (bits .or .u32 (bits .or .u32 (a) (x0 * 128)) (x1 * 256)) (b * 4096)) (x2 * 32768)) (x3 * 1048576)) (x4 * 33554432)) (x5 * 2147483648) by ac_rfl]
  rw [show bits .or .u32 (a) (x0 * 128) = a + x0 * 128 from or32_add 7 _ x0 (by omega) (by omega) (by omega) (by omega)]
  rw [show bits .or .u32 (a + x0 * 128) (x1 * 256) = a + x0 * 128 + x1 * 256 from or32_add 8 _ x1 (by omega) (by omega) (by omega) (by omega)]
  rw [show bits .or .u32 (a + x0 * 128 + x1 * 256) (b * 4096) = a + x0 * 128 + x1 * 256 + b * 4096 from or32_add 12 _ b (by omega) (by omega) (by omega) (by omega)]
  rw [show bits .or .u32 (a + x0 * 128 + x1 * 256 + b * 4096) (x2 * 32768) = a + x0 * 128 + x1 * 256 + b * 4096 + x2 * 32768 from or32_add 15 _ x2 (by omega) (by omega) (by omega) (by omega)]
  rw [show bits .or .u32 (a + x0 * 128 + x1 * 256 + b * 4096 + x2 * 32768) (x3 * 1048576) = a + x0 * 128 + x1 * 256 + b * 4096 + x2 * 32768 + x3 * 1048576 from or32_add 20 _ x3 (by omega) (by omega) (by omega) (by omega)]
  rw [show bits .or .u32 (a + x0 * 128 + x1 * 256 + b * 4096 + x2 * 32768 + x3 * 1048576) (x4 * 33554432) = a + x0 * 128 + x1 * 256 + b * 4096 + x2 * 32768 + x3 * 1048576 + x4 * 33554432 from or32_add 25 _ x4 (by omega) (by omega) (by omega) (by omega)]
  rw [show bits .or .u32 (a + x0 * 128 + x1 * 256 + b * 4096 + x2 * 32768 + x3 * 1048576 + x4 * 33554432) (x5 * 2147483648) = a + x0 * 128 + x1 * 256 + b * 4096 + x2 * 32768 + x3 * 1048576 + x4 * 33554432 + x5 * 2147483648 from or32_add 31 _ x5 (by omega) (by omega) (by omega) (by omega)]
theorem join_U (x0 x1 : Int) (hx0 : 0 ≤ x0 ∧ x0 < 32) (hx1 : 0 ≤ x1 ∧ x1 < 1048576) : bits .or .u32 (bits .or .u32 (0) (x0 * 128)) (x1 * 4096) = x0 * 128 + x1 * 4096 := by
  rw [or32_zero (x0 * 128) (by omega) (by omega)]
  rw [show bits .or .u32 (x0 * 128) (x1 * 4096) = x0 * 128 + x1 * 4096 from or32_add 12 _ x1 (by omega) (by omega) (by omega) (by omega)]
theorem own_join_U (a b x0 x1 : Int) (ha : 0 ≤ a ∧ a < 128) (hb : 0 ≤ b ∧ b < 1) (hx0 : 0 ≤ x0 ∧ x0 < 32) (hx1 : 0 ≤ x1 ∧ x1 < 1048576) : bits .or .u32 (bits .or .u32 a (b * 4096)) (bits .or .u32 (bits .or .u32 (0) (x0 * 128)) (x1 * 4096)) = a + x0 * 128 + x1 * 4096 := by
  obtain rfl : b = 0 := by omega
  rw [show (0 : Int) * 4096 = 0 from rfl, or32_comm a 0, or32_zero a (by omega) (by omega)]
  rw [or32_zero (x0 * 128) (by omega) (by omega)]
  rw [show bits .or .u32 (a) (bits .or .u32 (x0 * 128) (x1 * 4096)) = bits .or .u32 (bits .or .u32 (a) (x0 * 128)) (x1 * 4096) by ac_rfl]
  rw [show bits .or .u32 (a) (x0 * 128) = a + x0 * 128 from or32_add 7 _ x0 (by omega) (by omega) (by omega) (by omega)]
  rw [show bits .or .u32 (a + x0 * 128) (x1 * 4096) = a + x0 * 128 + x1 * 4096 from or32_add 12 _ x1 (by omega) (by omega) (by omega) (by omega)]
theorem join_J (x0 x1 x2 x3 x4 : Int) (hx0 : 0 ≤ x0 ∧ x0 < 32) (hx1 : 0 ≤ x1 ∧ x1 < 256) (hx2 : 0 ≤ x2 ∧ x2 < 2) (hx3 : 0 ≤ x3 ∧ x3 < 1024) (hx4 : 0 ≤ x4 ∧ x4 < 2) : bits .or .u32 (bits .or .u32 (bits .or .u32 (bits .or .u32 (bits .or .u32 (0) (x0 * 128)) (x1 * 4096)) (x2 * 1048576)) (x3 * 2097152)) (x4 * 2147483648) = x0 * 128 + x1 * 4096 + x2 * 1048576 + x3 * 2097152 + x4 * 2147483648 := by
  rw [or32_zero (x0 * 128) (by omega) (by omega)]
  rw [show bits .or .u32 (x0 * 128) (x1 * 4096) = x0 * 128 + x1 * 4096 from or32_add 12 _ x1 (by omega) (by omega) (by omega) (by omega)]
  rw [show bits .or .u32 (x0 * 128 + x1 * 4096) (x2 * 1048576) = x0 * 128 + x1 * 4096 + x2 * 1048576 from or32_add 20 _ x2 (by omega) (by omega) (by omega) (by omega)]
  rw [show bits .or .u32 (x0 * 128 + x1 * 4096 + x2 * 1048576) (x3 * 2097152) = x0 * 128 + x1 * 4096 + x2 * 1048576 + x3 * 2097152 from or32_add 21 _ x3 (by omega) (by omega) (by omega) (by omega)]
  rw [show bits .or .u32 (x0 * 128 + x1 * 4096 + x2 * 1048576 + x3 * 2097152) (x4 * 2147483648) = x0 * 128 + x1 * 4096 + x2 * 1048576 + x3 * 2097152 + x4 * 2147483648 from or32_add 31 _ x4 (by omega) (by omega) (by omega) (by omega)]
theorem own_join_J (a b x0 x1 x2 x3 x4 : Int) (ha : 0 ≤ a ∧ a < 128) (hb : 0 ≤ b ∧ b < 1) (hx0 : 0 ≤ x0 ∧ x0 < 32) (hx1 : 0 ≤ x1 ∧ x1 < 256) (hx2 : 0 ≤ x2 ∧ x2 < 2) (hx3 : 0 ≤ x3 ∧ x3 < 1024) (hx4 : 0 ≤ x4 ∧ x4 < 2) : bits .or .u32 (bits .or .u32 a (b * 4096)) (bits .or .u32 (bits .or .u32 (bits .or .u32 (bits .or .u32 (bits .or .u32 (0) (x0 * 128)) (x1 * 4096)) (x2 * 1048576)) (x3 * 2097152)) (x4 * 2147483648)) = a + x0 * 128 + x1 * 4096 + x2 * 1048576 + x3 * 2097152 + x4 * 2147483648 := by
  obtain rfl : b = 0 := by omega
  rw [show (0 : Int) * 4096 = 0 from rfl, or32_comm a 0, or32_zero a (by omega) (by omega)]
  rw [or32_zero (x0 * 128) (by omega) (by omega)]
  rw [show bits .or .u32 (a) (bits .or .u32 (bits .or .u32 (bits .or .u32 (bits .or .u32 (x0 * 128) (x1 * 4096)) (x2 * 1048576)) (x3 * 2097152)) (x4 * 2147483648)) = bits .or .u32 (bits .or .u32 (bits .or .u32 (bits .or .u32 (bits .or .u32 (a) (x0 * 128)) (x1 * 4096)) (x2 * 1048576)) (x3 * 2097152)) (x4 * 2147483648) by ac_rfl]
  rw [show bits .or .u32 (a) (x0 * 128) = a + x0 * 128 from or32_add 7 _ x0 (by omega) (by omega) (by omega) (by omega)]
  rw [show bits .or .u32 (a + x0 * 128) (x1 * 4096) = a + x0 * 128 + x1 * 4096 from or32_add 12 _ x1 (by omega) (by omega) (by omega) (by omega)]
  rw [show bits .or .u32 (a + x0 * 128 + x1 * 4096) (x2 * 1048576) = a + x0 * 128 + x1 * 4096 + x2 * 1048576 from or32_add 20 _ x2 (by omega) (by omega) (by omega) (by omega)]
  rw [show bits .or .u32 (a + x0 * 128 + x1 * 4096 + x2 * 1048576) (x3 * 2097152) = a + x0 * 128 + x1 * 4096 + x2 * 1048576 + x3 * 2097152 from or32_add 21 _ x3 (by omega) (by omega) (by omega) (by omega)]
  rw [show bits .or .u32 (a + x0 * 128 + x1 * 4096 + x2 * 1048576 + x3 * 2097152) (x4 * 2147483648) = a + x0 * 128 + x1 * 4096 + x2 * 1048576 + x3 * 2097152 + x4 * 2147483648 from or32_add 31 _ x4 (by omega) (by omega) (by omega) (by omega)]
theorem own_join_E (a b : Int) (ha : 0 ≤ a ∧ a < 128) (hb : 0 ≤ b ∧ b < 1) : bits .or .u32 (bits .or .u32 a (b * 4096)) (0) = a := by
  obtain rfl : b = 0 := by omega
  rw [show (0 : Int) * 4096 = 0 from rfl, or32_comm a 0, or32_zero a (by omega) (by omega)]
  rw [or32_comm, or32_zero a (by omega) (by omega)]
end Go.Proofs.YtnaceogkaiodnaaGreat
namespace Go.Proofs.YtnaceogkaiodnaaGreat
open Go.RowKit
set_option linter.unusedVariables false
set_option linter.unusedSimpArgs false
theorem wrap32_sg {x : Int} (h : 0 ≤ x) (h' : x < 4294967296) : wrap32 x = if x < 2147483648 then x else x - 4294967296 := by
  unfold wrap32
  split <;> omega
/-- What split makes of a word. -/
structure SplitIs (f : RvForm) (x : Int) : Prop where
  s0 : splitV (fdsV f.letter) x 0 = (readsR f 0 x).rd
  s1 : splitV (fdsV f.letter) x 1 = (readsR f 0 x).rs1
  s2 : splitV (fdsV f.letter) x 2 = (readsR f 0 x).rs2
  s3 : splitV (fdsV f.letter) x 3 = (readsR f 0 x).imm

theorem fds_R : fdsV 82 = [⟨0, 0, 5, 7⟩, ⟨1, 0, 5, 15⟩, ⟨2, 0, 5, 20⟩] := rfl
theorem split_R (x : Int) (hx : 0 ≤ x) (hx' : x < 4294967296) : SplitIs .R x := by
  have hw := wrap32_sg hx hx'
  have e0 : splitV (fdsV 82) x 0 = bits .or .i64 (0) (x / 128 % 32) := by simp [splitV, fds_R, setN, Fd.take]
  have e1 : splitV (fdsV 82) x 1 = bits .or .i64 (0) (x / 32768 % 32) := by simp [splitV, fds_R, setN, Fd.take]
  have e2 : splitV (fdsV 82) x 2 = bits .or .i64 (0) (x / 1048576 % 32) := by simp [splitV, fds_R, setN, Fd.take]
  have e3 : splitV (fdsV 82) x 3 = 0 := by simp [splitV, fds_R, setN, Fd.take]
  rw [or64_zero (x / 128 % 32) (by omega) (by omega)] at e0
  rw [or64_zero (x / 32768 % 32) (by omega) (by omega)] at e1
  rw [or64_zero (x / 1048576 % 32) (by omega) (by omega)] at e2
  refine ⟨e0.trans ?_, e1.trans ?_, e2.trans ?_, e3.trans ?_⟩ <;> simp only [readsR, RvForm.hasRd, RvForm.has1, RvForm.has2, toldV, signedV, if_true, Bool.false_eq_true, if_false]

theorem fds_I : fdsV 73 = [⟨0, 0, 5, 7⟩, ⟨1, 0, 5, 15⟩, ⟨3, 0, 0, 20⟩] := rfl
theorem split_I (x : Int) (hx : 0 ≤ x) (hx' : x < 4294967296) : SplitIs .I x := by
  have hw := wrap32_sg hx hx'
  have e0 : splitV (fdsV 73) x 0 = bits .or .i64 (0) (x / 128 % 32) := by simp [splitV, fds_I, setN, Fd.take]
  have e1 : splitV (fdsV 73) x 1 = bits .or .i64 (0) (x / 32768 % 32) := by simp [splitV, fds_I, setN, Fd.take]
  have e2 : splitV (fdsV 73) x 2 = 0 := by simp [splitV, fds_I, setN, Fd.take]
  have e3 : splitV (fdsV 73) x 3 = bits .or .i64 (0) (wrap32 x / 1048576) := by simp [splitV, fds_I, setN, Fd.take]
  rw [or64_zero (x / 128 % 32) (by omega) (by omega)] at e0
  rw [or64_zero (x / 32768 % 32) (by omega) (by omega)] at e1
  have hb : -2147483648 ≤ wrap32 x ∧ wrap32 x < 2147483648 := by rw [hw]; split <;> omega
  rw [or64_zero (wrap32 x / 1048576) (by omega) (by omega)] at e3
  refine ⟨e0.trans ?_, e1.trans ?_, e2.trans ?_, e3.trans ?_⟩ <;> simp only [readsR, RvForm.hasRd, RvForm.has1, RvForm.has2, toldV, signedV, if_true, Bool.false_eq_true, if_false]
  all_goals (rw [hw]; split <;> split <;> omega)
theorem fds_X : fdsV 88 = [⟨0, 0, 5, 7⟩, ⟨1, 0, 5, 15⟩, ⟨3, 0, 6, 20⟩] := rfl
theorem split_X (x : Int) (hx : 0 ≤ x) (hx' : x < 4294967296) : SplitIs .X x := by
  have hw := wrap32_sg hx hx'
  have e0 : splitV (fdsV 88) x 0 = bits .or .i64 (0) (x / 128 % 32) := by simp [splitV, fds_X, setN, Fd.take]
  have e1 : splitV (fdsV 88) x 1 = bits .or .i64 (0) (x / 32768 % 32) := by simp [splitV, fds_X, setN, Fd.take]
  have e2 : splitV (fdsV 88) x 2 = 0 := by simp [splitV, fds_X, setN, Fd.take]
  have e3 : splitV (fdsV 88) x 3 = bits .or .i64 (0) (x / 1048576 % 64) := by simp [splitV, fds_X, setN, Fd.take]
  rw [or64_zero (x / 128 % 32) (by omega) (by omega)] at e0
  rw [or64_zero (x / 32768 % 32) (by omega) (by omega)] at e1
  have hb : -2147483648 ≤ wrap32 x ∧ wrap32 x < 2147483648 := by rw [hw]; split <;> omega
  rw [or64_zero (x / 1048576 % 64) (by omega) (by omega)] at e3
  refine ⟨e0.trans ?_, e1.trans ?_, e2.trans ?_, e3.trans ?_⟩ <;> simp only [readsR, RvForm.hasRd, RvForm.has1, RvForm.has2, toldV, signedV, if_true, Bool.false_eq_true, if_false]

theorem fds_Y : fdsV 89 = [⟨0, 0, 5, 7⟩, ⟨1, 0, 5, 15⟩, ⟨3, 0, 5, 20⟩] := rfl
theorem split_Y (x : Int) (hx : 0 ≤ x) (hx' : x < 4294967296) : SplitIs .Y x := by
  have hw := wrap32_sg hx hx'
  have e0 : splitV (fdsV 89) x 0 = bits .or .i64 (0) (x / 128 % 32) := by simp [splitV, fds_Y, setN, Fd.take]
  have e1 : splitV (fdsV 89) x 1 = bits .or .i64 (0) (x / 32768 % 32) := by simp [splitV, fds_Y, setN, Fd.take]
  have e2 : splitV (fdsV 89) x 2 = 0 := by simp [splitV, fds_Y, setN, Fd.take]
  have e3 : splitV (fdsV 89) x 3 = bits .or .i64 (0) (x / 1048576 % 32) := by simp [splitV, fds_Y, setN, Fd.take]
  rw [or64_zero (x / 128 % 32) (by omega) (by omega)] at e0
  rw [or64_zero (x / 32768 % 32) (by omega) (by omega)] at e1
  have hb : -2147483648 ≤ wrap32 x ∧ wrap32 x < 2147483648 := by rw [hw]; split <;> omega
  rw [or64_zero (x / 1048576 % 32) (by omega) (by omega)] at e3
  refine ⟨e0.trans ?_, e1.trans ?_, e2.trans ?_, e3.trans ?_⟩ <;> simp only [readsR, RvForm.hasRd, RvForm.has1, RvForm.has2, toldV, signedV, if_true, Bool.false_eq_true, if_false]

theorem fds_S : fdsV 83 = [⟨3, 0, 5, 7⟩, ⟨1, 0, 5, 15⟩, ⟨2, 0, 5, 20⟩, ⟨3, 5, 0, 25⟩] := rfl
theorem split_S (x : Int) (hx : 0 ≤ x) (hx' : x < 4294967296) : SplitIs .S x := by
  have hw := wrap32_sg hx hx'
  have e0 : splitV (fdsV 83) x 0 = 0 := by simp [splitV, fds_S, setN, Fd.take]
  have e1 : splitV (fdsV 83) x 1 = bits .or .i64 (0) (x / 32768 % 32) := by simp [splitV, fds_S, setN, Fd.take]
  have e2 : splitV (fdsV 83) x 2 = bits .or .i64 (0) (x / 1048576 % 32) := by simp [splitV, fds_S, setN, Fd.take]
  have e3 : splitV (fdsV 83) x 3 = bits .or .i64 (bits .or .i64 (0) (x / 128 % 32)) (wrap32 x / 33554432 * 32) := by simp [splitV, fds_S, setN, Fd.take]
  rw [or64_zero (x / 32768 % 32) (by omega) (by omega)] at e1
  rw [or64_zero (x / 1048576 % 32) (by omega) (by omega)] at e2
  have hb : -2147483648 ≤ wrap32 x ∧ wrap32 x < 2147483648 := by rw [hw]; split <;> omega
  rw [or64_zero (x / 128 % 32) (by omega) (by omega)] at e3
  rw [show bits .or .i64 (x / 128 % 32) (wrap32 x / 33554432 * 32) = x / 128 % 32 + wrap32 x / 33554432 * 32 from or64_add 5 _ (wrap32 x / 33554432) (by omega) (by omega) (by omega) (by omega)] at e3
  refine ⟨e0.trans ?_, e1.trans ?_, e2.trans ?_, e3.trans ?_⟩ <;> simp only [readsR, RvForm.hasRd, RvForm.has1, RvForm.has2, toldV, signedV, if_true, Bool.false_eq_true, if_false]
  all_goals (rw [hw]; split <;> split <;> omega)
theorem fds_B : fdsV 66 = [⟨3, 11, 1, 7⟩, ⟨3, 1, 4, 8⟩, ⟨1, 0, 5, 15⟩, ⟨2, 0, 5, 20⟩, ⟨3, 5, 6, 25⟩, ⟨3, 12, 0, 31⟩] := rfl
theorem split_B (x : Int) (hx : 0 ≤ x) (hx' : x < 4294967296) : SplitIs .B x := by
  have hw := wrap32_sg hx hx'
  have e0 : splitV (fdsV 66) x 0 = 0 := by simp [splitV, fds_B, setN, Fd.take]
  have e1 : splitV (fdsV 66) x 1 = bits .or .i64 (0) (x / 32768 % 32) := by simp [splitV, fds_B, setN, Fd.take]
  have e2 : splitV (fdsV 66) x 2 = bits .or .i64 (0) (x / 1048576 % 32) := by simp [splitV, fds_B, setN, Fd.take]
  have e3 : splitV (fdsV 66) x 3 = bits .or .i64 (bits .or .i64 (bits .or .i64 (bits .or .i64 (0) (x / 128 % 2 * 2048)) (x / 256 % 16 * 2)) (x / 33554432 % 64 * 32)) (wrap32 x / 2147483648 * 4096) := by simp [splitV, fds_B, setN, Fd.take]
  rw [or64_zero (x / 32768 % 32) (by omega) (by omega)] at e1
  rw [or64_zero (x / 1048576 % 32) (by omega) (by omega)] at e2
  have hb : -2147483648 ≤ wrap32 x ∧ wrap32 x < 2147483648 := by rw [hw]; split <;> omega
  rw [or64_zero (x / 128 % 2 * 2048) (by omega) (by omega)] at e3
  rw [show bits .or .i64 (bits .or .i64 (bits .or .i64 (x / 128 % 2 * 2048) (x / 256 % 16 * 2)) (x / 33554432 % 64 * 32)) (wrap32 x / 2147483648 * 4096) = bits .or .i64 (bits .or .i64 (bits .or .i64 (x / 256 % 16 * 2) (x / 33554432 % 64 * 32)) (x / 128 % 2 * 2048)) (wrap32 x / 2147483648 * 4096) by ac_rfl,
    show bits .or .i64 (x / 256 % 16 * 2) (x / 33554432 % 64 * 32) = x / 256 % 16 * 2 + x / 33554432 % 64 * 32 from or64_add 5 _ (x / 33554432 % 64) (by omega) (by omega) (by omega) (by omega),
    show bits .or .i64 (x / 256 % 16 * 2 + x / 33554432 % 64 * 32) (x / 128 % 2 * 2048) = x / 256 % 16 * 2 + x / 33554432 % 64 * 32 + x / 128 % 2 * 2048 from or64_add 11 _ (x / 128 % 2) (by omega) (by omega) (by omega) (by omega),
    show bits .or .i64 (x / 256 % 16 * 2 + x / 33554432 % 64 * 32 + x / 128 % 2 * 2048) (wrap32 x / 2147483648 * 4096) = x / 256 % 16 * 2 + x / 33554432 % 64 * 32 + x / 128 % 2 * 2048 + wrap32 x / 2147483648 * 4096 from or64_add 12 _ (wrap32 x / 2147483648) (by omega) (by omega) (by omega) (by omega)] at e3
  refine ⟨e0.trans ?_, e1.trans ?_, e2.trans ?_, e3.trans ?_⟩ <;> simp only [readsR, RvForm.hasRd, RvForm.has1, RvForm.has2, toldV, signedV, if_true, Bool.false_eq_true, if_false]
  all_goals (rw [hw]; split <;> split <;> omega)
theorem fds_U : fdsV 85 = [⟨0, 0, 5, 7⟩, ⟨3, 0, 0, 12⟩] := rfl
theorem split_U (x : Int) (hx : 0 ≤ x) (hx' : x < 4294967296) : SplitIs .U x := by
  have hw := wrap32_sg hx hx'
  have e0 : splitV (fdsV 85) x 0 = bits .or .i64 (0) (x / 128 % 32) := by simp [splitV, fds_U, setN, Fd.take]
  have e1 : splitV (fdsV 85) x 1 = 0 := by simp [splitV, fds_U, setN, Fd.take]
  have e2 : splitV (fdsV 85) x 2 = 0 := by simp [splitV, fds_U, setN, Fd.take]
  have e3 : splitV (fdsV 85) x 3 = bits .or .i64 (0) (wrap32 x / 4096) := by simp [splitV, fds_U, setN, Fd.take]
  rw [or64_zero (x / 128 % 32) (by omega) (by omega)] at e0
  have hb : -2147483648 ≤ wrap32 x ∧ wrap32 x < 2147483648 := by rw [hw]; split <;> omega
  rw [or64_zero (wrap32 x / 4096) (by omega) (by omega)] at e3
  refine ⟨e0.trans ?_, e1.trans ?_, e2.trans ?_, e3.trans ?_⟩ <;> simp only [readsR, RvForm.hasRd, RvForm.has1, RvForm.has2, toldV, signedV, if_true, Bool.false_eq_true, if_false]
  all_goals (rw [hw]; split <;> split <;> omega)
theorem fds_J : fdsV 74 = [⟨0, 0, 5, 7⟩, ⟨3, 12, 8, 12⟩, ⟨3, 11, 1, 20⟩, ⟨3, 1, 10, 21⟩, ⟨3, 20, 0, 31⟩] := rfl
theorem split_J (x : Int) (hx : 0 ≤ x) (hx' : x < 4294967296) : SplitIs .J x := by
  have hw := wrap32_sg hx hx'
  have e0 : splitV (fdsV 74) x 0 = bits .or .i64 (0) (x / 128 % 32) := by simp [splitV, fds_J, setN, Fd.take]
  have e1 : splitV (fdsV 74) x 1 = 0 := by simp [splitV, fds_J, setN, Fd.take]
  have e2 : splitV (fdsV 74) x 2 = 0 := by simp [splitV, fds_J, setN, Fd.take]
  have e3 : splitV (fdsV 74) x 3 = bits .or .i64 (bits .or .i64 (bits .or .i64 (bits .or .i64 (0) (x / 4096 % 256 * 4096)) (x / 1048576 % 2 * 2048)) (x / 2097152 % 1024 * 2)) (wrap32 x / 2147483648 * 1048576) := by simp [splitV, fds_J, setN, Fd.take]
  rw [or64_zero (x / 128 % 32) (by omega) (by omega)] at e0
  have hb : -2147483648 ≤ wrap32 x ∧ wrap32 x < 2147483648 := by rw [hw]; split <;> omega
  rw [or64_zero (x / 4096 % 256 * 4096) (by omega) (by omega)] at e3
  rw [show bits .or .i64 (bits .or .i64 (bits .or .i64 (x / 4096 % 256 * 4096) (x / 1048576 % 2 * 2048)) (x / 2097152 % 1024 * 2)) (wrap32 x / 2147483648 * 1048576) = bits .or .i64 (bits .or .i64 (bits .or .i64 (x / 2097152 % 1024 * 2) (x / 1048576 % 2 * 2048)) (x / 4096 % 256 * 4096)) (wrap32 x / 2147483648 * 1048576) by ac_rfl,
    show bits .or .i64 (x / 2097152 % 1024 * 2) (x / 1048576 % 2 * 2048) = x / 2097152 % 1024 * 2 + x / 1048576 % 2 * 2048 from or64_add 11 _ (x / 1048576 % 2) (by omega) (by omega) (by omega) (by omega),
    show bits .or .i64 (x / 2097152 % 1024 * 2 + x / 1048576 % 2 * 2048) (x / 4096 % 256 * 4096) = x / 2097152 % 1024 * 2 + x / 1048576 % 2 * 2048 + x / 4096 % 256 * 4096 from or64_add 12 _ (x / 4096 % 256) (by omega) (by omega) (by omega) (by omega),
    show bits .or .i64 (x / 2097152 % 1024 * 2 + x / 1048576 % 2 * 2048 + x / 4096 % 256 * 4096) (wrap32 x / 2147483648 * 1048576) = x / 2097152 % 1024 * 2 + x / 1048576 % 2 * 2048 + x / 4096 % 256 * 4096 + wrap32 x / 2147483648 * 1048576 from or64_add 20 _ (wrap32 x / 2147483648) (by omega) (by omega) (by omega) (by omega)] at e3
  refine ⟨e0.trans ?_, e1.trans ?_, e2.trans ?_, e3.trans ?_⟩ <;> simp only [readsR, RvForm.hasRd, RvForm.has1, RvForm.has2, toldV, signedV, if_true, Bool.false_eq_true, if_false]
  all_goals (rw [hw]; split <;> split <;> omega)
theorem fds_E : fdsV 69 = [] := rfl
theorem split_E (x : Int) (hx : 0 ≤ x) (hx' : x < 4294967296) : SplitIs .E x := by
  have hw := wrap32_sg hx hx'
  have e0 : splitV (fdsV 69) x 0 = 0 := by simp [splitV, fds_E, setN, Fd.take]
  have e1 : splitV (fdsV 69) x 1 = 0 := by simp [splitV, fds_E, setN, Fd.take]
  have e2 : splitV (fdsV 69) x 2 = 0 := by simp [splitV, fds_E, setN, Fd.take]
  have e3 : splitV (fdsV 69) x 3 = 0 := by simp [splitV, fds_E, setN, Fd.take]
  refine ⟨e0.trans ?_, e1.trans ?_, e2.trans ?_, e3.trans ?_⟩ <;> simp only [readsR, RvForm.hasRd, RvForm.has1, RvForm.has2, toldV, signedV, if_true, Bool.false_eq_true, if_false]

end Go.Proofs.YtnaceogkaiodnaaGreat
namespace Go.Proofs.YtnaceogkaiodnaaGreat
open Go.RowKit
set_option linter.unusedVariables false
set_option linter.unusedSimpArgs false
/-- What join comes to. -/
def jV (f : RvForm) (rd rs1 rs2 imm : Int) : Int := immV f imm + (if f.hasRd = true then rd % 32 * 128 else 0) + (if f.has1 = true then rs1 % 32 * 32768 else 0) + (if f.has2 = true then rs2 % 32 * 1048576 else 0)

theorem joinE_R (rd rs1 rs2 imm : Int) : joinV (fdsV 82) (num4 rd rs1 rs2 imm) = bits .or .u32 (bits .or .u32 (bits .or .u32 (0) (rd % 32 * 128)) (rs1 % 32 * 32768)) (rs2 % 32 * 1048576) := by
  simp [joinV, fds_R, num4, Fd.put]
theorem joinS_R (rd rs1 rs2 imm : Int) : joinV (fdsV 82) (num4 rd rs1 rs2 imm) = jV .R rd rs1 rs2 imm := by
  rw [joinE_R]
  rw [join_R (rd % 32) (rs1 % 32) (rs2 % 32) ⟨by omega, by omega⟩ ⟨by omega, by omega⟩ ⟨by omega, by omega⟩]
  simp only [jV, immV, RvForm.hasRd, RvForm.has1, RvForm.has2, if_true, Bool.false_eq_true, if_false]
  omega
theorem ownS_R (rd rs1 rs2 imm a b c : Int) (ha : 0 ≤ a ∧ a < 128) (hb : 0 ≤ b ∧ b < (RvForm.R.bLim : Int)) (hc : 0 ≤ c ∧ c < (RvForm.R.cLim : Int)) : bits .or .u32 (ownV .R a b c) (joinV (fdsV 82) (num4 rd rs1 rs2 imm)) = a + jV .R rd rs1 rs2 imm + b * 4096 + c * RvForm.R.cAt := by
  simp only [RvForm.bLim, RvForm.cLim] at hb hc
  rw [joinE_R]
  show bits .or .u32 (bits .or .u32 (bits .or .u32 a (b * 4096)) (c * 33554432 % 4294967296)) _ = _
  rw [show c * 33554432 % 4294967296 = c * 33554432 by omega]
  rw [own_join_R a b c (rd % 32) (rs1 % 32) (rs2 % 32) ⟨by omega, by omega⟩ ⟨by omega, by omega⟩ ⟨by omega, by omega⟩ ⟨by omega, by omega⟩ ⟨by omega, by omega⟩ ⟨by omega, by omega⟩]
  simp only [jV, immV, RvForm.hasRd, RvForm.has1, RvForm.has2, RvForm.cAt, if_true, Bool.false_eq_true, if_false]
  omega
theorem reads_ok_R (x : Int) : regOk (readsR .R 0 x).rd RvForm.R.hasRd ∧ regOk (readsR .R 0 x).rs1 RvForm.R.has1 ∧ regOk (readsR .R 0 x).rs2 RvForm.R.has2 ∧ immOk .R (readsR .R 0 x).imm := by
  simp only [readsR, regOk, immOk, toldV, signedV, RvForm.hasRd, RvForm.has1, RvForm.has2, if_true, Bool.false_eq_true, if_false]
  refine ⟨?_, ?_, ?_, ?_⟩ <;> (try trivial) <;> (try omega)
theorem joinE_I (rd rs1 rs2 imm : Int) : joinV (fdsV 73) (num4 rd rs1 rs2 imm) = bits .or .u32 (bits .or .u32 (bits .or .u32 (0) (rd % 32 * 128)) (rs1 % 32 * 32768)) (imm % 4096 * 1048576) := by
  have h0 : imm % 4294967296 * 1048576 % 4294967296 = imm % 4096 * 1048576 := by omega
  rw [← h0]
  simp [joinV, fds_I, num4, Fd.put]
theorem joinS_I (rd rs1 rs2 imm : Int) : joinV (fdsV 73) (num4 rd rs1 rs2 imm) = jV .I rd rs1 rs2 imm := by
  rw [joinE_I]
  rw [join_I (rd % 32) (rs1 % 32) (imm % 4096) ⟨by omega, by omega⟩ ⟨by omega, by omega⟩ ⟨by omega, by omega⟩]
  simp only [jV, immV, RvForm.hasRd, RvForm.has1, RvForm.has2, if_true, Bool.false_eq_true, if_false]
  omega
theorem ownS_I (rd rs1 rs2 imm a b c : Int) (ha : 0 ≤ a ∧ a < 128) (hb : 0 ≤ b ∧ b < (RvForm.I.bLim : Int)) (hc : 0 ≤ c ∧ c < (RvForm.I.cLim : Int)) : bits .or .u32 (ownV .I a b c) (joinV (fdsV 73) (num4 rd rs1 rs2 imm)) = a + jV .I rd rs1 rs2 imm + b * 4096 + c * RvForm.I.cAt := by
  simp only [RvForm.bLim, RvForm.cLim] at hb hc
  rw [joinE_I]
  show bits .or .u32 (bits .or .u32 a (b * 4096)) _ = _
  rw [own_join_I a b (rd % 32) (rs1 % 32) (imm % 4096) ⟨by omega, by omega⟩ ⟨by omega, by omega⟩ ⟨by omega, by omega⟩ ⟨by omega, by omega⟩ ⟨by omega, by omega⟩]
  simp only [jV, immV, RvForm.hasRd, RvForm.has1, RvForm.has2, RvForm.cAt, if_true, Bool.false_eq_true, if_false]
  omega
theorem reads_ok_I (x : Int) : regOk (readsR .I 0 x).rd RvForm.I.hasRd ∧ regOk (readsR .I 0 x).rs1 RvForm.I.has1 ∧ regOk (readsR .I 0 x).rs2 RvForm.I.has2 ∧ immOk .I (readsR .I 0 x).imm := by
  simp only [readsR, regOk, immOk, toldV, signedV, RvForm.hasRd, RvForm.has1, RvForm.has2, if_true, Bool.false_eq_true, if_false]
  refine ⟨?_, ?_, ?_, ?_⟩ <;> (try trivial) <;> (try omega)
theorem joinE_X (rd rs1 rs2 imm : Int) : joinV (fdsV 88) (num4 rd rs1 rs2 imm) = bits .or .u32 (bits .or .u32 (bits .or .u32 (0) (rd % 32 * 128)) (rs1 % 32 * 32768)) (imm % 64 * 1048576) := by
  simp [joinV, fds_X, num4, Fd.put]
theorem joinS_X (rd rs1 rs2 imm : Int) : joinV (fdsV 88) (num4 rd rs1 rs2 imm) = jV .X rd rs1 rs2 imm := by
  rw [joinE_X]
  rw [join_X (rd % 32) (rs1 % 32) (imm % 64) ⟨by omega, by omega⟩ ⟨by omega, by omega⟩ ⟨by omega, by omega⟩]
  simp only [jV, immV, RvForm.hasRd, RvForm.has1, RvForm.has2, if_true, Bool.false_eq_true, if_false]
  omega
theorem ownS_X (rd rs1 rs2 imm a b c : Int) (ha : 0 ≤ a ∧ a < 128) (hb : 0 ≤ b ∧ b < (RvForm.X.bLim : Int)) (hc : 0 ≤ c ∧ c < (RvForm.X.cLim : Int)) : bits .or .u32 (ownV .X a b c) (joinV (fdsV 88) (num4 rd rs1 rs2 imm)) = a + jV .X rd rs1 rs2 imm + b * 4096 + c * RvForm.X.cAt := by
  simp only [RvForm.bLim, RvForm.cLim] at hb hc
  rw [joinE_X]
  show bits .or .u32 (bits .or .u32 (bits .or .u32 a (b * 4096)) (c * 67108864 % 4294967296)) _ = _
  rw [show c * 67108864 % 4294967296 = c * 67108864 by omega]
  rw [own_join_X a b c (rd % 32) (rs1 % 32) (imm % 64) ⟨by omega, by omega⟩ ⟨by omega, by omega⟩ ⟨by omega, by omega⟩ ⟨by omega, by omega⟩ ⟨by omega, by omega⟩ ⟨by omega, by omega⟩]
  simp only [jV, immV, RvForm.hasRd, RvForm.has1, RvForm.has2, RvForm.cAt, if_true, Bool.false_eq_true, if_false]
  omega
theorem reads_ok_X (x : Int) : regOk (readsR .X 0 x).rd RvForm.X.hasRd ∧ regOk (readsR .X 0 x).rs1 RvForm.X.has1 ∧ regOk (readsR .X 0 x).rs2 RvForm.X.has2 ∧ immOk .X (readsR .X 0 x).imm := by
  simp only [readsR, regOk, immOk, toldV, signedV, RvForm.hasRd, RvForm.has1, RvForm.has2, if_true, Bool.false_eq_true, if_false]
  refine ⟨?_, ?_, ?_, ?_⟩ <;> (try trivial) <;> (try omega)
theorem joinE_Y (rd rs1 rs2 imm : Int) : joinV (fdsV 89) (num4 rd rs1 rs2 imm) = bits .or .u32 (bits .or .u32 (bits .or .u32 (0) (rd % 32 * 128)) (rs1 % 32 * 32768)) (imm % 32 * 1048576) := by
  simp [joinV, fds_Y, num4, Fd.put]
theorem joinS_Y (rd rs1 rs2 imm : Int) : joinV (fdsV 89) (num4 rd rs1 rs2 imm) = jV .Y rd rs1 rs2 imm := by
  rw [joinE_Y]
  rw [join_Y (rd % 32) (rs1 % 32) (imm % 32) ⟨by omega, by omega⟩ ⟨by omega, by omega⟩ ⟨by omega, by omega⟩]
  simp only [jV, immV, RvForm.hasRd, RvForm.has1, RvForm.has2, if_true, Bool.false_eq_true, if_false]
  omega
theorem ownS_Y (rd rs1 rs2 imm a b c : Int) (ha : 0 ≤ a ∧ a < 128) (hb : 0 ≤ b ∧ b < (RvForm.Y.bLim : Int)) (hc : 0 ≤ c ∧ c < (RvForm.Y.cLim : Int)) : bits .or .u32 (ownV .Y a b c) (joinV (fdsV 89) (num4 rd rs1 rs2 imm)) = a + jV .Y rd rs1 rs2 imm + b * 4096 + c * RvForm.Y.cAt := by
  simp only [RvForm.bLim, RvForm.cLim] at hb hc
  rw [joinE_Y]
  show bits .or .u32 (bits .or .u32 (bits .or .u32 a (b * 4096)) (c * 33554432 % 4294967296)) _ = _
  rw [show c * 33554432 % 4294967296 = c * 33554432 by omega]
  rw [own_join_Y a b c (rd % 32) (rs1 % 32) (imm % 32) ⟨by omega, by omega⟩ ⟨by omega, by omega⟩ ⟨by omega, by omega⟩ ⟨by omega, by omega⟩ ⟨by omega, by omega⟩ ⟨by omega, by omega⟩]
  simp only [jV, immV, RvForm.hasRd, RvForm.has1, RvForm.has2, RvForm.cAt, if_true, Bool.false_eq_true, if_false]
  omega
theorem reads_ok_Y (x : Int) : regOk (readsR .Y 0 x).rd RvForm.Y.hasRd ∧ regOk (readsR .Y 0 x).rs1 RvForm.Y.has1 ∧ regOk (readsR .Y 0 x).rs2 RvForm.Y.has2 ∧ immOk .Y (readsR .Y 0 x).imm := by
  simp only [readsR, regOk, immOk, toldV, signedV, RvForm.hasRd, RvForm.has1, RvForm.has2, if_true, Bool.false_eq_true, if_false]
  refine ⟨?_, ?_, ?_, ?_⟩ <;> (try trivial) <;> (try omega)
theorem joinE_S (rd rs1 rs2 imm : Int) : joinV (fdsV 83) (num4 rd rs1 rs2 imm) = bits .or .u32 (bits .or .u32 (bits .or .u32 (bits .or .u32 (0) (imm % 32 * 128)) (rs1 % 32 * 32768)) (rs2 % 32 * 1048576)) (imm / 32 % 128 * 33554432) := by
  have h0 : imm / 32 % 4294967296 * 33554432 % 4294967296 = imm / 32 % 128 * 33554432 := by omega
  rw [← h0]
  simp [joinV, fds_S, num4, Fd.put]
theorem joinS_S (rd rs1 rs2 imm : Int) : joinV (fdsV 83) (num4 rd rs1 rs2 imm) = jV .S rd rs1 rs2 imm := by
  rw [joinE_S]
  rw [join_S (imm % 32) (rs1 % 32) (rs2 % 32) (imm / 32 % 128) ⟨by omega, by omega⟩ ⟨by omega, by omega⟩ ⟨by omega, by omega⟩ ⟨by omega, by omega⟩]
  simp only [jV, immV, RvForm.hasRd, RvForm.has1, RvForm.has2, if_true, Bool.false_eq_true, if_false]
  omega
theorem ownS_S (rd rs1 rs2 imm a b c : Int) (ha : 0 ≤ a ∧ a < 128) (hb : 0 ≤ b ∧ b < (RvForm.S.bLim : Int)) (hc : 0 ≤ c ∧ c < (RvForm.S.cLim : Int)) : bits .or .u32 (ownV .S a b c) (joinV (fdsV 83) (num4 rd rs1 rs2 imm)) = a + jV .S rd rs1 rs2 imm + b * 4096 + c * RvForm.S.cAt := by
  simp only [RvForm.bLim, RvForm.cLim] at hb hc
  rw [joinE_S]
  show bits .or .u32 (bits .or .u32 a (b * 4096)) _ = _
  rw [own_join_S a b (imm % 32) (rs1 % 32) (rs2 % 32) (imm / 32 % 128) ⟨by omega, by omega⟩ ⟨by omega, by omega⟩ ⟨by omega, by omega⟩ ⟨by omega, by omega⟩ ⟨by omega, by omega⟩ ⟨by omega, by omega⟩]
  simp only [jV, immV, RvForm.hasRd, RvForm.has1, RvForm.has2, RvForm.cAt, if_true, Bool.false_eq_true, if_false]
  omega
theorem reads_ok_S (x : Int) : regOk (readsR .S 0 x).rd RvForm.S.hasRd ∧ regOk (readsR .S 0 x).rs1 RvForm.S.has1 ∧ regOk (readsR .S 0 x).rs2 RvForm.S.has2 ∧ immOk .S (readsR .S 0 x).imm := by
  simp only [readsR, regOk, immOk, toldV, signedV, RvForm.hasRd, RvForm.has1, RvForm.has2, if_true, Bool.false_eq_true, if_false]
  refine ⟨?_, ?_, ?_, ?_⟩ <;> (try trivial) <;> (try omega)
theorem joinE_B (rd rs1 rs2 imm : Int) : joinV (fdsV 66) (num4 rd rs1 rs2 imm) = bits .or .u32 (bits .or .u32 (bits .or .u32 (bits .or .u32 (bits .or .u32 (bits .or .u32 (0) (imm / 2048 % 2 * 128)) (imm / 2 % 16 * 256)) (rs1 % 32 * 32768)) (rs2 % 32 * 1048576)) (imm / 32 % 64 * 33554432)) (imm / 4096 % 2 * 2147483648) := by
  have h0 : imm / 4096 % 4294967296 * 2147483648 % 4294967296 = imm / 4096 % 2 * 2147483648 := by omega
  rw [← h0]
  simp [joinV, fds_B, num4, Fd.put]
theorem joinS_B (rd rs1 rs2 imm : Int) : joinV (fdsV 66) (num4 rd rs1 rs2 imm) = jV .B rd rs1 rs2 imm := by
  rw [joinE_B]
  rw [join_B (imm / 2048 % 2) (imm / 2 % 16) (rs1 % 32) (rs2 % 32) (imm / 32 % 64) (imm / 4096 % 2) ⟨by omega, by omega⟩ ⟨by omega, by omega⟩ ⟨by omega, by omega⟩ ⟨by omega, by omega⟩ ⟨by omega, by omega⟩ ⟨by omega, by omega⟩]
  simp only [jV, immV, RvForm.hasRd, RvForm.has1, RvForm.has2, if_true, Bool.false_eq_true, if_false]
  omega
theorem ownS_B (rd rs1 rs2 imm a b c : Int) (ha : 0 ≤ a ∧ a < 128) (hb : 0 ≤ b ∧ b < (RvForm.B.bLim : Int)) (hc : 0 ≤ c ∧ c < (RvForm.B.cLim : Int)) : bits .or .u32 (ownV .B a b c) (joinV (fdsV 66) (num4 rd rs1 rs2 imm)) = a + jV .B rd rs1 rs2 imm + b * 4096 + c * RvForm.B.cAt := by
  simp only [RvForm.bLim, RvForm.cLim] at hb hc
  rw [joinE_B]
  show bits .or .u32 (bits .or .u32 a (b * 4096)) _ = _
  rw [own_join_B a b (imm / 2048 % 2) (imm / 2 % 16) (rs1 % 32) (rs2 % 32) (imm / 32 % 64) (imm / 4096 % 2) ⟨by omega, by omega⟩ ⟨by omega, by omega⟩ ⟨by omega, by omega⟩ ⟨by omega, by omega⟩ ⟨by omega, by omega⟩ ⟨by omega, by omega⟩ ⟨by omega, by omega⟩ ⟨by omega, by omega⟩]
  simp only [jV, immV, RvForm.hasRd, RvForm.has1, RvForm.has2, RvForm.cAt, if_true, Bool.false_eq_true, if_false]
  omega
theorem reads_ok_B (x : Int) : regOk (readsR .B 0 x).rd RvForm.B.hasRd ∧ regOk (readsR .B 0 x).rs1 RvForm.B.has1 ∧ regOk (readsR .B 0 x).rs2 RvForm.B.has2 ∧ immOk .B (readsR .B 0 x).imm := by
  simp only [readsR, regOk, immOk, toldV, signedV, RvForm.hasRd, RvForm.has1, RvForm.has2, if_true, Bool.false_eq_true, if_false]
  refine ⟨?_, ?_, ?_, ?_⟩ <;> (try trivial) <;> (try omega)
theorem joinE_U (rd rs1 rs2 imm : Int) : joinV (fdsV 85) (num4 rd rs1 rs2 imm) = bits .or .u32 (bits .or .u32 (0) (rd % 32 * 128)) (imm % 1048576 * 4096) := by
  have h0 : imm % 4294967296 * 4096 % 4294967296 = imm % 1048576 * 4096 := by omega
  rw [← h0]
  simp [joinV, fds_U, num4, Fd.put]
theorem joinS_U (rd rs1 rs2 imm : Int) : joinV (fdsV 85) (num4 rd rs1 rs2 imm) = jV .U rd rs1 rs2 imm := by
  rw [joinE_U]
  rw [join_U (rd % 32) (imm % 1048576) ⟨by omega, by omega⟩ ⟨by omega, by omega⟩]
  simp only [jV, immV, RvForm.hasRd, RvForm.has1, RvForm.has2, if_true, Bool.false_eq_true, if_false]
  omega
theorem ownS_U (rd rs1 rs2 imm a b c : Int) (ha : 0 ≤ a ∧ a < 128) (hb : 0 ≤ b ∧ b < (RvForm.U.bLim : Int)) (hc : 0 ≤ c ∧ c < (RvForm.U.cLim : Int)) : bits .or .u32 (ownV .U a b c) (joinV (fdsV 85) (num4 rd rs1 rs2 imm)) = a + jV .U rd rs1 rs2 imm + b * 4096 + c * RvForm.U.cAt := by
  simp only [RvForm.bLim, RvForm.cLim] at hb hc
  rw [joinE_U]
  show bits .or .u32 (bits .or .u32 a (b * 4096)) _ = _
  rw [own_join_U a b (rd % 32) (imm % 1048576) ⟨by omega, by omega⟩ ⟨by omega, by omega⟩ ⟨by omega, by omega⟩ ⟨by omega, by omega⟩]
  simp only [jV, immV, RvForm.hasRd, RvForm.has1, RvForm.has2, RvForm.cAt, if_true, Bool.false_eq_true, if_false]
  omega
theorem reads_ok_U (x : Int) : regOk (readsR .U 0 x).rd RvForm.U.hasRd ∧ regOk (readsR .U 0 x).rs1 RvForm.U.has1 ∧ regOk (readsR .U 0 x).rs2 RvForm.U.has2 ∧ immOk .U (readsR .U 0 x).imm := by
  simp only [readsR, regOk, immOk, toldV, signedV, RvForm.hasRd, RvForm.has1, RvForm.has2, if_true, Bool.false_eq_true, if_false]
  refine ⟨?_, ?_, ?_, ?_⟩ <;> (try trivial) <;> (try omega)
theorem joinE_J (rd rs1 rs2 imm : Int) : joinV (fdsV 74) (num4 rd rs1 rs2 imm) = bits .or .u32 (bits .or .u32 (bits .or .u32 (bits .or .u32 (bits .or .u32 (0) (rd % 32 * 128)) (imm / 4096 % 256 * 4096)) (imm / 2048 % 2 * 1048576)) (imm / 2 % 1024 * 2097152)) (imm / 1048576 % 2 * 2147483648) := by
  have h0 : imm / 1048576 % 4294967296 * 2147483648 % 4294967296 = imm / 1048576 % 2 * 2147483648 := by omega
  rw [← h0]
  simp [joinV, fds_J, num4, Fd.put]
theorem joinS_J (rd rs1 rs2 imm : Int) : joinV (fdsV 74) (num4 rd rs1 rs2 imm) = jV .J rd rs1 rs2 imm := by
  rw [joinE_J]
  rw [join_J (rd % 32) (imm / 4096 % 256) (imm / 2048 % 2) (imm / 2 % 1024) (imm / 1048576 % 2) ⟨by omega, by omega⟩ ⟨by omega, by omega⟩ ⟨by omega, by omega⟩ ⟨by omega, by omega⟩ ⟨by omega, by omega⟩]
  simp only [jV, immV, RvForm.hasRd, RvForm.has1, RvForm.has2, if_true, Bool.false_eq_true, if_false]
  omega
theorem ownS_J (rd rs1 rs2 imm a b c : Int) (ha : 0 ≤ a ∧ a < 128) (hb : 0 ≤ b ∧ b < (RvForm.J.bLim : Int)) (hc : 0 ≤ c ∧ c < (RvForm.J.cLim : Int)) : bits .or .u32 (ownV .J a b c) (joinV (fdsV 74) (num4 rd rs1 rs2 imm)) = a + jV .J rd rs1 rs2 imm + b * 4096 + c * RvForm.J.cAt := by
  simp only [RvForm.bLim, RvForm.cLim] at hb hc
  rw [joinE_J]
  show bits .or .u32 (bits .or .u32 a (b * 4096)) _ = _
  rw [own_join_J a b (rd % 32) (imm / 4096 % 256) (imm / 2048 % 2) (imm / 2 % 1024) (imm / 1048576 % 2) ⟨by omega, by omega⟩ ⟨by omega, by omega⟩ ⟨by omega, by omega⟩ ⟨by omega, by omega⟩ ⟨by omega, by omega⟩ ⟨by omega, by omega⟩ ⟨by omega, by omega⟩]
  simp only [jV, immV, RvForm.hasRd, RvForm.has1, RvForm.has2, RvForm.cAt, if_true, Bool.false_eq_true, if_false]
  omega
theorem reads_ok_J (x : Int) : regOk (readsR .J 0 x).rd RvForm.J.hasRd ∧ regOk (readsR .J 0 x).rs1 RvForm.J.has1 ∧ regOk (readsR .J 0 x).rs2 RvForm.J.has2 ∧ immOk .J (readsR .J 0 x).imm := by
  simp only [readsR, regOk, immOk, toldV, signedV, RvForm.hasRd, RvForm.has1, RvForm.has2, if_true, Bool.false_eq_true, if_false]
  refine ⟨?_, ?_, ?_, ?_⟩ <;> (try trivial) <;> (try omega)
theorem joinE_E (rd rs1 rs2 imm : Int) : joinV (fdsV 69) (num4 rd rs1 rs2 imm) = 0 := by
  simp [joinV, fds_E, num4, Fd.put]
theorem joinS_E (rd rs1 rs2 imm : Int) : joinV (fdsV 69) (num4 rd rs1 rs2 imm) = jV .E rd rs1 rs2 imm := by
  rw [joinE_E]
  simp only [jV, immV, RvForm.hasRd, RvForm.has1, RvForm.has2, if_true, Bool.false_eq_true, if_false]
  try omega
theorem ownS_E (rd rs1 rs2 imm a b c : Int) (ha : 0 ≤ a ∧ a < 128) (hb : 0 ≤ b ∧ b < (RvForm.E.bLim : Int)) (hc : 0 ≤ c ∧ c < (RvForm.E.cLim : Int)) : bits .or .u32 (ownV .E a b c) (joinV (fdsV 69) (num4 rd rs1 rs2 imm)) = a + jV .E rd rs1 rs2 imm + b * 4096 + c * RvForm.E.cAt := by
  simp only [RvForm.bLim, RvForm.cLim] at hb hc
  rw [joinE_E]
  show bits .or .u32 (bits .or .u32 a (b * 4096)) _ = _
  rw [own_join_E a b  ⟨by omega, by omega⟩ ⟨by omega, by omega⟩ ]
  simp only [jV, immV, RvForm.hasRd, RvForm.has1, RvForm.has2, RvForm.cAt, if_true, Bool.false_eq_true, if_false]
  omega
theorem reads_ok_E (x : Int) : regOk (readsR .E 0 x).rd RvForm.E.hasRd ∧ regOk (readsR .E 0 x).rs1 RvForm.E.has1 ∧ regOk (readsR .E 0 x).rs2 RvForm.E.has2 ∧ immOk .E (readsR .E 0 x).imm := by
  simp only [readsR, regOk, immOk, toldV, signedV, RvForm.hasRd, RvForm.has1, RvForm.has2, if_true, Bool.false_eq_true, if_false]
  refine ⟨?_, ?_, ?_, ?_⟩ <;> (try trivial) <;> (try omega)
theorem chunk_R (x : Int) (hx : 0 ≤ x) (hx' : x < 4294967296) : x = x % 128 + x / 128 % 32 * 128 + x / 4096 % 8 * 4096 + x / 32768 % 32 * 32768 + x / 1048576 % 32 * 1048576 + x / 33554432 % 128 * 33554432 := by
  have q7 : x / 128 = x / 128 := rfl
  have q12 : x / 4096 = x / 128 / 32 := by omega
  have q15 : x / 32768 = x / 4096 / 8 := by omega
  have q20 : x / 1048576 = x / 32768 / 32 := by omega
  have q25 : x / 33554432 = x / 1048576 / 32 := by omega
  have r0 : x = x % 128 + x / 128 * 128 := by omega
  have r7 : x / 128 = x / 128 % 32 + x / 4096 * 32 := by omega
  have r12 : x / 4096 = x / 4096 % 8 + x / 32768 * 8 := by omega
  have r15 : x / 32768 = x / 32768 % 32 + x / 1048576 * 32 := by omega
  have r20 : x / 1048576 = x / 1048576 % 32 + x / 33554432 * 32 := by omega
  have rl : x / 33554432 = x / 33554432 % 128 := by omega
  generalize x / 33554432 = g25 at *
  generalize x / 1048576 = g20 at *
  generalize x / 32768 = g15 at *
  generalize x / 4096 = g12 at *
  generalize x / 128 = g7 at *
  omega
theorem chunk_I (x : Int) (hx : 0 ≤ x) (hx' : x < 4294967296) : x = x % 128 + x / 128 % 32 * 128 + x / 4096 % 8 * 4096 + x / 32768 % 32 * 32768 + x / 1048576 % 4096 * 1048576 := by
  have q7 : x / 128 = x / 128 := rfl
  have q12 : x / 4096 = x / 128 / 32 := by omega
  have q15 : x / 32768 = x / 4096 / 8 := by omega
  have q20 : x / 1048576 = x / 32768 / 32 := by omega
  have r0 : x = x % 128 + x / 128 * 128 := by omega
  have r7 : x / 128 = x / 128 % 32 + x / 4096 * 32 := by omega
  have r12 : x / 4096 = x / 4096 % 8 + x / 32768 * 8 := by omega
  have r15 : x / 32768 = x / 32768 % 32 + x / 1048576 * 32 := by omega
  have rl : x / 1048576 = x / 1048576 % 4096 := by omega
  generalize x / 1048576 = g20 at *
  generalize x / 32768 = g15 at *
  generalize x / 4096 = g12 at *
  generalize x / 128 = g7 at *
  omega
theorem imm_told_I (x : Int) : immV .I (toldV .I x) = x / 1048576 % 4096 * 1048576 := by
  simp only [immV, toldV, signedV]
  have b0 : 0 ≤ x / 1048576 % 4096 ∧ x / 1048576 % 4096 < 4096 := by omega
  generalize x / 1048576 % 4096 = g0 at *
  first | omega | (split <;> omega) | (repeat' apply congrArg₂) <;> (split <;> omega)
theorem chunk_X (x : Int) (hx : 0 ≤ x) (hx' : x < 4294967296) : x = x % 128 + x / 128 % 32 * 128 + x / 4096 % 8 * 4096 + x / 32768 % 32 * 32768 + x / 1048576 % 64 * 1048576 + x / 67108864 % 64 * 67108864 := by
  have q7 : x / 128 = x / 128 := rfl
  have q12 : x / 4096 = x / 128 / 32 := by omega
  have q15 : x / 32768 = x / 4096 / 8 := by omega
  have q20 : x / 1048576 = x / 32768 / 32 := by omega
  have q26 : x / 67108864 = x / 1048576 / 64 := by omega
  have r0 : x = x % 128 + x / 128 * 128 := by omega
  have r7 : x / 128 = x / 128 % 32 + x / 4096 * 32 := by omega
  have r12 : x / 4096 = x / 4096 % 8 + x / 32768 * 8 := by omega
  have r15 : x / 32768 = x / 32768 % 32 + x / 1048576 * 32 := by omega
  have r20 : x / 1048576 = x / 1048576 % 64 + x / 67108864 * 64 := by omega
  have rl : x / 67108864 = x / 67108864 % 64 := by omega
  generalize x / 67108864 = g26 at *
  generalize x / 1048576 = g20 at *
  generalize x / 32768 = g15 at *
  generalize x / 4096 = g12 at *
  generalize x / 128 = g7 at *
  omega
theorem imm_told_X (x : Int) : immV .X (toldV .X x) = x / 1048576 % 64 * 1048576 := by
  simp only [immV, toldV, signedV]
  have b0 : 0 ≤ x / 1048576 % 64 ∧ x / 1048576 % 64 < 64 := by omega
  generalize x / 1048576 % 64 = g0 at *
  first | omega | (split <;> omega) | (repeat' apply congrArg₂) <;> (split <;> omega)
theorem chunk_Y (x : Int) (hx : 0 ≤ x) (hx' : x < 4294967296) : x = x % 128 + x / 128 % 32 * 128 + x / 4096 % 8 * 4096 + x / 32768 % 32 * 32768 + x / 1048576 % 32 * 1048576 + x / 33554432 % 128 * 33554432 := by
  have q7 : x / 128 = x / 128 := rfl
  have q12 : x / 4096 = x / 128 / 32 := by omega
  have q15 : x / 32768 = x / 4096 / 8 := by omega
  have q20 : x / 1048576 = x / 32768 / 32 := by omega
  have q25 : x / 33554432 = x / 1048576 / 32 := by omega
  have r0 : x = x % 128 + x / 128 * 128 := by omega
  have r7 : x / 128 = x / 128 % 32 + x / 4096 * 32 := by omega
  have r12 : x / 4096 = x / 4096 % 8 + x / 32768 * 8 := by omega
  have r15 : x / 32768 = x / 32768 % 32 + x / 1048576 * 32 := by omega
  have r20 : x / 1048576 = x / 1048576 % 32 + x / 33554432 * 32 := by omega
  have rl : x / 33554432 = x / 33554432 % 128 := by omega
  generalize x / 33554432 = g25 at *
  generalize x / 1048576 = g20 at *
  generalize x / 32768 = g15 at *
  generalize x / 4096 = g12 at *
  generalize x / 128 = g7 at *
  omega
theorem imm_told_Y (x : Int) : immV .Y (toldV .Y x) = x / 1048576 % 32 * 1048576 := by
  simp only [immV, toldV, signedV]
  have b0 : 0 ≤ x / 1048576 % 32 ∧ x / 1048576 % 32 < 32 := by omega
  generalize x / 1048576 % 32 = g0 at *
  first | omega | (split <;> omega) | (repeat' apply congrArg₂) <;> (split <;> omega)
theorem chunk_S (x : Int) (hx : 0 ≤ x) (hx' : x < 4294967296) : x = x % 128 + x / 128 % 32 * 128 + x / 4096 % 8 * 4096 + x / 32768 % 32 * 32768 + x / 1048576 % 32 * 1048576 + x / 33554432 % 128 * 33554432 := by
  have q7 : x / 128 = x / 128 := rfl
  have q12 : x / 4096 = x / 128 / 32 := by omega
  have q15 : x / 32768 = x / 4096 / 8 := by omega
  have q20 : x / 1048576 = x / 32768 / 32 := by omega
  have q25 : x / 33554432 = x / 1048576 / 32 := by omega
  have r0 : x = x % 128 + x / 128 * 128 := by omega
  have r7 : x / 128 = x / 128 % 32 + x / 4096 * 32 := by omega
  have r12 : x / 4096 = x / 4096 % 8 + x / 32768 * 8 := by omega
  have r15 : x / 32768 = x / 32768 % 32 + x / 1048576 * 32 := by omega
  have r20 : x / 1048576 = x / 1048576 % 32 + x / 33554432 * 32 := by omega
  have rl : x / 33554432 = x / 33554432 % 128 := by omega
  generalize x / 33554432 = g25 at *
  generalize x / 1048576 = g20 at *
  generalize x / 32768 = g15 at *
  generalize x / 4096 = g12 at *
  generalize x / 128 = g7 at *
  omega
theorem imm_told_S (x : Int) : immV .S (toldV .S x) = x / 128 % 32 * 128 + x / 33554432 % 128 * 33554432 := by
  simp only [immV, toldV, signedV]
  have b0 : 0 ≤ x / 128 % 32 ∧ x / 128 % 32 < 32 := by omega
  have b1 : 0 ≤ x / 33554432 % 128 ∧ x / 33554432 % 128 < 128 := by omega
  generalize x / 128 % 32 = g0 at *
  generalize x / 33554432 % 128 = g1 at *
  first | omega | (split <;> omega) | (repeat' apply congrArg₂) <;> (split <;> omega)
theorem chunk_B (x : Int) (hx : 0 ≤ x) (hx' : x < 4294967296) : x = x % 128 + x / 128 % 2 * 128 + x / 256 % 16 * 256 + x / 4096 % 8 * 4096 + x / 32768 % 32 * 32768 + x / 1048576 % 32 * 1048576 + x / 33554432 % 64 * 33554432 + x / 2147483648 % 2 * 2147483648 := by
  have q7 : x / 128 = x / 128 := rfl
  have q8 : x / 256 = x / 128 / 2 := by omega
  have q12 : x / 4096 = x / 256 / 16 := by omega
  have q15 : x / 32768 = x / 4096 / 8 := by omega
  have q20 : x / 1048576 = x / 32768 / 32 := by omega
  have q25 : x / 33554432 = x / 1048576 / 32 := by omega
  have q31 : x / 2147483648 = x / 33554432 / 64 := by omega
  have r0 : x = x % 128 + x / 128 * 128 := by omega
  have r7 : x / 128 = x / 128 % 2 + x / 256 * 2 := by omega
  have r8 : x / 256 = x / 256 % 16 + x / 4096 * 16 := by omega
  have r12 : x / 4096 = x / 4096 % 8 + x / 32768 * 8 := by omega
  have r15 : x / 32768 = x / 32768 % 32 + x / 1048576 * 32 := by omega
  have r20 : x / 1048576 = x / 1048576 % 32 + x / 33554432 * 32 := by omega
  have r25 : x / 33554432 = x / 33554432 % 64 + x / 2147483648 * 64 := by omega
  have rl : x / 2147483648 = x / 2147483648 % 2 := by omega
  generalize x / 2147483648 = g31 at *
  generalize x / 33554432 = g25 at *
  generalize x / 1048576 = g20 at *
  generalize x / 32768 = g15 at *
  generalize x / 4096 = g12 at *
  generalize x / 256 = g8 at *
  generalize x / 128 = g7 at *
  omega
theorem imm_told_B (x : Int) : immV .B (toldV .B x) = x / 128 % 2 * 128 + x / 256 % 16 * 256 + x / 33554432 % 64 * 33554432 + x / 2147483648 % 2 * 2147483648 := by
  simp only [immV, toldV, signedV]
  have b0 : 0 ≤ x / 128 % 2 ∧ x / 128 % 2 < 2 := by omega
  have b1 : 0 ≤ x / 256 % 16 ∧ x / 256 % 16 < 16 := by omega
  have b2 : 0 ≤ x / 33554432 % 64 ∧ x / 33554432 % 64 < 64 := by omega
  have b3 : 0 ≤ x / 2147483648 % 2 ∧ x / 2147483648 % 2 < 2 := by omega
  generalize x / 128 % 2 = g0 at *
  generalize x / 256 % 16 = g1 at *
  generalize x / 33554432 % 64 = g2 at *
  generalize x / 2147483648 % 2 = g3 at *
  first | omega | (split <;> omega) | (repeat' apply congrArg₂) <;> (split <;> omega)
theorem chunk_U (x : Int) (hx : 0 ≤ x) (hx' : x < 4294967296) : x = x % 128 + x / 128 % 32 * 128 + x / 4096 % 1048576 * 4096 := by
  have q7 : x / 128 = x / 128 := rfl
  have q12 : x / 4096 = x / 128 / 32 := by omega
  have r0 : x = x % 128 + x / 128 * 128 := by omega
  have r7 : x / 128 = x / 128 % 32 + x / 4096 * 32 := by omega
  have rl : x / 4096 = x / 4096 % 1048576 := by omega
  generalize x / 4096 = g12 at *
  generalize x / 128 = g7 at *
  omega
theorem imm_told_U (x : Int) : immV .U (toldV .U x) = x / 4096 % 1048576 * 4096 := by
  simp only [immV, toldV, signedV]
  have b0 : 0 ≤ x / 4096 % 1048576 ∧ x / 4096 % 1048576 < 1048576 := by omega
  generalize x / 4096 % 1048576 = g0 at *
  first | omega | (split <;> omega) | (repeat' apply congrArg₂) <;> (split <;> omega)
theorem chunk_J (x : Int) (hx : 0 ≤ x) (hx' : x < 4294967296) : x = x % 128 + x / 128 % 32 * 128 + x / 4096 % 256 * 4096 + x / 1048576 % 2 * 1048576 + x / 2097152 % 1024 * 2097152 + x / 2147483648 % 2 * 2147483648 := by
  have q7 : x / 128 = x / 128 := rfl
  have q12 : x / 4096 = x / 128 / 32 := by omega
  have q20 : x / 1048576 = x / 4096 / 256 := by omega
  have q21 : x / 2097152 = x / 1048576 / 2 := by omega
  have q31 : x / 2147483648 = x / 2097152 / 1024 := by omega
  have r0 : x = x % 128 + x / 128 * 128 := by omega
  have r7 : x / 128 = x / 128 % 32 + x / 4096 * 32 := by omega
  have r12 : x / 4096 = x / 4096 % 256 + x / 1048576 * 256 := by omega
  have r20 : x / 1048576 = x / 1048576 % 2 + x / 2097152 * 2 := by omega
  have r21 : x / 2097152 = x / 2097152 % 1024 + x / 2147483648 * 1024 := by omega
  have rl : x / 2147483648 = x / 2147483648 % 2 := by omega
  generalize x / 2147483648 = g31 at *
  generalize x / 2097152 = g21 at *
  generalize x / 1048576 = g20 at *
  generalize x / 4096 = g12 at *
  generalize x / 128 = g7 at *
  omega
theorem imm_told_J (x : Int) : immV .J (toldV .J x) = x / 4096 % 256 * 4096 + x / 1048576 % 2 * 1048576 + x / 2097152 % 1024 * 2097152 + x / 2147483648 % 2 * 2147483648 := by
  simp only [immV, toldV, signedV]
  have b0 : 0 ≤ x / 4096 % 256 ∧ x / 4096 % 256 < 256 := by omega
  have b1 : 0 ≤ x / 1048576 % 2 ∧ x / 1048576 % 2 < 2 := by omega
  have b2 : 0 ≤ x / 2097152 % 1024 ∧ x / 2097152 % 1024 < 1024 := by omega
  have b3 : 0 ≤ x / 2147483648 % 2 ∧ x / 2147483648 % 2 < 2 := by omega
  generalize x / 4096 % 256 = g0 at *
  generalize x / 1048576 % 2 = g1 at *
  generalize x / 2097152 % 1024 = g2 at *
  generalize x / 2147483648 % 2 = g3 at *
  first | omega | (split <;> omega) | (repeat' apply congrArg₂) <;> (split <;> omega)
theorem dec_R (x a b c : Int) (hx : 0 ≤ x) (hx' : x < 4294967296) (ha : 0 ≤ a ∧ a < 128) (hb : 0 ≤ b ∧ b < (RvForm.R.bLim : Int)) (hc : 0 ≤ c ∧ c < (RvForm.R.cLim : Int)) :
    bits .and .u32 x (maskV .R) = ownV .R a b c ↔ x = a + jV .R (readsR .R 0 x).rd (readsR .R 0 x).rs1 (readsR .R 0 x).rs2 (readsR .R 0 x).imm + b * 4096 + c * RvForm.R.cAt := by
  simp only [RvForm.bLim, RvForm.cLim] at hb hc
  have hm : bits .and .u32 x (maskV .R) = x % 128 + x / 4096 % 8 * 4096 + x / 33554432 % 128 * 33554432 := by
    rw [show maskV .R = (bits .or .u32 (bits .or .u32 ((2 ^ 7 - 1) * 2 ^ 0) ((2 ^ 3 - 1) * 2 ^ 12)) ((2 ^ 7 - 1) * 2 ^ 25)) by decide +kernel]
    rw [and32_or, and32_or, and32_run 7 0 x hx hx' (by omega), and32_run 3 12 x hx hx' (by omega), and32_run 7 25 x hx hx' (by omega)]
    rw [show x / 2 ^ 0 % 2 ^ 7 * 2 ^ 0 = x % 128 by simp]
    rw [show bits .or .u32 (x % 128) (x / 2 ^ 12 % 2 ^ 3 * 2 ^ 12) = x % 128 + x / 4096 % 8 * 4096 from or32_add 12 _ (x / 4096 % 8) (by omega) (by omega) (by omega) (by omega)]
    rw [show bits .or .u32 (x % 128 + x / 4096 % 8 * 4096) (x / 2 ^ 25 % 2 ^ 7 * 2 ^ 25) = x % 128 + x / 4096 % 8 * 4096 + x / 33554432 % 128 * 33554432 from or32_add 25 _ (x / 33554432 % 128) (by omega) (by omega) (by omega) (by omega)]
  have ho : ownV .R a b c = a + b * 4096 + c * 33554432 := by
    show bits .or .u32 (bits .or .u32 a (b * 4096)) (c * 33554432 % 4294967296) = _
    rw [show bits .or .u32 a (b * 4096) = a + b * 4096 from or32_add 12 _ b (by omega) (by omega) (by omega) (by omega)]
    rw [show c * 33554432 % 4294967296 = c * 33554432 by omega]
    exact or32_add 25 _ c (by omega) (by omega) (by omega) (by omega)
  have hk := chunk_R x hx hx'
  rw [hm, ho]
  simp only [jV, readsR, RvForm.hasRd, RvForm.has1, RvForm.has2, RvForm.cAt, if_true, Bool.false_eq_true, if_false]
  simp only [immV, toldV]
  have b0 : 0 ≤ x % 128 ∧ x % 128 < 128 := by omega
  have b1 : 0 ≤ x / 128 % 32 ∧ x / 128 % 32 < 32 := by omega
  have b2 : 0 ≤ x / 4096 % 8 ∧ x / 4096 % 8 < 8 := by omega
  have b3 : 0 ≤ x / 32768 % 32 ∧ x / 32768 % 32 < 32 := by omega
  have b4 : 0 ≤ x / 1048576 % 32 ∧ x / 1048576 % 32 < 32 := by omega
  have b5 : 0 ≤ x / 33554432 % 128 ∧ x / 33554432 % 128 < 128 := by omega
  clear hm ho
  generalize x % 128 = g0 at *
  generalize x / 128 % 32 = g1 at *
  generalize x / 4096 % 8 = g2 at *
  generalize x / 32768 % 32 = g3 at *
  generalize x / 1048576 % 32 = g4 at *
  generalize x / 33554432 % 128 = g5 at *
  constructor <;> intro h <;> omega
theorem dec_I (x a b c : Int) (hx : 0 ≤ x) (hx' : x < 4294967296) (ha : 0 ≤ a ∧ a < 128) (hb : 0 ≤ b ∧ b < (RvForm.I.bLim : Int)) (hc : 0 ≤ c ∧ c < (RvForm.I.cLim : Int)) :
    bits .and .u32 x (maskV .I) = ownV .I a b c ↔ x = a + jV .I (readsR .I 0 x).rd (readsR .I 0 x).rs1 (readsR .I 0 x).rs2 (readsR .I 0 x).imm + b * 4096 + c * RvForm.I.cAt := by
  simp only [RvForm.bLim, RvForm.cLim] at hb hc
  have hm : bits .and .u32 x (maskV .I) = x % 128 + x / 4096 % 8 * 4096 := by
    rw [show maskV .I = (bits .or .u32 ((2 ^ 7 - 1) * 2 ^ 0) ((2 ^ 3 - 1) * 2 ^ 12)) by decide +kernel]
    rw [and32_or, and32_run 7 0 x hx hx' (by omega), and32_run 3 12 x hx hx' (by omega)]
    rw [show x / 2 ^ 0 % 2 ^ 7 * 2 ^ 0 = x % 128 by simp]
    rw [show bits .or .u32 (x % 128) (x / 2 ^ 12 % 2 ^ 3 * 2 ^ 12) = x % 128 + x / 4096 % 8 * 4096 from or32_add 12 _ (x / 4096 % 8) (by omega) (by omega) (by omega) (by omega)]
  have ho : ownV .I a b c = a + b * 4096 := by
    show bits .or .u32 a (b * 4096) = _
    rw [show bits .or .u32 a (b * 4096) = a + b * 4096 from or32_add 12 _ b (by omega) (by omega) (by omega) (by omega)]
  have hk := chunk_I x hx hx'
  rw [hm, ho]
  simp only [jV, readsR, RvForm.hasRd, RvForm.has1, RvForm.has2, RvForm.cAt, if_true, Bool.false_eq_true, if_false]
  rw [imm_told_I]
  have b0 : 0 ≤ x % 128 ∧ x % 128 < 128 := by omega
  have b1 : 0 ≤ x / 128 % 32 ∧ x / 128 % 32 < 32 := by omega
  have b2 : 0 ≤ x / 4096 % 8 ∧ x / 4096 % 8 < 8 := by omega
  have b3 : 0 ≤ x / 32768 % 32 ∧ x / 32768 % 32 < 32 := by omega
  have b4 : 0 ≤ x / 1048576 % 4096 ∧ x / 1048576 % 4096 < 4096 := by omega
  clear hm ho
  generalize x % 128 = g0 at *
  generalize x / 128 % 32 = g1 at *
  generalize x / 4096 % 8 = g2 at *
  generalize x / 32768 % 32 = g3 at *
  generalize x / 1048576 % 4096 = g4 at *
  constructor <;> intro h <;> omega
theorem dec_X (x a b c : Int) (hx : 0 ≤ x) (hx' : x < 4294967296) (ha : 0 ≤ a ∧ a < 128) (hb : 0 ≤ b ∧ b < (RvForm.X.bLim : Int)) (hc : 0 ≤ c ∧ c < (RvForm.X.cLim : Int)) :
    bits .and .u32 x (maskV .X) = ownV .X a b c ↔ x = a + jV .X (readsR .X 0 x).rd (readsR .X 0 x).rs1 (readsR .X 0 x).rs2 (readsR .X 0 x).imm + b * 4096 + c * RvForm.X.cAt := by
  simp only [RvForm.bLim, RvForm.cLim] at hb hc
  have hm : bits .and .u32 x (maskV .X) = x % 128 + x / 4096 % 8 * 4096 + x / 67108864 % 64 * 67108864 := by
    rw [show maskV .X = (bits .or .u32 (bits .or .u32 ((2 ^ 7 - 1) * 2 ^ 0) ((2 ^ 3 - 1) * 2 ^ 12)) ((2 ^ 6 - 1) * 2 ^ 26)) by decide +kernel]
    rw [and32_or, and32_or, and32_run 7 0 x hx hx' (by omega), and32_run 3 12 x hx hx' (by omega), and32_run 6 26 x hx hx' (by omega)]
    rw [show x / 2 ^ 0 % 2 ^ 7 * 2 ^ 0 = x % 128 by simp]
    rw [show bits .or .u32 (x % 128) (x / 2 ^ 12 % 2 ^ 3 * 2 ^ 12) = x % 128 + x / 4096 % 8 * 4096 from or32_add 12 _ (x / 4096 % 8) (by omega) (by omega) (by omega) (by omega)]
    rw [show bits .or .u32 (x % 128 + x / 4096 % 8 * 4096) (x / 2 ^ 26 % 2 ^ 6 * 2 ^ 26) = x % 128 + x / 4096 % 8 * 4096 + x / 67108864 % 64 * 67108864 from or32_add 26 _ (x / 67108864 % 64) (by omega) (by omega) (by omega) (by omega)]
  have ho : ownV .X a b c = a + b * 4096 + c * 67108864 := by
    show bits .or .u32 (bits .or .u32 a (b * 4096)) (c * 67108864 % 4294967296) = _
    rw [show bits .or .u32 a (b * 4096) = a + b * 4096 from or32_add 12 _ b (by omega) (by omega) (by omega) (by omega)]
    rw [show c * 67108864 % 4294967296 = c * 67108864 by omega]
    exact or32_add 26 _ c (by omega) (by omega) (by omega) (by omega)
  have hk := chunk_X x hx hx'
  rw [hm, ho]
  simp only [jV, readsR, RvForm.hasRd, RvForm.has1, RvForm.has2, RvForm.cAt, if_true, Bool.false_eq_true, if_false]
  rw [imm_told_X]
  have b0 : 0 ≤ x % 128 ∧ x % 128 < 128 := by omega
  have b1 : 0 ≤ x / 128 % 32 ∧ x / 128 % 32 < 32 := by omega
  have b2 : 0 ≤ x / 4096 % 8 ∧ x / 4096 % 8 < 8 := by omega
  have b3 : 0 ≤ x / 32768 % 32 ∧ x / 32768 % 32 < 32 := by omega
  have b4 : 0 ≤ x / 1048576 % 64 ∧ x / 1048576 % 64 < 64 := by omega
  have b5 : 0 ≤ x / 67108864 % 64 ∧ x / 67108864 % 64 < 64 := by omega
  clear hm ho
  generalize x % 128 = g0 at *
  generalize x / 128 % 32 = g1 at *
  generalize x / 4096 % 8 = g2 at *
  generalize x / 32768 % 32 = g3 at *
  generalize x / 1048576 % 64 = g4 at *
  generalize x / 67108864 % 64 = g5 at *
  constructor <;> intro h <;> omega
theorem dec_Y (x a b c : Int) (hx : 0 ≤ x) (hx' : x < 4294967296) (ha : 0 ≤ a ∧ a < 128) (hb : 0 ≤ b ∧ b < (RvForm.Y.bLim : Int)) (hc : 0 ≤ c ∧ c < (RvForm.Y.cLim : Int)) :
    bits .and .u32 x (maskV .Y) = ownV .Y a b c ↔ x = a + jV .Y (readsR .Y 0 x).rd (readsR .Y 0 x).rs1 (readsR .Y 0 x).rs2 (readsR .Y 0 x).imm + b * 4096 + c * RvForm.Y.cAt := by
  simp only [RvForm.bLim, RvForm.cLim] at hb hc
  have hm : bits .and .u32 x (maskV .Y) = x % 128 + x / 4096 % 8 * 4096 + x / 33554432 % 128 * 33554432 := by
    rw [show maskV .Y = (bits .or .u32 (bits .or .u32 ((2 ^ 7 - 1) * 2 ^ 0) ((2 ^ 3 - 1) * 2 ^ 12)) ((2 ^ 7 - 1) * 2 ^ 25)) by decide +kernel]
    rw [and32_or, and32_or, and32_run 7 0 x hx hx' (by omega), and32_run 3 12 x hx hx' (by omega), and32_run 7 25 x hx hx' (by omega)]
    rw [show x / 2 ^ 0 % 2 ^ 7 * 2 ^ 0 = x % 128 by simp]
    rw [show bits .or .u32 (x % 128) (x / 2 ^ 12 % 2 ^ 3 * 2 ^ 12) = x % 128 + x / 4096 % 8 * 4096 from or32_add 12 _ (x / 4096 % 8) (by omega) (by omega) (by omega) (by omega)]
    rw [show bits .or .u32 (x % 128 + x / 4096 % 8 * 4096) (x / 2 ^ 25 % 2 ^ 7 * 2 ^ 25) = x % 128 + x / 4096 % 8 * 4096 + x / 33554432 % 128 * 33554432 from or32_add 25 _ (x / 33554432 % 128) (by omega) (by omega) (by omega) (by omega)]
  have ho : ownV .Y a b c = a + b * 4096 + c * 33554432 := by
    show bits .or .u32 (bits .or .u32 a (b * 4096)) (c * 33554432 % 4294967296) = _
    rw [show bits .or .u32 a (b * 4096) = a + b * 4096 from or32_add 12 _ b (by omega) (by omega) (by omega) (by omega)]
    rw [show c * 33554432 % 4294967296 = c * 33554432 by omega]
    exact or32_add 25 _ c (by omega) (by omega) (by omega) (by omega)
  have hk := chunk_Y x hx hx'
  rw [hm, ho]
  simp only [jV, readsR, RvForm.hasRd, RvForm.has1, RvForm.has2, RvForm.cAt, if_true, Bool.false_eq_true, if_false]
  rw [imm_told_Y]
  have b0 : 0 ≤ x % 128 ∧ x % 128 < 128 := by omega
  have b1 : 0 ≤ x / 128 % 32 ∧ x / 128 % 32 < 32 := by omega
  have b2 : 0 ≤ x / 4096 % 8 ∧ x / 4096 % 8 < 8 := by omega
  have b3 : 0 ≤ x / 32768 % 32 ∧ x / 32768 % 32 < 32 := by omega
  have b4 : 0 ≤ x / 1048576 % 32 ∧ x / 1048576 % 32 < 32 := by omega
  have b5 : 0 ≤ x / 33554432 % 128 ∧ x / 33554432 % 128 < 128 := by omega
  clear hm ho
  generalize x % 128 = g0 at *
  generalize x / 128 % 32 = g1 at *
  generalize x / 4096 % 8 = g2 at *
  generalize x / 32768 % 32 = g3 at *
  generalize x / 1048576 % 32 = g4 at *
  generalize x / 33554432 % 128 = g5 at *
  constructor <;> intro h <;> omega
theorem dec_S (x a b c : Int) (hx : 0 ≤ x) (hx' : x < 4294967296) (ha : 0 ≤ a ∧ a < 128) (hb : 0 ≤ b ∧ b < (RvForm.S.bLim : Int)) (hc : 0 ≤ c ∧ c < (RvForm.S.cLim : Int)) :
    bits .and .u32 x (maskV .S) = ownV .S a b c ↔ x = a + jV .S (readsR .S 0 x).rd (readsR .S 0 x).rs1 (readsR .S 0 x).rs2 (readsR .S 0 x).imm + b * 4096 + c * RvForm.S.cAt := by
  simp only [RvForm.bLim, RvForm.cLim] at hb hc
  have hm : bits .and .u32 x (maskV .S) = x % 128 + x / 4096 % 8 * 4096 := by
    rw [show maskV .S = (bits .or .u32 ((2 ^ 7 - 1) * 2 ^ 0) ((2 ^ 3 - 1) * 2 ^ 12)) by decide +kernel]
    rw [and32_or, and32_run 7 0 x hx hx' (by omega), and32_run 3 12 x hx hx' (by omega)]
    rw [show x / 2 ^ 0 % 2 ^ 7 * 2 ^ 0 = x % 128 by simp]
    rw [show bits .or .u32 (x % 128) (x / 2 ^ 12 % 2 ^ 3 * 2 ^ 12) = x % 128 + x / 4096 % 8 * 4096 from or32_add 12 _ (x / 4096 % 8) (by omega) (by omega) (by omega) (by omega)]
  have ho : ownV .S a b c = a + b * 4096 := by
    show bits .or .u32 a (b * 4096) = _
    rw [show bits .or .u32 a (b * 4096) = a + b * 4096 from or32_add 12 _ b (by omega) (by omega) (by omega) (by omega)]
  have hk := chunk_S x hx hx'
  rw [hm, ho]
  simp only [jV, readsR, RvForm.hasRd, RvForm.has1, RvForm.has2, RvForm.cAt, if_true, Bool.false_eq_true, if_false]
  rw [imm_told_S]
  have b0 : 0 ≤ x % 128 ∧ x % 128 < 128 := by omega
  have b1 : 0 ≤ x / 128 % 32 ∧ x / 128 % 32 < 32 := by omega
  have b2 : 0 ≤ x / 4096 % 8 ∧ x / 4096 % 8 < 8 := by omega
  have b3 : 0 ≤ x / 32768 % 32 ∧ x / 32768 % 32 < 32 := by omega
  have b4 : 0 ≤ x / 1048576 % 32 ∧ x / 1048576 % 32 < 32 := by omega
  have b5 : 0 ≤ x / 33554432 % 128 ∧ x / 33554432 % 128 < 128 := by omega
  clear hm ho
  generalize x % 128 = g0 at *
  generalize x / 128 % 32 = g1 at *
  generalize x / 4096 % 8 = g2 at *
  generalize x / 32768 % 32 = g3 at *
  generalize x / 1048576 % 32 = g4 at *
  generalize x / 33554432 % 128 = g5 at *
  constructor <;> intro h <;> omega
theorem dec_B (x a b c : Int) (hx : 0 ≤ x) (hx' : x < 4294967296) (ha : 0 ≤ a ∧ a < 128) (hb : 0 ≤ b ∧ b < (RvForm.B.bLim : Int)) (hc : 0 ≤ c ∧ c < (RvForm.B.cLim : Int)) :
    bits .and .u32 x (maskV .B) = ownV .B a b c ↔ x = a + jV .B (readsR .B 0 x).rd (readsR .B 0 x).rs1 (readsR .B 0 x).rs2 (readsR .B 0 x).imm + b * 4096 + c * RvForm.B.cAt := by
  simp only [RvForm.bLim, RvForm.cLim] at hb hc
  have hm : bits .and .u32 x (maskV .B) = x % 128 + x / 4096 % 8 * 4096 := by
    rw [show maskV .B = (bits .or .u32 ((2 ^ 7 - 1) * 2 ^ 0) ((2 ^ 3 - 1) * 2 ^ 12)) by decide +kernel]
    rw [and32_or, and32_run 7 0 x hx hx' (by omega), and32_run 3 12 x hx hx' (by omega)]
    rw [show x / 2 ^ 0 % 2 ^ 7 * 2 ^ 0 = x % 128 by simp]
    rw [show bits .or .u32 (x % 128) (x / 2 ^ 12 % 2 ^ 3 * 2 ^ 12) = x % 128 + x / 4096 % 8 * 4096 from or32_add 12 _ (x / 4096 % 8) (by omega) (by omega) (by omega) (by omega)]
  have ho : ownV .B a b c = a + b * 4096 := by
    show bits .or .u32 a (b * 4096) = _
    rw [show bits .or .u32 a (b * 4096) = a + b * 4096 from or32_add 12 _ b (by omega) (by omega) (by omega) (by omega)]
  have hk := chunk_B x hx hx'
  rw [hm, ho]
  simp only [jV, readsR, RvForm.hasRd, RvForm.has1, RvForm.has2, RvForm.cAt, if_true, Bool.false_eq_true, if_false]
  rw [imm_told_B]
  have b0 : 0 ≤ x % 128 ∧ x % 128 < 128 := by omega
  have b1 : 0 ≤ x / 128 % 2 ∧ x / 128 % 2 < 2 := by omega
  have b2 : 0 ≤ x / 256 % 16 ∧ x / 256 % 16 < 16 := by omega
  have b3 : 0 ≤ x / 4096 % 8 ∧ x / 4096 % 8 < 8 := by omega
  have b4 : 0 ≤ x / 32768 % 32 ∧ x / 32768 % 32 < 32 := by omega
  have b5 : 0 ≤ x / 1048576 % 32 ∧ x / 1048576 % 32 < 32 := by omega
  have b6 : 0 ≤ x / 33554432 % 64 ∧ x / 33554432 % 64 < 64 := by omega
  have b7 : 0 ≤ x / 2147483648 % 2 ∧ x / 2147483648 % 2 < 2 := by omega
  clear hm ho
  generalize x % 128 = g0 at *
  generalize x / 128 % 2 = g1 at *
  generalize x / 256 % 16 = g2 at *
  generalize x / 4096 % 8 = g3 at *
  generalize x / 32768 % 32 = g4 at *
  generalize x / 1048576 % 32 = g5 at *
  generalize x / 33554432 % 64 = g6 at *
  generalize x / 2147483648 % 2 = g7 at *
  constructor <;> intro h <;> omega
theorem dec_U (x a b c : Int) (hx : 0 ≤ x) (hx' : x < 4294967296) (ha : 0 ≤ a ∧ a < 128) (hb : 0 ≤ b ∧ b < (RvForm.U.bLim : Int)) (hc : 0 ≤ c ∧ c < (RvForm.U.cLim : Int)) :
    bits .and .u32 x (maskV .U) = ownV .U a b c ↔ x = a + jV .U (readsR .U 0 x).rd (readsR .U 0 x).rs1 (readsR .U 0 x).rs2 (readsR .U 0 x).imm + b * 4096 + c * RvForm.U.cAt := by
  simp only [RvForm.bLim, RvForm.cLim] at hb hc
  have hm : bits .and .u32 x (maskV .U) = x % 128 := by
    rw [show maskV .U = ((2 ^ 7 - 1) * 2 ^ 0) by decide +kernel]
    rw [and32_run 7 0 x hx hx' (by omega)]
    rw [show x / 2 ^ 0 % 2 ^ 7 * 2 ^ 0 = x % 128 by simp]
  have ho : ownV .U a b c = a + b * 4096 := by
    show bits .or .u32 a (b * 4096) = _
    rw [show bits .or .u32 a (b * 4096) = a + b * 4096 from or32_add 12 _ b (by omega) (by omega) (by omega) (by omega)]
  have hk := chunk_U x hx hx'
  rw [hm, ho]
  simp only [jV, readsR, RvForm.hasRd, RvForm.has1, RvForm.has2, RvForm.cAt, if_true, Bool.false_eq_true, if_false]
  rw [imm_told_U]
  have b0 : 0 ≤ x % 128 ∧ x % 128 < 128 := by omega
  have b1 : 0 ≤ x / 128 % 32 ∧ x / 128 % 32 < 32 := by omega
  have b2 : 0 ≤ x / 4096 % 1048576 ∧ x / 4096 % 1048576 < 1048576 := by omega
  clear hm ho
  generalize x % 128 = g0 at *
  generalize x / 128 % 32 = g1 at *
  generalize x / 4096 % 1048576 = g2 at *
  constructor <;> intro h <;> omega
theorem dec_J (x a b c : Int) (hx : 0 ≤ x) (hx' : x < 4294967296) (ha : 0 ≤ a ∧ a < 128) (hb : 0 ≤ b ∧ b < (RvForm.J.bLim : Int)) (hc : 0 ≤ c ∧ c < (RvForm.J.cLim : Int)) :
    bits .and .u32 x (maskV .J) = ownV .J a b c ↔ x = a + jV .J (readsR .J 0 x).rd (readsR .J 0 x).rs1 (readsR .J 0 x).rs2 (readsR .J 0 x).imm + b * 4096 + c * RvForm.J.cAt := by
  simp only [RvForm.bLim, RvForm.cLim] at hb hc
  have hm : bits .and .u32 x (maskV .J) = x % 128 := by
    rw [show maskV .J = ((2 ^ 7 - 1) * 2 ^ 0) by decide +kernel]
    rw [and32_run 7 0 x hx hx' (by omega)]
    rw [show x / 2 ^ 0 % 2 ^ 7 * 2 ^ 0 = x % 128 by simp]
  have ho : ownV .J a b c = a + b * 4096 := by
    show bits .or .u32 a (b * 4096) = _
    rw [show bits .or .u32 a (b * 4096) = a + b * 4096 from or32_add 12 _ b (by omega) (by omega) (by omega) (by omega)]
  have hk := chunk_J x hx hx'
  rw [hm, ho]
  simp only [jV, readsR, RvForm.hasRd, RvForm.has1, RvForm.has2, RvForm.cAt, if_true, Bool.false_eq_true, if_false]
  rw [imm_told_J]
  have b0 : 0 ≤ x % 128 ∧ x % 128 < 128 := by omega
  have b1 : 0 ≤ x / 128 % 32 ∧ x / 128 % 32 < 32 := by omega
  have b2 : 0 ≤ x / 4096 % 256 ∧ x / 4096 % 256 < 256 := by omega
  have b3 : 0 ≤ x / 1048576 % 2 ∧ x / 1048576 % 2 < 2 := by omega
  have b4 : 0 ≤ x / 2097152 % 1024 ∧ x / 2097152 % 1024 < 1024 := by omega
  have b5 : 0 ≤ x / 2147483648 % 2 ∧ x / 2147483648 % 2 < 2 := by omega
  clear hm ho
  generalize x % 128 = g0 at *
  generalize x / 128 % 32 = g1 at *
  generalize x / 4096 % 256 = g2 at *
  generalize x / 1048576 % 2 = g3 at *
  generalize x / 2097152 % 1024 = g4 at *
  generalize x / 2147483648 % 2 = g5 at *
  constructor <;> intro h <;> omega
theorem dec_E (x a b c : Int) (hx : 0 ≤ x) (hx' : x < 4294967296) (ha : 0 ≤ a ∧ a < 128) (hb : 0 ≤ b ∧ b < (RvForm.E.bLim : Int)) (hc : 0 ≤ c ∧ c < (RvForm.E.cLim : Int)) :
    bits .and .u32 x (maskV .E) = ownV .E a b c ↔ x = a + jV .E (readsR .E 0 x).rd (readsR .E 0 x).rs1 (readsR .E 0 x).rs2 (readsR .E 0 x).imm + b * 4096 + c * RvForm.E.cAt := by
  simp only [RvForm.bLim, RvForm.cLim] at hb hc
  obtain rfl : b = 0 := by omega
  obtain rfl : c = 0 := by omega
  have hm : bits .and .u32 x (maskV .E) = x := by
    rw [show maskV .E = ((2 ^ 32 - 1) * 2 ^ 0) by decide +kernel, and32_run 32 0 x hx hx' (by omega)]
    simp
    omega
  have ho : ownV .E a 0 0 = a := by
    show bits .or .u32 a (0 * 4096) = _
    rw [show (0 : Int) * 4096 = 0 from rfl, or32_comm, or32_zero a (by omega) (by omega)]
  rw [hm, ho]
  simp [jV, readsR, immV, toldV, RvForm.hasRd, RvForm.has1, RvForm.has2]


/-- All forms at once. -/
theorem split_is (f : RvForm) (x : Int) (hx : 0 ≤ x) (hx' : x < 4294967296) : SplitIs f x := by
  cases f
  · exact split_R x hx hx'
  · exact split_I x hx hx'
  · exact split_X x hx hx'
  · exact split_Y x hx hx'
  · exact split_S x hx hx'
  · exact split_B x hx hx'
  · exact split_U x hx hx'
  · exact split_J x hx hx'
  · exact split_E x hx hx'
theorem join_is (f : RvForm) (rd rs1 rs2 imm : Int) : joinV (fdsV f.letter) (num4 rd rs1 rs2 imm) = jV f rd rs1 rs2 imm := by
  cases f
  · exact joinS_R rd rs1 rs2 imm
  · exact joinS_I rd rs1 rs2 imm
  · exact joinS_X rd rs1 rs2 imm
  · exact joinS_Y rd rs1 rs2 imm
  · exact joinS_S rd rs1 rs2 imm
  · exact joinS_B rd rs1 rs2 imm
  · exact joinS_U rd rs1 rs2 imm
  · exact joinS_J rd rs1 rs2 imm
  · exact joinS_E rd rs1 rs2 imm
theorem own_is (f : RvForm) (rd rs1 rs2 imm a b c : Int) (ha : 0 ≤ a ∧ a < 128) (hb : 0 ≤ b ∧ b < (f.bLim : Int)) (hc : 0 ≤ c ∧ c < (f.cLim : Int)) :
    bits .or .u32 (ownV f a b c) (joinV (fdsV f.letter) (num4 rd rs1 rs2 imm)) = a + jV f rd rs1 rs2 imm + b * 4096 + c * f.cAt := by
  cases f
  · exact ownS_R rd rs1 rs2 imm a b c ha hb hc
  · exact ownS_I rd rs1 rs2 imm a b c ha hb hc
  · exact ownS_X rd rs1 rs2 imm a b c ha hb hc
  · exact ownS_Y rd rs1 rs2 imm a b c ha hb hc
  · exact ownS_S rd rs1 rs2 imm a b c ha hb hc
  · exact ownS_B rd rs1 rs2 imm a b c ha hb hc
  · exact ownS_U rd rs1 rs2 imm a b c ha hb hc
  · exact ownS_J rd rs1 rs2 imm a b c ha hb hc
  · exact ownS_E rd rs1 rs2 imm a b c ha hb hc
theorem reads_ok (f : RvForm) (x : Int) : regOk (readsR f 0 x).rd f.hasRd ∧ regOk (readsR f 0 x).rs1 f.has1 ∧ regOk (readsR f 0 x).rs2 f.has2 ∧ immOk f (readsR f 0 x).imm := by
  cases f
  · exact reads_ok_R x
  · exact reads_ok_I x
  · exact reads_ok_X x
  · exact reads_ok_Y x
  · exact reads_ok_S x
  · exact reads_ok_B x
  · exact reads_ok_U x
  · exact reads_ok_J x
  · exact reads_ok_E x
theorem dec_is (f : RvForm) (x a b c : Int) (hx : 0 ≤ x) (hx' : x < 4294967296) (ha : 0 ≤ a ∧ a < 128) (hb : 0 ≤ b ∧ b < (f.bLim : Int)) (hc : 0 ≤ c ∧ c < (f.cLim : Int)) :
    bits .and .u32 x (maskV f) = ownV f a b c ↔ x = a + jV f (readsR f 0 x).rd (readsR f 0 x).rs1 (readsR f 0 x).rs2 (readsR f 0 x).imm + b * 4096 + c * f.cAt := by
  cases f
  · exact dec_R x a b c hx hx' ha hb hc
  · exact dec_I x a b c hx hx' ha hb hc
  · exact dec_X x a b c hx hx' ha hb hc
  · exact dec_Y x a b c hx hx' ha hb hc
  · exact dec_S x a b c hx hx' ha hb hc
  · exact dec_B x a b c hx hx' ha hb hc
  · exact dec_U x a b c hx hx' ha hb hc
  · exact dec_J x a b c hx hx' ha hb hc
  · exact dec_E x a b c hx hx' ha hb hc
end Go.Proofs.YtnaceogkaiodnaaGreat
namespace Go.Proofs.YtnaceogkaiodnaaGreat
open Go.RowKit
set_option linter.unusedVariables false

def Allowed (f : RvForm) (rd rs1 rs2 imm : Int) : Prop := regOk rd f.hasRd ∧ regOk rs1 f.has1 ∧ regOk rs2 f.has2 ∧ immOk f imm
theorem reg_mod {n : Int} {b : Bool} (h : regOk n b) (k : Int) : (if b = true then n % 32 * k else 0) = n * k := by
  unfold regOk at h
  cases b
  · simp at h
    simp [h]
  · simp at h
    simp
    rw [Int.emod_eq_of_lt h.1 (by omega)]
theorem jV_ok {f : RvForm} {rd rs1 rs2 imm : Int} (h : Allowed f rd rs1 rs2 imm) : jV f rd rs1 rs2 imm = immV f imm + rd * 128 + rs1 * 32768 + rs2 * 1048576 := by
  unfold jV
  rw [reg_mod h.1, reg_mod h.2.1, reg_mod h.2.2.1]
theorem cLim_pos (f : RvForm) : (0 : Int) < (f.cLim : Int) ∧ (0 : Int) < (f.bLim : Int) := by cases f <;> decide
theorem jV_back {f : RvForm} {rd rs1 rs2 imm : Int} (h : Allowed f rd rs1 rs2 imm) :
    toldV f (jV f rd rs1 rs2 imm) = imm ∧ (readsR f 0 (jV f rd rs1 rs2 imm)).rd = rd ∧ (readsR f 0 (jV f rd rs1 rs2 imm)).rs1 = rs1 ∧ (readsR f 0 (jV f rd rs1 rs2 imm)).rs2 = rs2 := by
  obtain ⟨r1, _, r3, r4, r5, _⟩ := read_back f imm 0 rd 0 rs1 rs2 0 h.2.2.2 (by omega) ⟨by omega, (cLim_pos f).2⟩ ⟨by omega, (cLim_pos f).1⟩ h.1 h.2.1 h.2.2.1 (jV f rd rs1 rs2 imm) (by rw [jV_ok h]; omega)
  exact ⟨r1, r3, r4, r5⟩
theorem join_bd (f : RvForm) (rd rs1 rs2 imm : Int) : 0 ≤ jV f rd rs1 rs2 imm ∧ jV f rd rs1 rs2 imm < 4294967296 := by
  rw [← join_is]
  exact joinV_bd _ _
/-- What split makes of what was joined is what was joined, just if the numbers may be. -/
def BackSame (f : RvForm) (rd rs1 rs2 imm : Int) : Prop :=
  splitV (fdsV f.letter) (joinV (fdsV f.letter) (num4 rd rs1 rs2 imm)) 0 = rd ∧ splitV (fdsV f.letter) (joinV (fdsV f.letter) (num4 rd rs1 rs2 imm)) 1 = rs1 ∧
    splitV (fdsV f.letter) (joinV (fdsV f.letter) (num4 rd rs1 rs2 imm)) 2 = rs2 ∧ splitV (fdsV f.letter) (joinV (fdsV f.letter) (num4 rd rs1 rs2 imm)) 3 = imm
theorem back_iff (f : RvForm) (rd rs1 rs2 imm : Int) : BackSame f rd rs1 rs2 imm ↔ Allowed f rd rs1 rs2 imm := by
  unfold BackSame
  rw [join_is]
  obtain ⟨h0, h1⟩ := join_bd f rd rs1 rs2 imm
  have hs := split_is f _ h0 h1
  rw [hs.s0, hs.s1, hs.s2, hs.s3]
  constructor
  · rintro ⟨e0, e1, e2, e3⟩
    have := reads_ok f (jV f rd rs1 rs2 imm)
    rw [e0, e1, e2, e3] at this
    exact this
  · intro h
    obtain ⟨r1, r2, r3, r4⟩ := jV_back h
    exact ⟨r2, r3, r4, r1⟩
/-- A row's numbers. -/
theorem row_bd {k : Nat} (h : 1 ≤ k) (h' : k ≤ 63) : (0 ≤ aB k ∧ aB k < 128) ∧ (0 ≤ bB k ∧ bB k < ((rvRowN k).form.bLim : Int)) ∧ (0 ≤ cB k ∧ cB k < ((rvRowN k).form.cLim : Int)) := by
  have hf := rvRows_fit _ (rvRowN_mem h h')
  unfold RvRow.fits at hf
  simp only [Bool.and_eq_true, decide_eq_true_eq] at hf
  unfold aB bB cB
  rw [if_neg (by omega), if_neg (by omega), if_neg (by omega)]
  omega
theorem lim_256 (f : RvForm) : (f.bLim : Int) ≤ 256 ∧ (f.cLim : Int) ≤ 256 := by cases f <;> decide
theorem letB_form {k : Nat} (h : 1 ≤ k) : letB k = (rvRowN k).form.letter := by unfold letB; rw [if_neg (by omega)]
/-- The word, by the program's own way. -/
theorem word_is {k : Nat} (h : 1 ≤ k) (h' : k ≤ 63) {rd rs1 rs2 imm : Int} (ha : Allowed (rvRowN k).form rd rs1 rs2 imm) :
    bits .or .u32 (ownV (rvRowN k).form (aB k) (bB k) (cB k)) (joinV (fdsV (rvRowN k).form.letter) (num4 rd rs1 rs2 imm)) = encV ⟨k, rd, rs1, rs2, imm⟩ := by
  obtain ⟨h1, h2, h3⟩ := row_bd h h'
  rw [own_is _ _ _ _ _ _ _ _ h1 h2 h3, jV_ok ha]
  unfold aB bB cB
  rw [if_neg (by omega), if_neg (by omega), if_neg (by omega)]
  show _ = ((rvRowN k).a : Int) + immV (rvRowN k).form imm + rd * 128 + rs1 * 32768 + rs2 * 1048576 + ((rvRowN k).b : Int) * 4096 + ((rvRowN k).c : Int) * (rvRowN k).form.cAt
  omega
theorem ok_iff {k : Nat} (h : 1 ≤ k) (h' : k ≤ 63) (rd rs1 rs2 imm : Int) : (⟨k, rd, rs1, rs2, imm⟩ : RvV).ok ↔ Allowed (rvRowN k).form rd rs1 rs2 imm :=
  ⟨fun h => ⟨h.rd, h.rs1, h.rs2, h.imm⟩, fun h => ⟨⟨by show (1 : Int) ≤ k; omega, by show (k : Int) ≤ 63; omega⟩, h.1, h.2.1, h.2.2.1, h.2.2.2⟩⟩
/-- A row's masks tell just its words. -/
theorem found_iff {k : Nat} (h : 1 ≤ k) (h' : k ≤ 63) {x : Int} (hx : 0 ≤ x) (hx' : x < 4294967296) :
    bits .and .u32 x (maskV (rvRowN k).form) = ownV (rvRowN k).form (aB k) (bB k) (cB k) ↔ IsWord (readsV k x) x := by
  obtain ⟨h1, h2, h3⟩ := row_bd h h'
  rw [dec_is _ x _ _ _ hx hx' h1 h2 h3]
  have hr := reads_ok (rvRowN k).form x
  rw [jV_ok hr]
  have e : ((k : Int)).toNat = k := rfl
  have hok : (readsV k x).ok := ⟨⟨by show (1 : Int) ≤ k; omega, by show (k : Int) ≤ 63; omega⟩, hr.1, hr.2.1, hr.2.2.1, hr.2.2.2⟩
  have he : encV (readsV k x) = aB k + (immV (rvRowN k).form (readsR (rvRowN k).form 0 x).imm + (readsR (rvRowN k).form 0 x).rd * 128 + (readsR (rvRowN k).form 0 x).rs1 * 32768 + (readsR (rvRowN k).form 0 x).rs2 * 1048576) + bB k * 4096 + cB k * (rvRowN k).form.cAt := by
    unfold aB bB cB
    rw [if_neg (by omega), if_neg (by omega), if_neg (by omega)]
    show ((rvRowN k).a : Int) + immV (rvRowN k).form (readsR (rvRowN k).form 0 x).imm + (readsR (rvRowN k).form 0 x).rd * 128 + (readsR (rvRowN k).form 0 x).rs1 * 32768 + (readsR (rvRowN k).form 0 x).rs2 * 1048576 + ((rvRowN k).b : Int) * 4096 + ((rvRowN k).c : Int) * (rvRowN k).form.cAt = _
    omega
  unfold IsWord
  rw [he]
  constructor
  · exact fun h => ⟨hok, h.symm⟩
  · exact fun h => h.2.symm
/-- A word's instruction is told by the first row that has it; no other has. -/
theorem isWord_row {y : RvV} {x : Int} (h : IsWord y x) : IsWord (readsV y.op x) x := by
  rw [(isWord_at h).2.2.2]
  exact h
end Go.Proofs.YtnaceogkaiodnaaGreat

namespace Go.Proofs.YtnaceogkaiodnaaGreat
open Go.RowKit
set_option linter.unusedVariables false

theorem eq4 (w : World) (a0 a1 a2 a3 b0 b1 b2 b3 : Int) : (Op.equalIn 10000 130 (.agg #[.int .i64 a0, .int .i64 a1, .int .i64 a2, .int .i64 a3]) (.agg #[.int .i64 b0, .int .i64 b1, .int .i64 b2, .int .i64 b3])).run Tryz.prog w = .ok (a0 == b0 && (a1 == b1 && (a2 == b2 && a3 == b3))) w := by
  have hc : Tryz.prog.cellsOf 3 = 1 := by kernel_rfl
  have hs : (Tryz.prog.info? 3).isSome = true := by kernel_rfl
  obtain ⟨i, hi⟩ := Option.isSome_iff_exists.1 hs
  rw [run_equalIn_array w 9999 _ _ Tryz.underlying130 hi, hc]
  have he : ∀ (a b : Int), (Op.equalIn 9999 3 (.int .i64 a) (.int .i64 b)).run Tryz.prog w = .ok (a == b) w := fun a b => run_equalIn_int w 9998 3 .i64 .i64 a b Tryz.underlying3
  have hr : List.range 4 = [0, 1, 2, 3] := rfl
  rw [hr]
  by_cases h0 : a0 = b0
  · by_cases h1 : a1 = b1
    · by_cases h2 : a2 = b2
      · by_cases h3 : a3 = b3 <;> simp [Op.eqItems, part, isAgg, run_underlying Tryz.underlying3, he, h0, h1, h2, h3]
      · simp [Op.eqItems, part, isAgg, run_underlying Tryz.underlying3, he, h0, h1, h2]
    · simp [Op.eqItems, part, isAgg, run_underlying Tryz.underlying3, he, h0, h1]
  · simp [Op.eqItems, part, isAgg, run_underlying Tryz.underlying3, he, h0]
def same4 (a0 a1 a2 a3 b0 b1 b2 b3 : Int) : Bool := a0 == b0 && (a1 == b1 && (a2 == b2 && a3 == b3))
theorem neq4 (w : World) (a0 a1 a2 a3 b0 b1 b2 b3 : Int) : (binOp .neq 130 (.agg #[.int .i64 a0, .int .i64 a1, .int .i64 a2, .int .i64 a3]) (.agg #[.int .i64 b0, .int .i64 b1, .int .i64 b2, .int .i64 b3])).run Tryz.prog w = .ok (.bool (!same4 a0 a1 a2 a3 b0 b1 b2 b3)) w := by
  rw [run_neq_struct, eq4]
  rfl
theorem same4_iff (f : RvForm) (rd rs1 rs2 imm : Int) {J : Int} (hJ : J = joinV (fdsV f.letter) (num4 rd rs1 rs2 imm)) :
    same4 (splitV (fdsV f.letter) J 0) (splitV (fdsV f.letter) J 1) (splitV (fdsV f.letter) J 2) (splitV (fdsV f.letter) J 3) rd rs1 rs2 imm = true ↔ Allowed f rd rs1 rs2 imm := by
  rw [← back_iff]
  unfold same4 BackSame
  rw [hJ]
  simp
theorem set4_cell {w : World} {g p j : Nat} {a b c d : Value} (h : p ≠ g) : ((((w.setCell ⟨g, 0, none⟩ a).setCell ⟨g, 1, none⟩ b).setCell ⟨g, 2, none⟩ c).setCell ⟨g, 3, none⟩ d).cell? ⟨p, j, none⟩ = w.cell? ⟨p, j, none⟩ :=
  World.cell?_of_block ((heap_setCell_other _ _ _ _ h).trans ((heap_setCell_other _ _ _ _ h).trans ((heap_setCell_other _ _ _ _ h).trans (heap_setCell_other _ _ _ _ h))))
/-- What Encode answers. -/
def EncDone (w : World) (x e0 : Int) (e : Ending) (w' : World) : Prop := e = .returned (.tuple #[.int .u32 x, .int .i64 e0]) ∧ Below w.heap.size w w'
/-- What is known ahead of the word: the row, its fields, what is its own. -/
structure RowKnown (k : Nat) (s : ByteArray) (L a b c o m : Int) (l : List Fd) : Prop where
  row : ∀ w, Calls Tryz.prog 136 #[.int .i64 k] w fun e w' => e = .returned (.tuple #[.agg #[.string s, .int .u8 L, .int .u8 a, .int .u8 b, .int .u8 c], .bool true]) ∧ Below w.heap.size w w'
  fields : ∀ w, Calls Tryz.prog 82 #[.int .u8 L] w (FdsDone w l)
  own : ∀ w, Calls Tryz.prog 80 #[.agg #[.string s, .int .u8 L, .int .u8 a, .int .u8 b, .int .u8 c]] w (OwnDone w o m)
  len : l.length ≤ 6
theorem fds_len (f : RvForm) : (fdsV f.letter).length ≤ 6 := by cases f <;> decide
theorem row_known {k : Nat} (h : 1 ≤ k) (h' : k ≤ 63) : RowKnown k (nameB k) (letB k) (aB k) (bB k) (cB k) (ownV (rvRowN k).form (aB k) (bB k) (cB k)) (maskV (rvRowN k).form) (fdsV (rvRowN k).form.letter) := by
  obtain ⟨h1, h2, h3⟩ := row_bd h h'
  have hl := lim_256 (rvRowN k).form
  refine ⟨fun w => rowOf_yes k w h h', fun w => ?_, fun w => ?_, fds_len _⟩
  · rw [letB_form h]
    exact fields_any _ w
  · rw [letB_form h]
    exact own_any _ _ _ _ _ w (by omega) (by omega) (by omega) (by omega) (by omega) (by omega)
set_option maxHeartbeats 4000000 in
theorem enc_yes (k : Nat) (rd rs1 rs2 imm : Int) (s : ByteArray) (L a b c o m : Int) (l : List Fd) (J S0 S1 S2 S3 : Int) (w : World) (hK : RowKnown k s L a b c o m l) (i0 : InI rd) (i1 : InI rs1) (i2 : InI rs2) (i3 : InI imm)
    (hJ : joinV l (num4 rd rs1 rs2 imm) = J) (h0 : splitV l J 0 = S0) (h1 : splitV l J 1 = S1) (h2 : splitV l J 2 = S2) (h3 : splitV l J 3 = S3) (ht : same4 S0 S1 S2 S3 rd rs1 rs2 imm = true) :
    Calls Tryz.prog 117 #[.agg #[.int .i64 k, .int .i64 rd, .int .i64 rs1, .int .i64 rs2, .int .i64 imm]] w (EncDone w (bits .or .u32 o J) 0) := by
  have HK := Lib.hid hK
  have HJ := Lib.hid (fun A V w hV => join_any A V l rd rs1 rs2 imm w hV i0 i1 i2 i3 hK.len)
  rw [hJ] at HJ
  have HS := Lib.hid (fun A V w hV => split_any A V l J w hV (by rw [← hJ]; exact (joinV_bd _ _).1) (by rw [← hJ]; exact (joinV_bd _ _).2) hK.len)
  rw [h0, h1, h2, h3] at HS
  have hne := fun w => neq4 w S0 S1 S2 S3 rd rs1 rs2 imm
  rw [ht] at hne
  have hx0 : ∀ j v, #[Value.int .i64 k, .int .i64 rd, .int .i64 rs1, .int .i64 rs2, .int .i64 imm][j]? = some v → (w.alloc (.cells #[.int .i64 k, .int .i64 rd, .int .i64 rs1, .int .i64 rs2, .int .i64 imm] 76)).cell? ⟨w.heap.size, j, none⟩ = some v := fun j v hv => new_cell _ _ _ _ _ _ rfl hv
  have HX0 := Lib.hid hx0
  clear ht h0 h1 h2 h3 hJ hK i0 i1 i2 i3 hx0
  go_enter Tryz.func117, Tryz.ntmps117
  go_wp2_with (go_at_call 136; (with_reducible refine (HK.out.row _).mono ?_); rintro e w1 ⟨rfl, hb⟩; have HB := Lib.hid hb; clear hb)
  have hz1 : w.heap.size < w1.heap.size := by have := HB.out.size; simp at this; omega
  have hx : ∀ j v, #[Value.int .i64 k, .int .i64 rd, .int .i64 rs1, .int .i64 rs2, .int .i64 imm][j]? = some v → w1.cell? ⟨w.heap.size, j, none⟩ = some v := fun j v hv => (HB.out.cell (p := ⟨w.heap.size, j, none⟩) (by simp)).trans (HX0.out j v hv)
  have hk1 : (w1.alloc (.cells #[.string s, .int .u8 L, .int .u8 a, .int .u8 b, .int .u8 c] 126)).cell? ⟨w1.heap.size, 1, none⟩ = some (.int .u8 L) ∧ (w1.alloc (.cells #[.string s, .int .u8 L, .int .u8 a, .int .u8 b, .int .u8 c] 126)).cell? ⟨w.heap.size, 1, none⟩ = some (.int .i64 rd) ∧ (w1.alloc (.cells #[.string s, .int .u8 L, .int .u8 a, .int .u8 b, .int .u8 c] 126)).cell? ⟨w.heap.size, 2, none⟩ = some (.int .i64 rs1) ∧ (w1.alloc (.cells #[.string s, .int .u8 L, .int .u8 a, .int .u8 b, .int .u8 c] 126)).cell? ⟨w.heap.size, 3, none⟩ = some (.int .i64 rs2) ∧ (w1.alloc (.cells #[.string s, .int .u8 L, .int .u8 a, .int .u8 b, .int .u8 c] 126)).cell? ⟨w.heap.size, 4, none⟩ = some (.int .i64 imm) := ⟨new_cell _ _ _ _ _ _ rfl rfl, old_cell _ (hx 1 _ rfl), old_cell _ (hx 2 _ rfl), old_cell _ (hx 3 _ rfl), old_cell _ (hx 4 _ rfl)⟩
  have hr1 : (w1.alloc (.cells #[.string s, .int .u8 L, .int .u8 a, .int .u8 b, .int .u8 c] 126)).heap[w1.heap.size]? = some (.cells #[.string s, .int .u8 L, .int .u8 a, .int .u8 b, .int .u8 c] 126 (0, 0)) := heap_alloc_new _ _
  have hb1 : Below w.heap.size w (w1.alloc (.cells #[.string s, .int .u8 L, .int .u8 a, .int .u8 b, .int .u8 c] 126)) := (((Below.refl _ _).alloc (Nat.le_refl _) _).trans (HB.out.mono (by simp))).alloc (Nat.le_of_lt hz1) _
  have hz2 : w1.heap.size < (w1.alloc (.cells #[.string s, .int .u8 L, .int .u8 a, .int .u8 b, .int .u8 c] 126)).heap.size := by simp
  generalize w1.alloc (.cells #[.string s, .int .u8 L, .int .u8 a, .int .u8 b, .int .u8 c] 126) = W at *
  have HR1 := Lib.hid hr1
  have HB1 := Lib.hid hb1
  have HK1 := Lib.hid hk1
  clear hr1 hb1 hx
  go_region_held3 (fun w' => w'.cell? ⟨w1.heap.size, 1, none⟩ = some (.int .u8 L) ∧ w'.cell? ⟨w.heap.size, 1, none⟩ = some (.int .i64 rd) ∧ w'.cell? ⟨w.heap.size, 2, none⟩ = some (.int .i64 rs1) ∧ w'.cell? ⟨w.heap.size, 3, none⟩ = some (.int .i64 rs2) ∧ w'.cell? ⟨w.heap.size, 4, none⟩ = some (.int .i64 imm)) (first | with_reducible exact HK2.out | with_reducible exact ⟨(set4_cell (by omega)).trans HK2.out.1, (set4_cell (by omega)).trans HK2.out.2.1, (set4_cell (by omega)).trans HK2.out.2.2.1, (set4_cell (by omega)).trans HK2.out.2.2.2.1, (set4_cell (by omega)).trans HK2.out.2.2.2.2⟩ | with_reducible exact ⟨old_cell _ HK2.out.1, old_cell _ HK2.out.2.1, old_cell _ HK2.out.2.2.1, old_cell _ HK2.out.2.2.2.1, old_cell _ HK2.out.2.2.2.2⟩ | go_keep)
    (first
      | (go_at_call 82; (with_reducible refine (HK.out.fields _).mono ?_); rintro e w2 ⟨V, rfl, hV, hb⟩; have HK2 := Lib.hid (⟨(hb.cell (p := ⟨w1.heap.size, 1, none⟩) (by simp <;> omega)).trans (by go_simp), (hb.cell (p := ⟨w.heap.size, 1, none⟩) (by simp <;> omega)).trans (by go_simp), (hb.cell (p := ⟨w.heap.size, 2, none⟩) (by simp <;> omega)).trans (by go_simp), (hb.cell (p := ⟨w.heap.size, 3, none⟩) (by simp <;> omega)).trans (by go_simp), (hb.cell (p := ⟨w.heap.size, 4, none⟩) (by simp <;> omega)).trans (by go_simp)⟩ : w2.cell? ⟨w1.heap.size, 1, none⟩ = some (.int .u8 L) ∧ w2.cell? ⟨w.heap.size, 1, none⟩ = some (.int .i64 rd) ∧ w2.cell? ⟨w.heap.size, 2, none⟩ = some (.int .i64 rs1) ∧ w2.cell? ⟨w.heap.size, 3, none⟩ = some (.int .i64 rs2) ∧ w2.cell? ⟨w.heap.size, 4, none⟩ = some (.int .i64 imm)); obtain ⟨q1, q2⟩ := bcell hb; have HV := Lib.hid hV; have HB2 := Lib.hid hb; have z2 := hb.size; have z3 : w1.heap.size < w2.heap.size := (by simp at z2; omega); have z4 : w.heap.size < w2.heap.size := (by omega); have hk2 := HK2.out; clear hV hb))
  · have hN : NumAt (w2.alloc (.cells #[.int .i64 rd, .int .i64 rs1, .int .i64 rs2, .int .i64 imm] 130)) w2.heap.size (num4 rd rs1 rs2 imm) := heap_alloc_new _ _
    have hV3 : IsFds (w2.alloc (.cells #[.int .i64 rd, .int .i64 rs1, .int .i64 rs2, .int .i64 imm] 130)) W.drew.heap.size (w2.alloc (.cells #[.int .i64 rd, .int .i64 rs1, .int .i64 rs2, .int .i64 imm] 130)).heap.size V l := (HV.out.below ((Below.refl _ _).alloc (Nat.le_refl _) _) (Nat.le_refl _)).more (by simp) (Nat.le_refl _)
    have hR3 : (w2.alloc (.cells #[.int .i64 rd, .int .i64 rs1, .int .i64 rs2, .int .i64 imm] 130)).heap[w1.heap.size]? = some (.cells #[.string s, .int .u8 L, .int .u8 a, .int .u8 b, .int .u8 c] 126 (0, 0)) := (heap_alloc_old _ _ z3).trans ((HB2.out.block _ hz2).trans HR1.out)
    have hB3 : Below w.heap.size w (w2.alloc (.cells #[.int .i64 rd, .int .i64 rs1, .int .i64 rs2, .int .i64 imm] 130)) := (HB1.out.trans ((below_of_drew HB2.out).mono HB1.out.size)).alloc (by omega) _
    generalize w2.alloc (.cells #[.int .i64 rd, .int .i64 rs1, .int .i64 rs2, .int .i64 imm] 130) = W3 at *
    obtain ⟨p, hpe⟩ : ∃ p, p = w2.heap.size := ⟨_, rfl⟩
    rw [← hpe] at hN ⊢
    clear hpe HV HB2 q1 q2 z2 z3 z4 hk2 HK2 hk1 HK1 HB1 HR1
    try clear hHeld
    have hp := hN.lt
    have hN4 : W3.cell? ⟨p, 0, none⟩ = some (.int .i64 rd) ∧ W3.cell? ⟨p, 1, none⟩ = some (.int .i64 rs1) ∧ W3.cell? ⟨p, 2, none⟩ = some (.int .i64 rs2) ∧ W3.cell? ⟨p, 3, none⟩ = some (.int .i64 imm) := ⟨hN.cell (j := 0) (by omega), hN.cell (j := 1) (by omega), hN.cell (j := 2) (by omega), hN.cell (j := 3) (by omega)⟩
    have HV3 := Lib.hid hV3
    have HR3 := Lib.hid hR3
    have HB3 := Lib.hid hB3
    have HN4 := Lib.hid hN4
    obtain ⟨n0, n1, n2, n3⟩ := hN4
    clear hV3 hR3 hB3 hN
    go_wp2_with (go_at_call 137; (with_reducible refine (HJ.out _ _ _ HV3.out).mono ?_); rintro e w4 ⟨rfl, hb⟩; have B4 := Lib.hid hb; have y4 := hb.size; have g0 := (hb.cell (p := ⟨p, 0, none⟩) hp).trans HN4.out.1; have g1 := (hb.cell (p := ⟨p, 1, none⟩) hp).trans HN4.out.2.1; have g2 := (hb.cell (p := ⟨p, 2, none⟩) hp).trans HN4.out.2.2.1; have g3 := (hb.cell (p := ⟨p, 3, none⟩) hp).trans HN4.out.2.2.2; clear hb)
    have HV4 := Lib.hid ((HV3.out.below B4.out (Nat.le_refl _)).more B4.out.size (Nat.le_refl _))
    have HV5 := Lib.hid (IsFds.of_blocks (w' := w4.drew) HV4.out (fun _ _ _ => rfl))
    have HG := Lib.hid (show w4.cell? ⟨p, 0, none⟩ = some (.int .i64 rd) ∧ w4.cell? ⟨p, 1, none⟩ = some (.int .i64 rs1) ∧ w4.cell? ⟨p, 2, none⟩ = some (.int .i64 rs2) ∧ w4.cell? ⟨p, 3, none⟩ = some (.int .i64 imm) from ⟨g0, g1, g2, g3⟩)
    have hp4 : p < w4.heap.size := by omega
    go_region_held3 (fun w' => w'.cell? ⟨p, 0, none⟩ = some (.int .i64 rd) ∧ w'.cell? ⟨p, 1, none⟩ = some (.int .i64 rs1) ∧ w'.cell? ⟨p, 2, none⟩ = some (.int .i64 rs2) ∧ w'.cell? ⟨p, 3, none⟩ = some (.int .i64 imm)) (first | go_keep | with_reducible exact HG5.out)
      (first
        | (go_at_call 81; (with_reducible refine (HS.out _ _ _ HV5.out).mono ?_); rintro e w5 ⟨rfl, hb⟩; have B5 := Lib.hid (below_of_drew hb); have HG5 := Lib.hid (⟨(hb.cell (p := ⟨p, 0, none⟩) hp4).trans HG.out.1, (hb.cell (p := ⟨p, 1, none⟩) hp4).trans HG.out.2.1, (hb.cell (p := ⟨p, 2, none⟩) hp4).trans HG.out.2.2.1, (hb.cell (p := ⟨p, 3, none⟩) hp4).trans HG.out.2.2.2⟩ : w5.cell? ⟨p, 0, none⟩ = some (.int .i64 rd) ∧ w5.cell? ⟨p, 1, none⟩ = some (.int .i64 rs1) ∧ w5.cell? ⟨p, 2, none⟩ = some (.int .i64 rs2) ∧ w5.cell? ⟨p, 3, none⟩ = some (.int .i64 imm)); clear hb))
    have hr5 : w5.heap[w1.heap.size]? = some (.cells #[.string s, .int .u8 L, .int .u8 a, .int .u8 b, .int .u8 c] 126 (0, 0)) := by
      rw [B5.out.block _ (show w1.heap.size < w4.heap.size by have := heap_lt HR3.out; omega), B4.out.block _ (heap_lt HR3.out)]
      exact HR3.out
    have r0 : w5.cell? ⟨w1.heap.size, 0, none⟩ = some (.string s) := cell_of_row _ _ _ _ _ _ hr5
    have r1 : w5.cell? ⟨w1.heap.size, 1, none⟩ = some (.int .u8 L) := cell_of_row _ _ _ _ _ _ hr5
    have r2 : w5.cell? ⟨w1.heap.size, 2, none⟩ = some (.int .u8 a) := cell_of_row _ _ _ _ _ _ hr5
    have r3 : w5.cell? ⟨w1.heap.size, 3, none⟩ = some (.int .u8 b) := cell_of_row _ _ _ _ _ _ hr5
    have r4 : w5.cell? ⟨w1.heap.size, 4, none⟩ = some (.int .u8 c) := cell_of_row _ _ _ _ _ _ hr5
    clear hr5
    go_wp2_with (go_at_call 80; (with_reducible refine (HK.out.own _).mono ?_); rintro e w6 ⟨rfl, hb⟩; have B6 := Lib.hid hb; clear hb)
    go_ret2
    exact ⟨rfl, HB3.out.trans ((B4.out.trans ((B5.out.trans (B6.out.mono B5.out.size)).mono B4.out.size)).mono HB3.out.size)⟩
  · have hw2 : NumAt w2 W.heap.size (fun _ => 0) := by
      unfold NumAt
      rw [HB2.out.block _ (show W.heap.size < _ by simp)]
      exact heap_alloc_new W _
    have hN : NumAt ((((w2.setCell ⟨W.heap.size, 0, none⟩ (.int .i64 rd)).setCell ⟨W.heap.size, 1, none⟩ (.int .i64 rs1)).setCell ⟨W.heap.size, 2, none⟩ (.int .i64 rs2)).setCell ⟨W.heap.size, 3, none⟩ (.int .i64 imm)) W.heap.size (num4 rd rs1 rs2 imm) := by
      have h4 := (((hw2.set (j := 0) (by omega) rd).set (j := 1) (by omega) rs1).set (j := 2) (by omega) rs2).set (j := 3) (by omega) imm
      exact h4
    have hV3 : IsFds ((((w2.setCell ⟨W.heap.size, 0, none⟩ (.int .i64 rd)).setCell ⟨W.heap.size, 1, none⟩ (.int .i64 rs1)).setCell ⟨W.heap.size, 2, none⟩ (.int .i64 rs2)).setCell ⟨W.heap.size, 3, none⟩ (.int .i64 imm)) (W.heap.size + 1) ((((w2.setCell ⟨W.heap.size, 0, none⟩ (.int .i64 rd)).setCell ⟨W.heap.size, 1, none⟩ (.int .i64 rs1)).setCell ⟨W.heap.size, 2, none⟩ (.int .i64 rs2)).setCell ⟨W.heap.size, 3, none⟩ (.int .i64 imm)).heap.size V l :=
      (IsFds.of_blocks (HV.out.more (Nat.le_refl _) (show W.heap.size + 1 ≤ _ by simp)) (fun k hk _ => (heap_setCell_other _ _ _ _ (by show k ≠ W.heap.size; omega)).trans ((heap_setCell_other _ _ _ _ (by show k ≠ W.heap.size; omega)).trans ((heap_setCell_other _ _ _ _ (by show k ≠ W.heap.size; omega)).trans (heap_setCell_other _ _ _ _ (by show k ≠ W.heap.size; omega)))))).more (by simp) (Nat.le_refl _)
    have hR3 : ((((w2.setCell ⟨W.heap.size, 0, none⟩ (.int .i64 rd)).setCell ⟨W.heap.size, 1, none⟩ (.int .i64 rs1)).setCell ⟨W.heap.size, 2, none⟩ (.int .i64 rs2)).setCell ⟨W.heap.size, 3, none⟩ (.int .i64 imm)).heap[w1.heap.size]? = some (.cells #[.string s, .int .u8 L, .int .u8 a, .int .u8 b, .int .u8 c] 126 (0, 0)) :=
      ((heap_setCell_other _ _ _ _ (by show w1.heap.size ≠ W.heap.size; omega)).trans ((heap_setCell_other _ _ _ _ (by show w1.heap.size ≠ W.heap.size; omega)).trans ((heap_setCell_other _ _ _ _ (by show w1.heap.size ≠ W.heap.size; omega)).trans (heap_setCell_other _ _ _ _ (by show w1.heap.size ≠ W.heap.size; omega))))).trans ((HB2.out.block _ (show w1.heap.size < _ by simp; omega)).trans ((heap_alloc_old W _ hz2).trans HR1.out))
    have hB3 : Below w.heap.size w ((((w2.setCell ⟨W.heap.size, 0, none⟩ (.int .i64 rd)).setCell ⟨W.heap.size, 1, none⟩ (.int .i64 rs1)).setCell ⟨W.heap.size, 2, none⟩ (.int .i64 rs2)).setCell ⟨W.heap.size, 3, none⟩ (.int .i64 imm)) := by
      have h0 : Below w.heap.size w w2 := (HB1.out.alloc HB1.out.size _).trans ((below_of_drew HB2.out).mono (by simp; omega))
      have hle : w.heap.size ≤ W.heap.size := by omega
      exact (((h0.setCell (p := ⟨W.heap.size, 0, none⟩) hle _).setCell (p := ⟨W.heap.size, 1, none⟩) hle _).setCell (p := ⟨W.heap.size, 2, none⟩) hle _).setCell (p := ⟨W.heap.size, 3, none⟩) hle _
    generalize (((w2.setCell ⟨W.heap.size, 0, none⟩ (.int .i64 rd)).setCell ⟨W.heap.size, 1, none⟩ (.int .i64 rs1)).setCell ⟨W.heap.size, 2, none⟩ (.int .i64 rs2)).setCell ⟨W.heap.size, 3, none⟩ (.int .i64 imm) = W3 at *
    obtain ⟨p, hpe⟩ : ∃ p, p = W.heap.size := ⟨_, rfl⟩
    rw [← hpe] at hN ⊢
    clear hpe HV HB2 q1 q2 z2 z3 z4 hk2 HK2 hk1 HK1 HB1 HR1 hw2
    try clear hHeld
    have hp := hN.lt
    have hN4 : W3.cell? ⟨p, 0, none⟩ = some (.int .i64 rd) ∧ W3.cell? ⟨p, 1, none⟩ = some (.int .i64 rs1) ∧ W3.cell? ⟨p, 2, none⟩ = some (.int .i64 rs2) ∧ W3.cell? ⟨p, 3, none⟩ = some (.int .i64 imm) := ⟨hN.cell (j := 0) (by omega), hN.cell (j := 1) (by omega), hN.cell (j := 2) (by omega), hN.cell (j := 3) (by omega)⟩
    have HV3 := Lib.hid hV3
    have HR3 := Lib.hid hR3
    have HB3 := Lib.hid hB3
    have HN4 := Lib.hid hN4
    obtain ⟨n0, n1, n2, n3⟩ := hN4
    clear hV3 hR3 hB3 hN
    go_wp2_with (go_at_call 137; (with_reducible refine (HJ.out _ _ _ HV3.out).mono ?_); rintro e w4 ⟨rfl, hb⟩; have B4 := Lib.hid hb; have y4 := hb.size; have g0 := (hb.cell (p := ⟨p, 0, none⟩) hp).trans HN4.out.1; have g1 := (hb.cell (p := ⟨p, 1, none⟩) hp).trans HN4.out.2.1; have g2 := (hb.cell (p := ⟨p, 2, none⟩) hp).trans HN4.out.2.2.1; have g3 := (hb.cell (p := ⟨p, 3, none⟩) hp).trans HN4.out.2.2.2; clear hb)
    have HV4 := Lib.hid ((HV3.out.below B4.out (Nat.le_refl _)).more B4.out.size (Nat.le_refl _))
    have HV5 := Lib.hid (IsFds.of_blocks (w' := w4.drew) HV4.out (fun _ _ _ => rfl))
    have HG := Lib.hid (show w4.cell? ⟨p, 0, none⟩ = some (.int .i64 rd) ∧ w4.cell? ⟨p, 1, none⟩ = some (.int .i64 rs1) ∧ w4.cell? ⟨p, 2, none⟩ = some (.int .i64 rs2) ∧ w4.cell? ⟨p, 3, none⟩ = some (.int .i64 imm) from ⟨g0, g1, g2, g3⟩)
    have hp4 : p < w4.heap.size := by omega
    go_region_held3 (fun w' => w'.cell? ⟨p, 0, none⟩ = some (.int .i64 rd) ∧ w'.cell? ⟨p, 1, none⟩ = some (.int .i64 rs1) ∧ w'.cell? ⟨p, 2, none⟩ = some (.int .i64 rs2) ∧ w'.cell? ⟨p, 3, none⟩ = some (.int .i64 imm)) (first | go_keep | with_reducible exact HG5.out)
      (first
        | (go_at_call 81; (with_reducible refine (HS.out _ _ _ HV5.out).mono ?_); rintro e w5 ⟨rfl, hb⟩; have B5 := Lib.hid (below_of_drew hb); have HG5 := Lib.hid (⟨(hb.cell (p := ⟨p, 0, none⟩) hp4).trans HG.out.1, (hb.cell (p := ⟨p, 1, none⟩) hp4).trans HG.out.2.1, (hb.cell (p := ⟨p, 2, none⟩) hp4).trans HG.out.2.2.1, (hb.cell (p := ⟨p, 3, none⟩) hp4).trans HG.out.2.2.2⟩ : w5.cell? ⟨p, 0, none⟩ = some (.int .i64 rd) ∧ w5.cell? ⟨p, 1, none⟩ = some (.int .i64 rs1) ∧ w5.cell? ⟨p, 2, none⟩ = some (.int .i64 rs2) ∧ w5.cell? ⟨p, 3, none⟩ = some (.int .i64 imm)); clear hb))
    have hr5 : w5.heap[w1.heap.size]? = some (.cells #[.string s, .int .u8 L, .int .u8 a, .int .u8 b, .int .u8 c] 126 (0, 0)) := by
      rw [B5.out.block _ (show w1.heap.size < w4.heap.size by have := heap_lt HR3.out; omega), B4.out.block _ (heap_lt HR3.out)]
      exact HR3.out
    have r0 : w5.cell? ⟨w1.heap.size, 0, none⟩ = some (.string s) := cell_of_row _ _ _ _ _ _ hr5
    have r1 : w5.cell? ⟨w1.heap.size, 1, none⟩ = some (.int .u8 L) := cell_of_row _ _ _ _ _ _ hr5
    have r2 : w5.cell? ⟨w1.heap.size, 2, none⟩ = some (.int .u8 a) := cell_of_row _ _ _ _ _ _ hr5
    have r3 : w5.cell? ⟨w1.heap.size, 3, none⟩ = some (.int .u8 b) := cell_of_row _ _ _ _ _ _ hr5
    have r4 : w5.cell? ⟨w1.heap.size, 4, none⟩ = some (.int .u8 c) := cell_of_row _ _ _ _ _ _ hr5
    clear hr5
    go_wp2_with (go_at_call 80; (with_reducible refine (HK.out.own _).mono ?_); rintro e w6 ⟨rfl, hb⟩; have B6 := Lib.hid hb; clear hb)
    go_ret2
    exact ⟨rfl, HB3.out.trans ((B4.out.trans ((B5.out.trans (B6.out.mono B5.out.size)).mono B4.out.size)).mono HB3.out.size)⟩
end Go.Proofs.YtnaceogkaiodnaaGreat

namespace Go.Proofs.YtnaceogkaiodnaaGreat
open Go.RowKit
set_option linter.unusedVariables false
set_option linter.unusedSimpArgs false
end Go.Proofs.YtnaceogkaiodnaaGreat
namespace Go.Proofs.YtnaceogkaiodnaaGreat
open Go.RowKit
set_option linter.unusedVariables false

/-- An instruction's numbers are the machine's. -/
structure RvIn (x : RvV) : Prop where
  op : InI x.op
  rd : InI x.rd
  rs1 : InI x.rs1
  rs2 : InI x.rs2
  imm : InI x.imm
theorem enc_ok {x : RvV} (hx : x.ok) (hi : RvIn x) (w : World) : Calls Tryz.prog 117 #[.agg #[.int .i64 x.op, .int .i64 x.rd, .int .i64 x.rs1, .int .i64 x.rs2, .int .i64 x.imm]] w (EncDone w (encV x) 0) := by
  obtain ⟨op, rd, rs1, rs2, imm⟩ := x
  have h1 : 1 ≤ op := hx.op.1
  have h2 : op ≤ 63 := hx.op.2
  obtain ⟨k, rfl⟩ : ∃ k : Nat, op = k := ⟨op.toNat, by omega⟩
  have ha := (ok_iff (k := k) (by omega) (by omega) rd rs1 rs2 imm).1 hx
  have hs := (same4_iff _ rd rs1 rs2 imm rfl).2 ha
  have := enc_yes k rd rs1 rs2 imm _ _ _ _ _ _ _ _ _ _ _ _ _ w (row_known (by omega) (by omega)) hi.rd hi.rs1 hi.rs2 hi.imm rfl rfl rfl rfl rfl hs
  rw [word_is (by omega) (by omega) ha] at this
  exact this
end Go.Proofs.YtnaceogkaiodnaaGreat

namespace Go.Proofs.YtnaceogkaiodnaaGreat
open Go.RowKit
set_option linter.unusedVariables false

theorem results_cell_slot {P : Program} {fn : Func} {p q : Tmp} {ty : TypeId} (h : fn.results = #[.cell p ty, .tmp q]) (tmps : Array Value) (w : World) (g : Nat) (t : TypeId) (cs : Array Value) (fr : Nat × Nat) (d : TypeDesc)
    (hp : tmps.getD p undef = .pointer (some ⟨g, 0, none⟩)) (hg : w.heap[g]? = some (.cells cs t fr))
    (hu : P.underlying ty = some d) (hd : (match d with | .struct _ | .array _ _ => true | _ => false) = true) (hi : (P.info? ty).map (·.size) = some cs.size) :
    (results fn tmps).run P w = .ok (.tuple #[.agg cs, tmps.getD q undef]) w := by
  have hp' : tmps[p]?.getD undef = .pointer (some ⟨g, 0, none⟩) := by simpa using hp
  simp [results, h, hp', asAddr, run_loadVar_row w g t ty cs fr d hg hu hd hi]
theorem fiveD_set {w1 : World} {g : Nat} {t : TypeId} {v0 v1 v2 v3 v4 c0 c1 c2 c3 c4 : Value} (h : w1.heap[g]? = some (.cells #[c0, c1, c2, c3, c4] t (0, 0))) :
    (((((w1.setCell ⟨g, 0, none⟩ v0).setCell ⟨g, 1, none⟩ v1).setCell ⟨g, 2, none⟩ v2).setCell ⟨g, 3, none⟩ v3).setCell ⟨g, 4, none⟩ v4).heap[g]? = some (.cells #[v0, v1, v2, v3, v4] t (0, 0)) := by
  have e0 := heap_setCell_same w1 g 0 _ t v0 h
  have e1 := heap_setCell_same _ g 1 _ t v1 e0
  have e2 := heap_setCell_same _ g 2 _ t v2 e1
  have e3 := heap_setCell_same _ g 3 _ t v3 e2
  have e4 := heap_setCell_same _ g 4 _ t v4 e3
  exact e4
theorem fiveD_below {B : Nat} {w w1 : World} {g : Nat} {v0 v1 v2 v3 v4 : Value} (h : Below B w w1) (hg : B ≤ g) :
    Below B w (((((w1.setCell ⟨g, 0, none⟩ v0).setCell ⟨g, 1, none⟩ v1).setCell ⟨g, 2, none⟩ v2).setCell ⟨g, 3, none⟩ v3).setCell ⟨g, 4, none⟩ v4) :=
  ((((h.setCell (p := ⟨g, 0, none⟩) hg _).setCell (p := ⟨g, 1, none⟩) hg _).setCell (p := ⟨g, 2, none⟩) hg _).setCell (p := ⟨g, 3, none⟩) hg _).setCell (p := ⟨g, 4, none⟩) hg _
theorem blockD_free {w : World} {g : Nat} {cs : Array Value} {t : TypeId} (h : w.heap[g]? = some (.cells cs t (0, 0))) (j : Nat) : w.frozen? ⟨g, j, none⟩ = false := by simp [World.frozen?, h]
theorem rvD_size : (Tryz.prog.info? 76).map (·.size) = some 5 := by kernel_rfl
/-- What Decode answers. -/
def DecDone (w : World) (x : Int) (e : Ending) (w' : World) : Prop :=
  ((∃ y : RvV, IsWord y x ∧ e = .returned (.tuple #[.agg #[.int .i64 y.op, .int .i64 y.rd, .int .i64 y.rs1, .int .i64 y.rs2, .int .i64 y.imm], .int .i64 0])) ∨
    ((∀ y, ¬ IsWord y x) ∧ e = .returned (.tuple #[.agg #[.int .i64 0, .int .i64 0, .int .i64 0, .int .i64 0, .int .i64 0], .int .i64 16]))) ∧ Below w.heap.size w w'
/-- The loop's state: the answer's place untouched, the table, no row that fits so far. -/
structure DecAt (w W : World) (x : Int) (g k : Nat) (wr : World) : Prop where
  res : wr.heap[w.heap.size]? = some (.cells #[.int .i64 0, .int .i64 0, .int .i64 0, .int .i64 0, .int .i64 0] 76 (0, 0))
  row : wr.heap[g]? = some (.cells rows1 126 (0, 0))
  bel : Below w.heap.size w wr
  no : ∀ j : Nat, 1 ≤ j → j < k → ¬ IsWord (readsV j x) x
theorem DecAt.grow {w W wr wr' : World} {x : Int} {g k : Nat} (h : DecAt w W x g k wr) (hb : Below wr.heap.size wr wr') : DecAt w W x g k wr' :=
  ⟨(hb.block _ (heap_lt h.res)).trans h.res, (hb.block _ (heap_lt h.row)).trans h.row, h.bel.trans (hb.mono h.bel.size), h.no⟩
theorem DecAt.next {w W wr : World} {x : Int} {g k : Nat} (h : DecAt w W x g k wr) (hk : 1 ≤ k → ¬ IsWord (readsV k x) x) : DecAt w W x g (k + 1) wr :=
  ⟨h.res, h.row, h.bel, fun j h1 h2 => by
    by_cases e : j = k
    · subst e; exact hk h1
    · exact h.no j h1 (by omega)⟩
theorem DecAt.none {w W wr : World} {x : Int} {g : Nat} (h : DecAt w W x g 64 wr) : ∀ y, ¬ IsWord y x := fun y hy => by
  have h1 := (isWord_at hy).1
  have h2 := (isWord_at hy).2.1
  refine h.no y.op.toNat (by omega) (by omega) ?_
  rw [show ((y.op.toNat : Nat) : Int) = y.op by omega]
  exact isWord_row hy
set_option maxHeartbeats 8000000 in
set_option maxRecDepth 100000 in
theorem dec_any (x : Int) (w : World) (hx : 0 ≤ x) (hx' : x < 4294967296) : Calls Tryz.prog 63 #[.int .u32 x] w (DecDone w x) := by
  have HX := Lib.hid (And.intro hx hx')
  go_enter Tryz.func63, Tryz.ntmps63
  go_wp2_with (go_at_call 79; (with_reducible refine (rows_any _).mono ?_); rintro e w1 ⟨rfl, hg, hb⟩; have HG := Lib.hid hg; have HB := Lib.hid hb; clear hg hb)
  have hst : DecAt w w x (w.heap.size + 1) 0 w1 :=
    ⟨(HB.out.block _ (by simp)).trans (heap_alloc_new w _), by have := HG.out; simpa using this, ((Below.refl _ _).alloc (Nat.le_refl _) _).trans (HB.out.mono (by simp)), fun j h1 h2 => by omega⟩
  have HST := Lib.hid hst
  clear hst HG HB
  go_loopw [11] (fun i wr => ∃ k : Nat, k ≤ 64 ∧ i = .int .i64 k ∧ Hid (DecAt w w x (w.heap.size + 1) k wr)) (fun i _ => 64 - (intOf i).toNat)
  case atStart => exact ⟨0, by omega, rfl, HST⟩
  case round =>
    obtain ⟨k, hk, rfl, hq⟩ := hrel
    by_cases hlt : k < 64
    · obtain ⟨c0, c1, c2, c3, c4⟩ := rows_cells hq.out.row hlt
      have hgl := heap_lt hq.out.row
      have hk0 : (0 : Int) ≤ (k : Int) := by omega
      have hk1 : (k : Int) < 64 := by omega
      by_cases h0 : k = 0
      · subst h0
        have e1 : letB 0 = 0 := rfl
        have e2 : aB 0 = 0 := rfl
        have e3 : bB 0 = 0 := rfl
        have e4 : cB 0 = 0 := rfl
        rw [e1] at c1
        rw [e2] at c2
        rw [e3] at c3
        rw [e4] at c4
        clear e1 e2 e3 e4
        generalize nameB 0 = s0 at *
        have c0 : wr.cell? ⟨w.heap.size + 1, 0, none⟩ = some (.string s0) := c0
        have c1 : wr.cell? ⟨w.heap.size + 1, 1, none⟩ = some (.int .u8 0) := c1
        have c2 : wr.cell? ⟨w.heap.size + 1, 2, none⟩ = some (.int .u8 0) := c2
        have c3 : wr.cell? ⟨w.heap.size + 1, 3, none⟩ = some (.int .u8 0) := c3
        have c4 : wr.cell? ⟨w.heap.size + 1, 4, none⟩ = some (.int .u8 0) := c4
        go_wp2_with (go_at_call 80; (with_reducible refine (own_0 _ _).mono ?_); rintro e w2 ⟨rfl, hb⟩; have B2 := Lib.hid hb; have fm := (hb.cell (p := ⟨wr.heap.size, 1, none⟩) (by simp)).trans (new_cell _ _ _ _ _ _ rfl rfl); clear hb)
        go_roundw
        case rel => exact ⟨1, by omega, by go_num, Lib.hid (((hq.out.grow ((Below.refl _ _).alloc (Nat.le_refl _) _)).grow B2.out).next (by omega))⟩
        case measure => simp [intOf]
      · have hk2 : 1 ≤ k := by omega
        have hkn := row_known hk2 (by omega : k ≤ 63)
        have hfi := found_iff hk2 (by omega : k ≤ 63) hx hx'
        have hsp := split_is (rvRowN k).form x hx hx'
        have hL : letB k ≠ 0 := by
          rw [letB_form hk2]
          cases (rvRowN k).form <;> decide
        have hL1 : (letB k == 0) = false := by simpa using hL
        have hL2 : (letB k != 0) = true := by simpa using hL
        have HSP := Lib.hid hsp
        obtain ⟨l, hl⟩ : ∃ l, l = fdsV (rvRowN k).form.letter := ⟨_, rfl⟩
        rw [← hl] at hkn
        have HL := Lib.hid hl
        clear hl
        generalize nameB k = s0 at *
        generalize letB k = L at *
        generalize ownV (rvRowN k).form (aB k) (bB k) (cB k) = o at *
        generalize maskV (rvRowN k).form = m at *
        generalize aB k = a at *
        generalize bB k = b at *
        generalize cB k = c at *
        have HK := Lib.hid hkn
        have HFI := Lib.hid hfi
        clear hkn hsp
        by_cases he : bits .and .u32 x m = o
        · have hE : (bits .and .u32 x m == o) = true := by simpa using he
          have HY := Lib.hid (hfi.1 he)
          clear hfi he hL
          go_wp2_with (first
            | (go_at_call 80; (with_reducible refine (HK.out.own _).mono ?_); rintro e w2 ⟨rfl, hb⟩; have B2 := Lib.hid hb; have fm := (hb.cell (p := ⟨wr.heap.size, 1, none⟩) (by simp)).trans (new_cell _ _ _ _ _ (.int .u8 L) rfl rfl); clear hb)
            | (go_at_call 82; (with_reducible refine (HK.out.fields _).mono ?_); rintro e w3 ⟨V, rfl, hV, hb⟩; have B3 := Lib.hid hb; have HS := Lib.hid (split_any _ _ _ x _ hV HX.out.1 HX.out.2 HK.out.len); clear hb hV)
            | (go_at_call 81; (with_reducible refine HS.out.mono ?_); rintro e w4 ⟨rfl, hb⟩; have B4 := Lib.hid hb; have D4 := Lib.hid ((((hq.out.grow ((Below.refl _ _).alloc (Nat.le_refl _) _)).grow B2.out).grow B3.out).grow hb); have z0 := cell_of_row w4 w.heap.size 0 _ _ _ D4.out.res; have z1 := cell_of_row w4 w.heap.size 1 _ _ _ D4.out.res; have z2 := cell_of_row w4 w.heap.size 2 _ _ _ D4.out.res; have z3 := cell_of_row w4 w.heap.size 3 _ _ _ D4.out.res; have z4 := cell_of_row w4 w.heap.size 4 _ _ _ D4.out.res; simp at z0 z1 z2 z3 z4; have f0 := blockD_free D4.out.res 0; have f1 := blockD_free D4.out.res 1; have f2 := blockD_free D4.out.res 2; have f3 := blockD_free D4.out.res 3; have f4 := blockD_free D4.out.res 4; have zl := heap_lt D4.out.res; clear hb))
          have h5 := fiveD_set (v0 := .int .i64 k) (v1 := .int .i64 (splitV l x 0)) (v2 := .int .i64 (splitV l x 1)) (v3 := .int .i64 (splitV l x 2)) (v4 := .int .i64 (splitV l x 3)) D4.out.res
          have b5 := fiveD_below (v0 := .int .i64 k) (v1 := .int .i64 (splitV l x 0)) (v2 := .int .i64 (splitV l x 1)) (v3 := .int .i64 (splitV l x 2)) (v4 := .int .i64 (splitV l x 3)) D4.out.bel (Nat.le_refl w.heap.size)
          have l5 := heap_lt h5
          generalize ((((w4.setCell ⟨w.heap.size, 0, none⟩ (.int .i64 k)).setCell ⟨w.heap.size, 1, none⟩ (.int .i64 (splitV l x 0))).setCell ⟨w.heap.size, 2, none⟩ (.int .i64 (splitV l x 1))).setCell ⟨w.heap.size, 3, none⟩ (.int .i64 (splitV l x 2))).setCell ⟨w.heap.size, 4, none⟩ (.int .i64 (splitV l x 3)) = W5 at h5 b5 l5 ⊢
          have h6 := (heap_alloc_old W5 (.cells #[.int .i64 (splitV l x 0), .int .i64 (splitV l x 1), .int .i64 (splitV l x 2), .int .i64 (splitV l x 3)] 130) l5).trans h5
          refine bodyPost_ret (v := .tuple #[.agg #[.int .i64 k, .int .i64 (splitV l x 0), .int .i64 (splitV l x 1), .int .i64 (splitV l x 2), .int .i64 (splitV l x 3)], .int .i64 0])
            (results_cell_slot (fn := Tryz.f63) Tryz.results63 _ _ w.heap.size 76 _ (0, 0) _ rfl h6 Tryz.underlying76 rfl rvD_size) rfl ⟨.inl ⟨readsV k x, HY.out, ?_⟩, b5.alloc (Nat.le_of_lt l5) _⟩
          rw [HL.out, HSP.out.s0, HSP.out.s1, HSP.out.s2, HSP.out.s3]
          rfl
        · have hE : (bits .and .u32 x m == o) = false := by simpa using he
          have HN := Lib.hid (fun h => he (hfi.2 h))
          clear hfi he hL
          go_wp2_with (go_at_call 80; (with_reducible refine (HK.out.own _).mono ?_); rintro e w2 ⟨rfl, hb⟩; have B2 := Lib.hid hb; have fm := (hb.cell (p := ⟨wr.heap.size, 1, none⟩) (by simp)).trans (new_cell _ _ _ _ _ (.int .u8 L) rfl rfl); clear hb)
          go_roundw
          case rel => exact ⟨k + 1, by omega, by go_num, Lib.hid (((hq.out.grow ((Below.refl _ _).alloc (Nat.le_refl _) _)).grow B2.out).next (fun _ => HN.out))⟩
          case measure => simp [intOf]; omega
    · obtain rfl : k = 64 := by omega
      have z0 : wr.cell? ⟨w.heap.size, 0, none⟩ = some (.int .i64 0) := cell_of_row _ _ _ _ _ _ hq.out.res
      have z1 : wr.cell? ⟨w.heap.size, 1, none⟩ = some (.int .i64 0) := cell_of_row _ _ _ _ _ _ hq.out.res
      have z2 : wr.cell? ⟨w.heap.size, 2, none⟩ = some (.int .i64 0) := cell_of_row _ _ _ _ _ _ hq.out.res
      have z3 : wr.cell? ⟨w.heap.size, 3, none⟩ = some (.int .i64 0) := cell_of_row _ _ _ _ _ _ hq.out.res
      have z4 : wr.cell? ⟨w.heap.size, 4, none⟩ = some (.int .i64 0) := cell_of_row _ _ _ _ _ _ hq.out.res
      have f0 := blockD_free hq.out.res 0
      have f1 := blockD_free hq.out.res 1
      have f2 := blockD_free hq.out.res 2
      have f3 := blockD_free hq.out.res 3
      have f4 := blockD_free hq.out.res 4
      go_wp2
      exact bodyPost_ret (v := .tuple #[.agg #[.int .i64 0, .int .i64 0, .int .i64 0, .int .i64 0, .int .i64 0], .int .i64 16]) (results_cell_slot (fn := Tryz.f63) Tryz.results63 _ _ w.heap.size 76 _ (0, 0) _ rfl (fiveD_set hq.out.res) Tryz.underlying76 rfl rvD_size) rfl
        ⟨.inr ⟨hq.out.none, rfl⟩, fiveD_below hq.out.bel (Nat.le_refl _)⟩
theorem dec_yes {y : RvV} {x : Int} (h : IsWord y x) (w : World) : Calls Tryz.prog 63 #[.int .u32 x] w fun e w' => e = .returned (.tuple #[.agg #[.int .i64 y.op, .int .i64 y.rd, .int .i64 y.rs1, .int .i64 y.rs2, .int .i64 y.imm], .int .i64 0]) ∧ Below w.heap.size w w' := by
  have hf := enc_facts h.1
  rw [h.2] at hf
  refine (dec_any x w hf.2.2.2.2.1 hf.2.2.2.2.2).mono fun e w' hd => ?_
  obtain ⟨h1 | h1, hb⟩ := hd
  · obtain ⟨z, hz, he⟩ := h1
    rw [isWord_one hz h] at he
    exact ⟨he, hb⟩
  · exact absurd h (h1.1 y)
theorem dec_no {x : Int} (hx : 0 ≤ x) (hx' : x < 4294967296) (h : ∀ y, ¬ IsWord y x) (w : World) : Calls Tryz.prog 63 #[.int .u32 x] w fun e w' => e = .returned (.tuple #[.agg #[.int .i64 0, .int .i64 0, .int .i64 0, .int .i64 0, .int .i64 0], .int .i64 16]) ∧ Below w.heap.size w w' := by
  refine (dec_any x w hx hx').mono fun e w' hd => ?_
  obtain ⟨h1 | h1, hb⟩ := hd
  · obtain ⟨z, hz, he⟩ := h1
    exact absurd hz (h z)
  · exact ⟨h1.2, hb⟩
end Go.Proofs.YtnaceogkaiodnaaGreat

namespace Go.Proofs.YtnaceogkaiodnaaGreat
open Go.RowKit
set_option linter.unusedVariables false

/-- Which instructions may be, decided. -/
def regB (n : Int) (b : Bool) : Bool := if b then decide (0 ≤ n) && decide (n ≤ 31) else decide (n = 0)
def immB (f : RvForm) (n : Int) : Bool :=
  match f with
  | .I | .S => decide (-2048 ≤ n) && decide (n ≤ 2047)
  | .X => decide (0 ≤ n) && decide (n ≤ 63)
  | .Y => decide (0 ≤ n) && decide (n ≤ 31)
  | .B => decide (-4096 ≤ n) && (decide (n ≤ 4094) && decide (n % 2 = 0))
  | .U => decide (-524288 ≤ n) && decide (n ≤ 524287)
  | .J => decide (-1048576 ≤ n) && (decide (n ≤ 1048574) && decide (n % 2 = 0))
  | _ => decide (n = 0)
def okB (x : RvV) : Bool := decide (1 ≤ x.op) && (decide (x.op ≤ 63) && (regB x.rd (rvRowN x.op.toNat).form.hasRd && (regB x.rs1 (rvRowN x.op.toNat).form.has1 && (regB x.rs2 (rvRowN x.op.toNat).form.has2 && immB (rvRowN x.op.toNat).form x.imm))))
theorem regB_iff (n : Int) (b : Bool) : regB n b = true ↔ regOk n b := by
  unfold regB regOk
  cases b <;> simp
theorem immB_iff (f : RvForm) (n : Int) : immB f n = true ↔ immOk f n := by
  cases f <;> simp [immB, immOk]
theorem okB_iff (x : RvV) : okB x = true ↔ x.ok := by
  unfold okB
  simp only [Bool.and_eq_true, decide_eq_true_eq, regB_iff, immB_iff]
  exact ⟨fun ⟨h1, h2, h3, h4, h5, h6⟩ => ⟨⟨h1, h2⟩, h3, h4, h5, h6⟩, fun h => ⟨h.op.1, h.op.2, h.rd, h.rs1, h.rs2, h.imm⟩⟩
theorem ok_of {x : RvV} (h : okB x = true) : x.ok := (okB_iff x).1 h
theorem rvIn_of {x : RvV} (h : (decide (-9223372036854775808 ≤ x.op) && (decide (x.op < 9223372036854775808) && (decide (-9223372036854775808 ≤ x.rd) && (decide (x.rd < 9223372036854775808) && (decide (-9223372036854775808 ≤ x.rs1) && (decide (x.rs1 < 9223372036854775808) &&
    (decide (-9223372036854775808 ≤ x.rs2) && (decide (x.rs2 < 9223372036854775808) && (decide (-9223372036854775808 ≤ x.imm) && decide (x.imm < 9223372036854775808)))))))))) = true) : RvIn x := by
  simp only [Bool.and_eq_true, decide_eq_true_eq] at h
  obtain ⟨h1, h2, h3, h4, h5, h6, h7, h8, h9, h10⟩ := h
  exact ⟨⟨h1, h2⟩, ⟨h3, h4⟩, ⟨h5, h6⟩, ⟨h7, h8⟩, ⟨h9, h10⟩⟩
end Go.Proofs.YtnaceogkaiodnaaGreat

