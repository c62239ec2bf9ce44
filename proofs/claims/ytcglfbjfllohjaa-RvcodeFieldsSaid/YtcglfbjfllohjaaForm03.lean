/- What the fields of each form join to, and split into: plain arithmetic, form by form. No condition but the bounds that each names. -/
import Derived.Test.YtcglfbjfllohjaaBits03
import Derived.Test.YtcglfbjfllohjaaJoin03
import Derived.Test.YtcglfbjfllohjaaRowOf03
namespace Go.Proofs.Ytcglfbjfllohjaa
open Go.RowKit
set_option linter.unusedVariables false
set_option linter.unusedSimpArgs false

theorem join_R (x0 x1 x2 : Int) (hx0 : 0 ≤ x0 ∧ x0 < 32) (hx1 : 0 ≤ x1 ∧ x1 < 32) (hx2 : 0 ≤ x2 ∧ x2 < 32) : bits .or .u32 (bits .or .u32 (bits .or .u32 (0) (x0 * 128)) (x1 * 32768)) (x2 * 1048576) = x0 * 128 + x1 * 32768 + x2 * 1048576 := by
  rw [or32_zero (x0 * 128) (by omega) (by omega)]
  rw [show bits .or .u32 (x0 * 128) (x1 * 32768) = x0 * 128 + x1 * 32768 from or32_add 15 _ x1 (by omega) (by omega) (by omega) (by omega)]
  rw [show bits .or .u32 (x0 * 128 + x1 * 32768) (x2 * 1048576) = x0 * 128 + x1 * 32768 + x2 * 1048576 from or32_add 20 _ x2 (by omega) (by omega) (by omega) (by omega)]
theorem own_join_R (a b c x0 x1 x2 : Int) (ha : 0 ≤ a ∧ a < 128) (hb : 0 ≤ b ∧ b < 8) (hc : 0 ≤ c ∧ c < 128) (hx0 : 0 ≤ x0 ∧ x0 < 32) (hx1 : 0 ≤ x1 ∧ x1 < 32) (hx2 : 0 ≤ x2 ∧ x2 < 32) : bits .or .u32 (bits .or .u32 (bits .or .u32 a (b * 4096)) (c * 33554432)) (bits .or .u32 (bits .or .u32 (bits .or .u32 (0) (x0 * 128)) (x1 * 32768)) (x2 * 1048576)) = a + x0 * 128 + b * 4096 + x1 * 32768 + x2 * 1048576 + c * 33554432 := by
  rw [or32_zero (x0 * 128) (by omega) (by omega)]
  rw [show bits .or .u32 (bits .or .u32 (bits .or .u32 a (b * 4096)) (c * 33554432)) (bits .or .u32 (bits .or .u32 (x0 * 128) (x1 * 32768)) (x2 * 1048576)) = bits .or .u32 (bits .or .u32 (bits .or .u32 (bits .or .u32 (bits .or .u32 (a) (x0 * 128)) (b * 4096)) (x1 * 32768)) (x2 * 1048576)) (c * 33554432) by ac_rfl]
  rw [show bits .or .u32 (a) (x0 * 128) = a + x0 * 128 from or32_add 7 _ x0 (by omega) (by omega) (by omega) (by omega)]
  rw [show bits .or .u32 (a + x0 * 128) (b * 4096) = a + x0 * 128 + b * 4096 from or32_add 12 _ b (by omega) (by omega) (by omega) (by omega)]
  rw [show bits .or .u32 (a + x0 * 128 + b * 4096) (x1 * 32768) = a + x0 * 128 + b * 4096 + x1 * 32768 from or32_add 15 _ x1 (by omega) (by omega) (by omega) (by omega)]
  rw [show bits .or .u32 (a + x0 * 128 + b * 4096 + x1 * 32768) (x2 * 1048576) = a + x0 * 128 + b * 4096 + x1 * 32768 + x2 * 1048576 from or32_add 20 _ x2 (by omega) (by omega) (by omega) (by omega)]
  rw [show bits .or .u32 (a + x0 * 128 + b * 4096 + x1 * 32768 + x2 * 1048576) (c * 33554432) = a + x0 * 128 + b * 4096 + x1 * 32768 + x2 * 1048576 + c * 33554432 from or32_add 25 _ c (by omega) (by omega) (by omega) (by omega)]
theorem join_I (x0 x1 x2 : Int) (hx0 : 0 ≤ x0 ∧ x0 < 32) (hx1 : 0 ≤ x1 ∧ x1 < 32) (hx2 : 0 ≤ x2 ∧ x2 < 4096) : bits .or .u32 (bits .or .u32 (bits .or .u32 (0) (x0 * 128)) (x1 * 32768)) (x2 * 1048576) = x0 * 128 + x1 * 32768 + x2 * 1048576 := by
  rw [or32_zero (x0 * 128) (by omega) (by omega)]
  rw [show bits .or .u32 (x0 * 128) (x1 * 32768) = x0 * 128 + x1 * 32768 from or32_add 15 _ x1 (by omega) (by omega) (by omega) (by omega)]
  rw [show bits .or .u32 (x0 * 128 + x1 * 32768) (x2 * 1048576) = x0 * 128 + x1 * 32768 + x2 * 1048576 from or32_add 20 _ x2 (by omega) (by omega) (by omega) (by omega)]
theorem own_join_I (a b x0 x1 x2 : Int) (ha : 0 ≤ a ∧ a < 128) (hb : 0 ≤ b ∧ b < 8) (hx0 : 0 ≤ x0 ∧ x0 < 32) (hx1 : 0 ≤ x1 ∧ x1 < 32) (hx2 : 0 ≤ x2 ∧ x2 < 4096) : bits .or .u32 (bits .or .u32 a (b * 4096)) (bits .or .u32 (bits .or .u32 (bits .or .u32 (0) (x0 * 128)) (x1 * 32768)) (x2 * 1048576)) = a + x0 * 128 + b * 4096 + x1 * 32768 + x2 * 1048576 := by
  rw [or32_zero (x0 * 128) (by omega) (by omega)]
  rw [show bits .or .u32 (bits .or .u32 a (b * 4096)) (bits .or .u32 (bits .or .u32 (x0 * 128) (x1 * 32768)) (x2 * 1048576)) = bits .or .u32 (bits .or .u32 (bits .or .u32 (bits .or .u32 (a) (x0 * 128)) (b * 4096)) (x1 * 32768)) (x2 * 1048576) by ac_rfl]
  rw [show bits .or .u32 (a) (x0 * 128) = a + x0 * 128 from or32_add 7 _ x0 (by omega) (by omega) (by omega) (by omega)]
  rw [show bits .or .u32 (a + x0 * 128) (b * 4096) = a + x0 * 128 + b * 4096 from or32_add 12 _ b (by omega) (by omega) (by omega) (by omega)]
  rw [show bits .or .u32 (a + x0 * 128 + b * 4096) (x1 * 32768) = a + x0 * 128 + b * 4096 + x1 * 32768 from or32_add 15 _ x1 (by omega) (by omega) (by omega) (by omega)]
  rw [show bits .or .u32 (a + x0 * 128 + b * 4096 + x1 * 32768) (x2 * 1048576) = a + x0 * 128 + b * 4096 + x1 * 32768 + x2 * 1048576 from or32_add 20 _ x2 (by omega) (by omega) (by omega) (by omega)]
theorem join_X (x0 x1 x2 : Int) (hx0 : 0 ≤ x0 ∧ x0 < 32) (hx1 : 0 ≤ x1 ∧ x1 < 32) (hx2 : 0 ≤ x2 ∧ x2 < 64) : bits .or .u32 (bits .or .u32 (bits .or .u32 (0) (x0 * 128)) (x1 * 32768)) (x2 * 1048576) = x0 * 128 + x1 * 32768 + x2 * 1048576 := by
  rw [or32_zero (x0 * 128) (by omega) (by omega)]
  rw [show bits .or .u32 (x0 * 128) (x1 * 32768) = x0 * 128 + x1 * 32768 from or32_add 15 _ x1 (by omega) (by omega) (by omega) (by omega)]
  rw [show bits .or .u32 (x0 * 128 + x1 * 32768) (x2 * 1048576) = x0 * 128 + x1 * 32768 + x2 * 1048576 from or32_add 20 _ x2 (by omega) (by omega) (by omega) (by omega)]
theorem own_join_X (a b c x0 x1 x2 : Int) (ha : 0 ≤ a ∧ a < 128) (hb : 0 ≤ b ∧ b < 8) (hc : 0 ≤ c ∧ c < 64) (hx0 : 0 ≤ x0 ∧ x0 < 32) (hx1 : 0 ≤ x1 ∧ x1 < 32) (hx2 : 0 ≤ x2 ∧ x2 < 64) : bits .or .u32 (bits .or .u32 (bits .or .u32 a (b * 4096)) (c * 67108864)) (bits .or .u32 (bits .or .u32 (bits .or .u32 (0) (x0 * 128)) (x1 * 32768)) (x2 * 1048576)) = a + x0 * 128 + b * 4096 + x1 * 32768 + x2 * 1048576 + c * 67108864 := by
  rw [or32_zero (x0 * 128) (by omega) (by omega)]
  rw [show bits .or .u32 (bits .or .u32 (bits .or .u32 a (b * 4096)) (c * 67108864)) (bits .or .u32 (bits .or .u32 (x0 * 128) (x1 * 32768)) (x2 * 1048576)) = bits .or .u32 (bits .or .u32 (bits .or .u32 (bits .or .u32 (bits .or .u32 (a) (x0 * 128)) (b * 4096)) (x1 * 32768)) (x2 * 1048576)) (c * 67108864) by ac_rfl]
  rw [show bits .or .u32 (a) (x0 * 128) = a + x0 * 128 from or32_add 7 _ x0 (by omega) (by omega) (by omega) (by omega)]
  rw [show bits .or .u32 (a + x0 * 128) (b * 4096) = a + x0 * 128 + b * 4096 from or32_add 12 _ b (by omega) (by omega) (by omega) (by omega)]
  rw [show bits .or .u32 (a + x0 * 128 + b * 4096) (x1 * 32768) = a + x0 * 128 + b * 4096 + x1 * 32768 from or32_add 15 _ x1 (by omega) (by omega) (by omega) (by omega)]
  rw [show bits .or .u32 (a + x0 * 128 + b * 4096 + x1 * 32768) (x2 * 1048576) = a + x0 * 128 + b * 4096 + x1 * 32768 + x2 * 1048576 from or32_add 20 _ x2 (by omega) (by omega) (by omega) (by omega)]
  rw [show bits .or .u32 (a + x0 * 128 + b * 4096 + x1 * 32768 + x2 * 1048576) (c * 67108864) = a + x0 * 128 + b * 4096 + x1 * 32768 + x2 * 1048576 + c * 67108864 from or32_add 26 _ c (by omega) (by omega) (by omega) (by omega)]
theorem join_Y (x0 x1 x2 : Int) (hx0 : 0 ≤ x0 ∧ x0 < 32) (hx1 : 0 ≤ x1 ∧ x1 < 32) (hx2 : 0 ≤ x2 ∧ x2 < 32) : bits .or .u32 (bits .or .u32 (bits .or .u32 (0) (x0 * 128)) (x1 * 32768)) (x2 * 1048576) = x0 * 128 + x1 * 32768 + x2 * 1048576 := by
  rw [or32_zero (x0 * 128) (by omega) (by omega)]
  rw [show bits .or .u32 (x0 * 128) (x1 * 32768) = x0 * 128 + x1 * 32768 from or32_add 15 _ x1 (by omega) (by omega) (by omega) (by omega)]
  rw [show bits .or .u32 (x0 * 128 + x1 * 32768) (x2 * 1048576) = x0 * 128 + x1 * 32768 + x2 * 1048576 from or32_add 20 _ x2 (by omega) (by omega) (by omega) (by omega)]
theorem own_join_Y (a b c x0 x1 x2 : Int) (ha : 0 ≤ a ∧ a < 128) (hb : 0 ≤ b ∧ b < 8) (hc : 0 ≤ c ∧ c < 128) (hx0 : 0 ≤ x0 ∧ x0 < 32) (hx1 : 0 ≤ x1 ∧ x1 < 32) (hx2 : 0 ≤ x2 ∧ x2 < 32) : bits .or .u32 (bits .or .u32 (bits .or .u32 a (b * 4096)) (c * 33554432)) (bits .or .u32 (bits .or .u32 (bits .or .u32 (0) (x0 * 128)) (x1 * 32768)) (x2 * 1048576)) = a + x0 * 128 + b * 4096 + x1 * 32768 + x2 * 1048576 + c * 33554432 := by
  rw [or32_zero (x0 * 128) (by omega) (by omega)]
  rw [show bits .or .u32 (bits .or .u32 (bits .or .u32 a (b * 4096)) (c * 33554432)) (bits .or .u32 (bits .or .u32 (x0 * 128) (x1 * 32768)) (x2 * 1048576)) = bits .or .u32 (bits .or .u32 (bits .or .u32 (bits .or .u32 (bits .or .u32 (a) (x0 * 128)) (b * 4096)) (x1 * 32768)) (x2 * 1048576)) (c * 33554432) by ac_rfl]
  rw [show bits .or .u32 (a) (x0 * 128) = a + x0 * 128 from or32_add 7 _ x0 (by omega) (by omega) (by omega) (by omega)]
  rw [show bits .or .u32 (a + x0 * 128) (b * 4096) = a + x0 * 128 + b * 4096 from or32_add 12 _ b (by omega) (by omega) (by omega) (by omega)]
  rw [show bits .or .u32 (a + x0 * 128 + b * 4096) (x1 * 32768) = a + x0 * 128 + b * 4096 + x1 * 32768 from or32_add 15 _ x1 (by omega) (by omega) (by omega) (by omega)]
  rw [show bits .or .u32 (a + x0 * 128 + b * 4096 + x1 * 32768) (x2 * 1048576) = a + x0 * 128 + b * 4096 + x1 * 32768 + x2 * 1048576 from or32_add 20 _ x2 (by omega) (by omega) (by omega) (by omega)]
  rw [show bits .or .u32 (a + x0 * 128 + b * 4096 + x1 * 32768 + x2 * 1048576) (c * 33554432) = a + x0 * 128 + b * 4096 + x1 * 32768 + x2 * 1048576 + c * 33554432 from or32_add 25 _ c (by omega) (by omega) (by omega) (by omega)]
theorem join_S (x0 x1 x2 x3 : Int) (hx0 : 0 ≤ x0 ∧ x0 < 32) (hx1 : 0 ≤ x1 ∧ x1 < 32) (hx2 : 0 ≤ x2 ∧ x2 < 32) (hx3 : 0 ≤ x3 ∧ x3 < 128) : bits .or .u32 (bits .or .u32 (bits .or .u32 (bits .or .u32 (0) (x0 * 128)) (x1 * 32768)) (x2 * 1048576)) (x3 * 33554432) = x0 * 128 + x1 * 32768 + x2 * 1048576 + x3 * 33554432 := by
  rw [or32_zero (x0 * 128) (by omega) (by omega)]
  rw [show bits .or .u32 (x0 * 128) (x1 * 32768) = x0 * 128 + x1 * 32768 from or32_add 15 _ x1 (by omega) (by omega) (by omega) (by omega)]
  rw [show bits .or .u32 (x0 * 128 + x1 * 32768) (x2 * 1048576) = x0 * 128 + x1 * 32768 + x2 * 1048576 from or32_add 20 _ x2 (by omega) (by omega) (by omega) (by omega)]
  rw [show bits .or .u32 (x0 * 128 + x1 * 32768 + x2 * 1048576) (x3 * 33554432) = x0 * 128 + x1 * 32768 + x2 * 1048576 + x3 * 33554432 from or32_add 25 _ x3 (by omega) (by omega) (by omega) (by omega)]
theorem own_join_S (a b x0 x1 x2 x3 : Int) (ha : 0 ≤ a ∧ a < 128) (hb : 0 ≤ b ∧ b < 8) (hx0 : 0 ≤ x0 ∧ x0 < 32) (hx1 : 0 ≤ x1 ∧ x1 < 32) (hx2 : 0 ≤ x2 ∧ x2 < 32) (hx3 : 0 ≤ x3 ∧ x3 < 128) : bits .or .u32 (bits .or .u32 a (b * 4096)) (bits .or .u32 (bits .or .u32 (bits .or .u32 (bits .or .u32 (0) (x0 * 128)) (x1 * 32768)) (x2 * 1048576)) (x3 * 33554432)) = a + x0 * 128 + b * 4096 + x1 * 32768 + x2 * 1048576 + x3 * 33554432 := by
  rw [or32_zero (x0 * 128) (by omega) (by omega)]
  rw [show bits .or .u32 (bits .or .u32 a (b * 4096)) (bits .or .u32 (bits .or .u32 (bits .or .u32 (x0 * 128) (x1 * 32768)) (x2 * 1048576)) (x3 * 33554432)) = bits .or .u32 (bits .or .u32 (bits .or .u32 (bits .or .u32 (bits .or .u32 (a) (x0 * 128)) (b * 4096)) (x1 * 32768)) (x2 * 1048576)) (x3 * 33554432) by ac_rfl]
  rw [show bits .or .u32 (a) (x0 * 128) = a + x0 * 128 from or32_add 7 _ x0 (by omega) (by omega) (by omega) (by omega)]
  rw [show bits .or .u32 (a + x0 * 128) (b * 4096) = a + x0 * 128 + b * 4096 from or32_add 12 _ b (by omega) (by omega) (by omega) (by omega)]
  rw [show bits .or .u32 (a + x0 * 128 + b * 4096) (x1 * 32768) = a + x0 * 128 + b * 4096 + x1 * 32768 from or32_add 15 _ x1 (by omega) (by omega) (by omega) (by omega)]
  rw [show bits .or .u32 (a + x0 * 128 + b * 4096 + x1 * 32768) (x2 * 1048576) = a + x0 * 128 + b * 4096 + x1 * 32768 + x2 * 1048576 from or32_add 20 _ x2 (by omega) (by omega) (by omega) (by omega)]
  rw [show bits .or .u32 (a + x0 * 128 + b * 4096 + x1 * 32768 + x2 * 1048576) (x3 * 33554432) = a + x0 * 128 + b * 4096 + x1 * 32768 + x2 * 1048576 + x3 * 33554432 from or32_add 25 _ x3 (by omega) (by omega) (by omega) (by omega)]
theorem join_B (x0 x1 x2 x3 x4 x5 : Int) (hx0 : 0 ≤ x0 ∧ x0 < 2) (hx1 : 0 ≤ x1 ∧ x1 < 16) (hx2 : 0 ≤ x2 ∧ x2 < 32) (hx3 : 0 ≤ x3 ∧ x3 < 32) (hx4 : 0 ≤ x4 ∧ x4 < 64) (hx5 : 0 ≤ x5 ∧ x5 < 2) : bits .or .u32 (bits .or .u32 (bits .or .u32 (bits .or .u32 (bits .or .u32 (bits .or .u32 (0) (x0 * 128)) (x1 * 256)) (x2 * 32768)) (x3 * 1048576)) (x4 * 33554432)) (x5 * 2147483648) = x0 * 128 + x1 * 256 + x2 * 32768 + x3 * 1048576 + x4 * 33554432 + x5 * 2147483648 := by
  rw [or32_zero (x0 * 128) (by omega) (by omega)]
  rw [show bits .or .u32 (x0 * 128) (x1 * 256) = x0 * 128 + x1 * 256 from or32_add 8 _ x1 (by omega) (by omega) (by omega) (by omega)]
  rw [show bits .or .u32 (x0 * 128 + x1 * 256) (x2 * 32768) = x0 * 128 + x1 * 256 + x2 * 32768 from or32_add 15 _ x2 (by omega) (by omega) (by omega) (by omega)]
  rw [show bits .or .u32 (x0 * 128 + x1 * 256 + x2 * 32768) (x3 * 1048576) = x0 * 128 + x1 * 256 + x2 * 32768 + x3 * 1048576 from or32_add 20 _ x3 (by omega) (by omega) (by omega) (by omega)]
  rw [show bits .or .u32 (x0 * 128 + x1 * 256 + x2 * 32768 + x3 * 1048576) (x4 * 33554432) = x0 * 128 + x1 * 256 + x2 * 32768 + x3 * 1048576 + x4 * 33554432 from or32_add 25 _ x4 (by omega) (by omega) (by omega) (by omega)]
  rw [show bits .or .u32 (x0 * 128 + x1 * 256 + x2 * 32768 + x3 * 1048576 + x4 * 33554432) (x5 * 2147483648) = x0 * 128 + x1 * 256 + x2 * 32768 + x3 * 1048576 + x4 * 33554432 + x5 * 2147483648 from or32_add 31 _ x5 (by omega) (by omega) (by omega) (by omega)]
theorem own_join_B (a b x0 x1 x2 x3 x4 x5 : Int) (ha : 0 ≤ a ∧ a < 128) (hb : 0 ≤ b ∧ b < 8) (hx0 : 0 ≤ x0 ∧ x0 < 2) (hx1 : 0 ≤ x1 ∧ x1 < 16) (hx2 : 0 ≤ x2 ∧ x2 < 32) (hx3 : 0 ≤ x3 ∧ x3 < 32) (hx4 : 0 ≤ x4 ∧ x4 < 64) (hx5 : 0 ≤ x5 ∧ x5 < 2) : bits .or .u32 (bits .or .u32 a (b * 4096)) (bits .or .u32 (bits .or .u32 (bits .or .u32 (bits .or .u32 (bits .or .u32 (bits .or .u32 (0) (x0 * 128)) (x1 * 256)) (x2 * 32768)) (x3 * 1048576)) (x4 * 33554432)) (x5 * 2147483648)) = a + x0 * 128 + x1 * 256 + b * 4096 + x2 * 32768 + x3 * 1048576 + x4 * 33554432 + x5 * 2147483648 := by
  rw [or32_zero (x0 * 128) (by omega) (by omega)]
  rw [show bits .or .u32 (bits .or .u32 a (b * 4096)) (bits .or .u32 (bits .or .u32 (bits .or .u32 (bits .or .u32 (bits .or .u32 (x0 * 128) (x1 * 256)) (x2 * 32768)) (x3 * 1048576)) (x4 * 33554432)) (x5 * 2147483648)) = bits .or .u32 (bits .or .u32 (bits .or .u32 (bits .or .u32 (bits .or .u32 (bits .or .u32 (bits .or .u32 (a) (x0 * 128)) (x1 * 256)) (b * 4096)) (x2 * 32768)) (x3 * 1048576)) (x4 * 33554432)) (x5 * 2147483648) by ac_rfl]
  rw [show bits .or .u32 (a) (x0 * 128) = a + x0 * 128 from or32_add 7 _ x0 (by omega) (by omega) (by omega) (by omega)]
  rw [show bits .or .u32 (a + x0 * 128) (x1 * 256) = a + x0 * 128 + x1 * 256 from or32_add 8 _ x1 (by omega) (by omega) (by omega) (by omega)]
  rw [show bits .or .u32 (a + x0 * 128 + x1 * 256) (b * 4096) = a + x0 * 128 + x1 * 256 + b * 4096 from or32_add 12 _ b (by omega) (by omega) (by omega) (by omega)]
  rw [show bits .or .u32 (a + x0 * 128 + x1 * 256 + b * 4096) (x2 * 32768) = a + x0 * 128 + x1 * 256 + b * 4096 + x2 * 32768 from or32_add 15 _ x2 (by omega) (by omega) (by omega) (by omega)]
  rw [show bits .or .u32 (a + x0 * 128 + x1 * 256 + b * 4096 + x2 * 32768) (x3 * 1048576) = a + x0 * 128 + x1 * 256 + b * 4096 + x2 * 32768 + x3 * 1048576 from or32_add 20 _ x3 (by omega) (by omega) (by omega) (by omega)]
  rw [show bits .or .u32 (a + x0 * 128 + x1 * 256 + b * 4096 + x2 * 32768 + x3 * 1048576) (x4 * 33554432) = a + x0 * 128 + x1 * 256 + b * 4096 + x2 * 32768 + x3 * 1048576 + x4 * 33554432 from or32_add 25 _ x4 (by omega) (by omega) (by omega) (by omega)]
  rw [show bits .or .u32 (a + x0 * 128 + x1 * 256 + b * 4096 + x2 * 32768 + x3 * 1048576 + x4 * 33554432) (x5 * 2147483648) = a + x0 * 128 + x1 * 256 + b * 4096 + x2 * 32768 + x3 * 1048576 + x4 * 33554432 + x5 * 2147483648 from or32_add 31 _ x5 (by omega) (by omega) (by omega) (by omega)]
theorem join_U (x0 x1 : Int) (hx0 : 0 ≤ x0 ∧ x0 < 32) (hx1 : 0 ≤ x1 ∧ x1 < 1048576) : bits .or .u32 (bits .or .u32 (0) (x0 * 128)) (x1 * 4096) = x0 * 128 + x1 * 4096 := by
  rw [or32_zero (x0 * 128) (by omega) (by omega)]
  rw [show bits .or .u32 (x0 * 128) (x1 * 4096) = x0 * 128 + x1 * 4096 from or32_add 12 _ x1 (by omega) (by omega) (by omega) (by omega)]
theorem own_join_U (a b x0 x1 : Int) (ha : 0 ≤ a ∧ a < 128) (hb : 0 ≤ b ∧ b < 1) (hx0 : 0 ≤ x0 ∧ x0 < 32) (hx1 : 0 ≤ x1 ∧ x1 < 1048576) : bits .or .u32 (bits .or .u32 a (b * 4096)) (bits .or .u32 (bits .or .u32 (0) (x0 * 128)) (x1 * 4096)) = a + x0 * 128 + x1 * 4096 := by
  obtain rfl : b = 0 := by omega
  rw [show (0 : Int) * 4096 = 0 from rfl, or32_comm a 0, or32_zero a (by omega) (by omega)]
  rw [or32_zero (x0 * 128) (by omega) (by omega)]
  rw [show bits .or .u32 (a) (bits .or .u32 (x0 * 128) (x1 * 4096)) = bits .or .u32 (bits .or .u32 (a) (x0 * 128)) (x1 * 4096) by ac_rfl]
  rw [show bits .or .u32 (a) (x0 * 128) = a + x0 * 128 from or32_add 7 _ x0 (by omega) (by omega) (by omega) (by omega)]
  rw [show bits .or .u32 (a + x0 * 128) (x1 * 4096) = a + x0 * 128 + x1 * 4096 from or32_add 12 _ x1 (by omega) (by omega) (by omega) (by omega)]
theorem join_J (x0 x1 x2 x3 x4 : Int) (hx0 : 0 ≤ x0 ∧ x0 < 32) (hx1 : 0 ≤ x1 ∧ x1 < 256) (hx2 : 0 ≤ x2 ∧ x2 < 2) (hx3 : 0 ≤ x3 ∧ x3 < 1024) (hx4 : 0 ≤ x4 ∧ x4 < 2) : bits .or .u32 (bits .or .u32 (bits .or .u32 (bits .or .u32 (bits .or .u32 (0) (x0 * 128)) (x1 * 4096)) (x2 * 1048576)) (x3 * 2097152)) (x4 * 2147483648) = x0 * 128 + x1 * 4096 + x2 * 1048576 + x3 * 2097152 + x4 * 2147483648 := by
  rw [or32_zero (x0 * 128) (by omega) (by omega)]
  rw [show bits .or .u32 (x0 * 128) (x1 * 4096) = x0 * 128 + x1 * 4096 from or32_add 12 _ x1 (by omega) (by omega) (by omega) (by omega)]
  rw [show bits .or .u32 (x0 * 128 + x1 * 4096) (x2 * 1048576) = x0 * 128 + x1 * 4096 + x2 * 1048576 from or32_add 20 _ x2 (by omega) (by omega) (by omega) (by omega)]
  rw [show bits .or .u32 (x0 * 128 + x1 * 4096 + x2 * 1048576) (x3 * 2097152) = x0 * 128 + x1 * 4096 + x2 * 1048576 + x3 * 2097152 from or32_add 21 _ x3 (by omega) (by omega) (by omega) (by omega)]
  rw [show bits .or .u32 (x0 * 128 + x1 * 4096 + x2 * 1048576 + x3 * 2097152) (x4 * 2147483648) = x0 * 128 + x1 * 4096 + x2 * 1048576 + x3 * 2097152 + x4 * 2147483648 from or32_add 31 _ x4 (by omega) (by omega) (by omega) (by omega)]
theorem own_join_J (a b x0 x1 x2 x3 x4 : Int) (ha : 0 ≤ a ∧ a < 128) (hb : 0 ≤ b ∧ b < 1) (hx0 : 0 ≤ x0 ∧ x0 < 32) (hx1 : 0 ≤ x1 ∧ x1 < 256) (hx2 : 0 ≤ x2 ∧ x2 < 2) (hx3 : 0 ≤ x3 ∧ x3 < 1024) (hx4 : 0 ≤ x4 ∧ x4 < 2) : bits .or .u32 (bits .or .u32 a (b * 4096)) (bits .or .u32 (bits .or .u32 (bits .or .u32 (bits .or .u32 (bits .or .u32 (0) (x0 * 128)) (x1 * 4096)) (x2 * 1048576)) (x3 * 2097152)) (x4 * 2147483648)) = a + x0 * 128 + x1 * 4096 + x2 * 1048576 + x3 * 2097152 + x4 * 2147483648 := by
  obtain rfl : b = 0 := by omega
  rw [show (0 : Int) * 4096 = 0 from rfl, or32_comm a 0, or32_zero a (by omega) (by omega)]
  rw [or32_zero (x0 * 128) (by omega) (by omega)]
  rw [show bits .or .u32 (a) (bits .or .u32 (bits .or .u32 (bits .or .u32 (bits .or .u32 (x0 * 128) (x1 * 4096)) (x2 * 1048576)) (x3 * 2097152)) (x4 * 2147483648)) = bits .or .u32 (bits .or .u32 (bits .or .u32 (bits .or .u32 (bits .or .u32 (a) (x0 * 128)) (x1 * 4096)) (x2 * 1048576)) (x3 * 2097152)) (x4 * 2147483648) by ac_rfl]
  rw [show bits .or .u32 (a) (x0 * 128) = a + x0 * 128 from or32_add 7 _ x0 (by omega) (by omega) (by omega) (by omega)]
  rw [show bits .or .u32 (a + x0 * 128) (x1 * 4096) = a + x0 * 128 + x1 * 4096 from or32_add 12 _ x1 (by omega) (by omega) (by omega) (by omega)]
  rw [show bits .or .u32 (a + x0 * 128 + x1 * 4096) (x2 * 1048576) = a + x0 * 128 + x1 * 4096 + x2 * 1048576 from or32_add 20 _ x2 (by omega) (by omega) (by omega) (by omega)]
  rw [show bits .or .u32 (a + x0 * 128 + x1 * 4096 + x2 * 1048576) (x3 * 2097152) = a + x0 * 128 + x1 * 4096 + x2 * 1048576 + x3 * 2097152 from or32_add 21 _ x3 (by omega) (by omega) (by omega) (by omega)]
  rw [show bits .or .u32 (a + x0 * 128 + x1 * 4096 + x2 * 1048576 + x3 * 2097152) (x4 * 2147483648) = a + x0 * 128 + x1 * 4096 + x2 * 1048576 + x3 * 2097152 + x4 * 2147483648 from or32_add 31 _ x4 (by omega) (by omega) (by omega) (by omega)]
theorem own_join_E (a b : Int) (ha : 0 ≤ a ∧ a < 128) (hb : 0 ≤ b ∧ b < 1) : bits .or .u32 (bits .or .u32 a (b * 4096)) (0) = a := by
  obtain rfl : b = 0 := by omega
  rw [show (0 : Int) * 4096 = 0 from rfl, or32_comm a 0, or32_zero a (by omega) (by omega)]
  rw [or32_comm, or32_zero a (by omega) (by omega)]
end Go.Proofs.Ytcglfbjfllohjaa