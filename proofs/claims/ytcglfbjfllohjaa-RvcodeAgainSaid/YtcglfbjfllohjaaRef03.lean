/- The document's own way of layer 3: bits, fields, immediates: contracts, form by form. No condition but that the numbers are the machine's. -/
import Derived.Test.YtcglfbjfllohjaaRows
import Derived.Test.YtcglfbjfllohjaaMath01
import Derived.Test.YtcglfbjfllohjaaRv03Math
import Derived.WalkKit
import Derived.WalkSpells
import Derived.WalkLawsBesides
import Derived.ProofKit
import Derived.IntWalk
import Derived.Lib.Hide
namespace Go.Proofs.Ytcglfbjfllohjaa
open Go.RowKit
set_option linter.unusedVariables false
set_option linter.unusedSimpArgs false
def FormStr : RvForm → ByteArray
  | .R => ⟨#[82]⟩
  | .I => ⟨#[73]⟩
  | .X => ⟨#[88]⟩
  | .Y => ⟨#[89]⟩
  | .S => ⟨#[83]⟩
  | .B => ⟨#[66]⟩
  | .U => ⟨#[85]⟩
  | .J => ⟨#[74]⟩
  | .E => ⟨#[69]⟩

theorem field_7_5 (x : Int) (w : World) (hx : 0 ≤ x) (hx' : x < 4294967296) :
    Calls Try.prog 41 #[.int .u32 x, .int .u64 7, .int .u64 5] w fun e w' => e = .returned (.int .i64 (x / 128 % 32)) ∧ w = w' := by
  go_enter Try.func41, Try.ntmps41
  go_wp2
  go_ret
  exact ⟨ret_int (by simp), rfl⟩
theorem field_15_5 (x : Int) (w : World) (hx : 0 ≤ x) (hx' : x < 4294967296) :
    Calls Try.prog 41 #[.int .u32 x, .int .u64 15, .int .u64 5] w fun e w' => e = .returned (.int .i64 (x / 32768 % 32)) ∧ w = w' := by
  go_enter Try.func41, Try.ntmps41
  go_wp2
  go_ret
  exact ⟨ret_int (by simp), rfl⟩
theorem field_20_5 (x : Int) (w : World) (hx : 0 ≤ x) (hx' : x < 4294967296) :
    Calls Try.prog 41 #[.int .u32 x, .int .u64 20, .int .u64 5] w fun e w' => e = .returned (.int .i64 (x / 1048576 % 32)) ∧ w = w' := by
  go_enter Try.func41, Try.ntmps41
  go_wp2
  go_ret
  exact ⟨ret_int (by simp), rfl⟩
theorem field_20_12 (x : Int) (w : World) (hx : 0 ≤ x) (hx' : x < 4294967296) :
    Calls Try.prog 41 #[.int .u32 x, .int .u64 20, .int .u64 12] w fun e w' => e = .returned (.int .i64 (x / 1048576 % 4096)) ∧ w = w' := by
  go_enter Try.func41, Try.ntmps41
  go_wp2
  go_ret
  exact ⟨ret_int (by simp), rfl⟩
theorem field_20_6 (x : Int) (w : World) (hx : 0 ≤ x) (hx' : x < 4294967296) :
    Calls Try.prog 41 #[.int .u32 x, .int .u64 20, .int .u64 6] w fun e w' => e = .returned (.int .i64 (x / 1048576 % 64)) ∧ w = w' := by
  go_enter Try.func41, Try.ntmps41
  go_wp2
  go_ret
  exact ⟨ret_int (by simp), rfl⟩
theorem field_25_7 (x : Int) (w : World) (hx : 0 ≤ x) (hx' : x < 4294967296) :
    Calls Try.prog 41 #[.int .u32 x, .int .u64 25, .int .u64 7] w fun e w' => e = .returned (.int .i64 (x / 33554432 % 128)) ∧ w = w' := by
  go_enter Try.func41, Try.ntmps41
  go_wp2
  go_ret
  exact ⟨ret_int (by simp), rfl⟩
theorem field_8_4 (x : Int) (w : World) (hx : 0 ≤ x) (hx' : x < 4294967296) :
    Calls Try.prog 41 #[.int .u32 x, .int .u64 8, .int .u64 4] w fun e w' => e = .returned (.int .i64 (x / 256 % 16)) ∧ w = w' := by
  go_enter Try.func41, Try.ntmps41
  go_wp2
  go_ret
  exact ⟨ret_int (by simp), rfl⟩
theorem field_25_6 (x : Int) (w : World) (hx : 0 ≤ x) (hx' : x < 4294967296) :
    Calls Try.prog 41 #[.int .u32 x, .int .u64 25, .int .u64 6] w fun e w' => e = .returned (.int .i64 (x / 33554432 % 64)) ∧ w = w' := by
  go_enter Try.func41, Try.ntmps41
  go_wp2
  go_ret
  exact ⟨ret_int (by simp), rfl⟩
theorem field_7_1 (x : Int) (w : World) (hx : 0 ≤ x) (hx' : x < 4294967296) :
    Calls Try.prog 41 #[.int .u32 x, .int .u64 7, .int .u64 1] w fun e w' => e = .returned (.int .i64 (x / 128 % 2)) ∧ w = w' := by
  go_enter Try.func41, Try.ntmps41
  go_wp2
  go_ret
  exact ⟨ret_int (by simp), rfl⟩
theorem field_31_1 (x : Int) (w : World) (hx : 0 ≤ x) (hx' : x < 4294967296) :
    Calls Try.prog 41 #[.int .u32 x, .int .u64 31, .int .u64 1] w fun e w' => e = .returned (.int .i64 (x / 2147483648 % 2)) ∧ w = w' := by
  go_enter Try.func41, Try.ntmps41
  go_wp2
  go_ret
  exact ⟨ret_int (by simp), rfl⟩
theorem field_12_20 (x : Int) (w : World) (hx : 0 ≤ x) (hx' : x < 4294967296) :
    Calls Try.prog 41 #[.int .u32 x, .int .u64 12, .int .u64 20] w fun e w' => e = .returned (.int .i64 (x / 4096 % 1048576)) ∧ w = w' := by
  go_enter Try.func41, Try.ntmps41
  go_wp2
  go_ret
  exact ⟨ret_int (by simp), rfl⟩
theorem field_21_10 (x : Int) (w : World) (hx : 0 ≤ x) (hx' : x < 4294967296) :
    Calls Try.prog 41 #[.int .u32 x, .int .u64 21, .int .u64 10] w fun e w' => e = .returned (.int .i64 (x / 2097152 % 1024)) ∧ w = w' := by
  go_enter Try.func41, Try.ntmps41
  go_wp2
  go_ret
  exact ⟨ret_int (by simp), rfl⟩
theorem field_20_1 (x : Int) (w : World) (hx : 0 ≤ x) (hx' : x < 4294967296) :
    Calls Try.prog 41 #[.int .u32 x, .int .u64 20, .int .u64 1] w fun e w' => e = .returned (.int .i64 (x / 1048576 % 2)) ∧ w = w' := by
  go_enter Try.func41, Try.ntmps41
  go_wp2
  go_ret
  exact ⟨ret_int (by simp), rfl⟩
theorem field_12_8 (x : Int) (w : World) (hx : 0 ≤ x) (hx' : x < 4294967296) :
    Calls Try.prog 41 #[.int .u32 x, .int .u64 12, .int .u64 8] w fun e w' => e = .returned (.int .i64 (x / 4096 % 256)) ∧ w = w' := by
  go_enter Try.func41, Try.ntmps41
  go_wp2
  go_ret
  exact ⟨ret_int (by simp), rfl⟩
theorem signed_12 (n : Int) (w : World) (hn : 0 ≤ n) (hn' : n < 4096) :
    Calls Try.prog 46 #[.int .i64 n, .int .u64 12] w fun e w' => e = .returned (.int .i64 (signedV n 2048)) ∧ w = w' := by
  by_cases h : 2048 ≤ n
  · go_enter Try.func46, Try.ntmps46
    go_wp2
    go_ret
    exact ⟨ret_int (by unfold signedV; rw [if_pos h]; omega), rfl⟩
  · go_enter Try.func46, Try.ntmps46
    go_wp2
    go_ret
    exact ⟨ret_int (by unfold signedV; rw [if_neg (by omega)]), rfl⟩
theorem signed_13 (n : Int) (w : World) (hn : 0 ≤ n) (hn' : n < 8192) :
    Calls Try.prog 46 #[.int .i64 n, .int .u64 13] w fun e w' => e = .returned (.int .i64 (signedV n 4096)) ∧ w = w' := by
  by_cases h : 4096 ≤ n
  · go_enter Try.func46, Try.ntmps46
    go_wp2
    go_ret
    exact ⟨ret_int (by unfold signedV; rw [if_pos h]; omega), rfl⟩
  · go_enter Try.func46, Try.ntmps46
    go_wp2
    go_ret
    exact ⟨ret_int (by unfold signedV; rw [if_neg (by omega)]), rfl⟩
theorem signed_20 (n : Int) (w : World) (hn : 0 ≤ n) (hn' : n < 1048576) :
    Calls Try.prog 46 #[.int .i64 n, .int .u64 20] w fun e w' => e = .returned (.int .i64 (signedV n 524288)) ∧ w = w' := by
  by_cases h : 524288 ≤ n
  · go_enter Try.func46, Try.ntmps46
    go_wp2
    go_ret
    exact ⟨ret_int (by unfold signedV; rw [if_pos h]; omega), rfl⟩
  · go_enter Try.func46, Try.ntmps46
    go_wp2
    go_ret
    exact ⟨ret_int (by unfold signedV; rw [if_neg (by omega)]), rfl⟩
theorem signed_21 (n : Int) (w : World) (hn : 0 ≤ n) (hn' : n < 2097152) :
    Calls Try.prog 46 #[.int .i64 n, .int .u64 21] w fun e w' => e = .returned (.int .i64 (signedV n 1048576)) ∧ w = w' := by
  by_cases h : 1048576 ≤ n
  · go_enter Try.func46, Try.ntmps46
    go_wp2
    go_ret
    exact ⟨ret_int (by unfold signedV; rw [if_pos h]; omega), rfl⟩
  · go_enter Try.func46, Try.ntmps46
    go_wp2
    go_ret
    exact ⟨ret_int (by unfold signedV; rw [if_neg (by omega)]), rfl⟩
theorem bits_0_12_20 (n : Int) (w : World) (hn : -9223372036854775808 ≤ n) (hn' : n < 9223372036854775808) :
    Calls Try.prog 38 #[.int .i64 n, .int .i64 0, .int .i64 12, .int .i64 20] w fun e w' => e = .returned (.int .u32 (n % 4096 * 1048576)) ∧ w = w' := by
  go_enter Try.func38, Try.ntmps38
  go_wp2
  go_ret
  refine ⟨ret_int ?_, rfl⟩
  simp only [IntKind.wrap_u64]
  rw [Int.tmod_eq_emod_of_nonneg (by omega)]
  omega
theorem bits_0_6_20 (n : Int) (w : World) (hn : -9223372036854775808 ≤ n) (hn' : n < 9223372036854775808) :
    Calls Try.prog 38 #[.int .i64 n, .int .i64 0, .int .i64 6, .int .i64 20] w fun e w' => e = .returned (.int .u32 (n % 64 * 1048576)) ∧ w = w' := by
  go_enter Try.func38, Try.ntmps38
  go_wp2
  go_ret
  refine ⟨ret_int ?_, rfl⟩
  simp only [IntKind.wrap_u64]
  rw [Int.tmod_eq_emod_of_nonneg (by omega)]
  omega
theorem bits_0_5_20 (n : Int) (w : World) (hn : -9223372036854775808 ≤ n) (hn' : n < 9223372036854775808) :
    Calls Try.prog 38 #[.int .i64 n, .int .i64 0, .int .i64 5, .int .i64 20] w fun e w' => e = .returned (.int .u32 (n % 32 * 1048576)) ∧ w = w' := by
  go_enter Try.func38, Try.ntmps38
  go_wp2
  go_ret
  refine ⟨ret_int ?_, rfl⟩
  simp only [IntKind.wrap_u64]
  rw [Int.tmod_eq_emod_of_nonneg (by omega)]
  omega
theorem bits_0_5_7 (n : Int) (w : World) (hn : -9223372036854775808 ≤ n) (hn' : n < 9223372036854775808) :
    Calls Try.prog 38 #[.int .i64 n, .int .i64 0, .int .i64 5, .int .i64 7] w fun e w' => e = .returned (.int .u32 (n % 32 * 128)) ∧ w = w' := by
  go_enter Try.func38, Try.ntmps38
  go_wp2
  go_ret
  refine ⟨ret_int ?_, rfl⟩
  simp only [IntKind.wrap_u64]
  rw [Int.tmod_eq_emod_of_nonneg (by omega)]
  omega
theorem bits_5_7_25 (n : Int) (w : World) (hn : -9223372036854775808 ≤ n) (hn' : n < 9223372036854775808) :
    Calls Try.prog 38 #[.int .i64 n, .int .i64 5, .int .i64 7, .int .i64 25] w fun e w' => e = .returned (.int .u32 (n / 32 % 128 * 33554432)) ∧ w = w' := by
  go_enter Try.func38, Try.ntmps38
  go_wp2
  go_ret
  refine ⟨ret_int ?_, rfl⟩
  simp only [IntKind.wrap_u64]
  rw [Int.tmod_eq_emod_of_nonneg (by omega)]
  omega
theorem bits_11_1_7 (n : Int) (w : World) (hn : -9223372036854775808 ≤ n) (hn' : n < 9223372036854775808) :
    Calls Try.prog 38 #[.int .i64 n, .int .i64 11, .int .i64 1, .int .i64 7] w fun e w' => e = .returned (.int .u32 (n / 2048 % 2 * 128)) ∧ w = w' := by
  go_enter Try.func38, Try.ntmps38
  go_wp2
  go_ret
  refine ⟨ret_int ?_, rfl⟩
  simp only [IntKind.wrap_u64]
  rw [Int.tmod_eq_emod_of_nonneg (by omega)]
  omega
theorem bits_1_4_8 (n : Int) (w : World) (hn : -9223372036854775808 ≤ n) (hn' : n < 9223372036854775808) :
    Calls Try.prog 38 #[.int .i64 n, .int .i64 1, .int .i64 4, .int .i64 8] w fun e w' => e = .returned (.int .u32 (n / 2 % 16 * 256)) ∧ w = w' := by
  go_enter Try.func38, Try.ntmps38
  go_wp2
  go_ret
  refine ⟨ret_int ?_, rfl⟩
  simp only [IntKind.wrap_u64]
  rw [Int.tmod_eq_emod_of_nonneg (by omega)]
  omega
theorem bits_5_6_25 (n : Int) (w : World) (hn : -9223372036854775808 ≤ n) (hn' : n < 9223372036854775808) :
    Calls Try.prog 38 #[.int .i64 n, .int .i64 5, .int .i64 6, .int .i64 25] w fun e w' => e = .returned (.int .u32 (n / 32 % 64 * 33554432)) ∧ w = w' := by
  go_enter Try.func38, Try.ntmps38
  go_wp2
  go_ret
  refine ⟨ret_int ?_, rfl⟩
  simp only [IntKind.wrap_u64]
  rw [Int.tmod_eq_emod_of_nonneg (by omega)]
  omega
theorem bits_12_1_31 (n : Int) (w : World) (hn : -9223372036854775808 ≤ n) (hn' : n < 9223372036854775808) :
    Calls Try.prog 38 #[.int .i64 n, .int .i64 12, .int .i64 1, .int .i64 31] w fun e w' => e = .returned (.int .u32 (n / 4096 % 2 * 2147483648)) ∧ w = w' := by
  go_enter Try.func38, Try.ntmps38
  go_wp2
  go_ret
  refine ⟨ret_int ?_, rfl⟩
  simp only [IntKind.wrap_u64]
  rw [Int.tmod_eq_emod_of_nonneg (by omega)]
  omega
theorem bits_0_20_12 (n : Int) (w : World) (hn : -9223372036854775808 ≤ n) (hn' : n < 9223372036854775808) :
    Calls Try.prog 38 #[.int .i64 n, .int .i64 0, .int .i64 20, .int .i64 12] w fun e w' => e = .returned (.int .u32 (n % 1048576 * 4096)) ∧ w = w' := by
  go_enter Try.func38, Try.ntmps38
  go_wp2
  go_ret
  refine ⟨ret_int ?_, rfl⟩
  simp only [IntKind.wrap_u64]
  rw [Int.tmod_eq_emod_of_nonneg (by omega)]
  omega
theorem bits_12_8_12 (n : Int) (w : World) (hn : -9223372036854775808 ≤ n) (hn' : n < 9223372036854775808) :
    Calls Try.prog 38 #[.int .i64 n, .int .i64 12, .int .i64 8, .int .i64 12] w fun e w' => e = .returned (.int .u32 (n / 4096 % 256 * 4096)) ∧ w = w' := by
  go_enter Try.func38, Try.ntmps38
  go_wp2
  go_ret
  refine ⟨ret_int ?_, rfl⟩
  simp only [IntKind.wrap_u64]
  rw [Int.tmod_eq_emod_of_nonneg (by omega)]
  omega
theorem bits_11_1_20 (n : Int) (w : World) (hn : -9223372036854775808 ≤ n) (hn' : n < 9223372036854775808) :
    Calls Try.prog 38 #[.int .i64 n, .int .i64 11, .int .i64 1, .int .i64 20] w fun e w' => e = .returned (.int .u32 (n / 2048 % 2 * 1048576)) ∧ w = w' := by
  go_enter Try.func38, Try.ntmps38
  go_wp2
  go_ret
  refine ⟨ret_int ?_, rfl⟩
  simp only [IntKind.wrap_u64]
  rw [Int.tmod_eq_emod_of_nonneg (by omega)]
  omega
theorem bits_1_10_21 (n : Int) (w : World) (hn : -9223372036854775808 ≤ n) (hn' : n < 9223372036854775808) :
    Calls Try.prog 38 #[.int .i64 n, .int .i64 1, .int .i64 10, .int .i64 21] w fun e w' => e = .returned (.int .u32 (n / 2 % 1024 * 2097152)) ∧ w = w' := by
  go_enter Try.func38, Try.ntmps38
  go_wp2
  go_ret
  refine ⟨ret_int ?_, rfl⟩
  simp only [IntKind.wrap_u64]
  rw [Int.tmod_eq_emod_of_nonneg (by omega)]
  omega
theorem bits_20_1_31 (n : Int) (w : World) (hn : -9223372036854775808 ≤ n) (hn' : n < 9223372036854775808) :
    Calls Try.prog 38 #[.int .i64 n, .int .i64 20, .int .i64 1, .int .i64 31] w fun e w' => e = .returned (.int .u32 (n / 1048576 % 2 * 2147483648)) ∧ w = w' := by
  go_enter Try.func38, Try.ntmps38
  go_wp2
  go_ret
  refine ⟨ret_int ?_, rfl⟩
  simp only [IntKind.wrap_u64]
  rw [Int.tmod_eq_emod_of_nonneg (by omega)]
  omega
theorem imm_R (n : Int) (w : World) (hn : -9223372036854775808 ≤ n) (hn' : n < 9223372036854775808) :
    Calls Try.prog 29 #[(.string ⟨#[82]⟩), .int .i64 n] w fun e w' => e = .returned (.int .u32 (immV .R n)) ∧ w = w' := by
  go_enter Try.func29, Try.ntmps29
  go_wp2_with fail
  go_ret
  exact ⟨ret_int (by simp [immV]), rfl⟩
theorem imm_I (n : Int) (w : World) (hn : -9223372036854775808 ≤ n) (hn' : n < 9223372036854775808) :
    Calls Try.prog 29 #[(.string ⟨#[73]⟩), .int .i64 n] w fun e w' => e = .returned (.int .u32 (immV .I n)) ∧ w = w' := by
  have b0 : 0 ≤ n % 4096 * 1048576 ∧ n % 4096 * 1048576 ≤ 4293918720 := by omega
  go_enter Try.func29, Try.ntmps29
  go_wp2_with (first
    | (go_at_call 38; (with_reducible refine (bits_0_12_20 n _ hn hn').mono ?_); rintro e w' ⟨rfl, rfl⟩))
  go_ret
  exact ⟨ret_int (by simp [immV]), rfl⟩
theorem imm_X (n : Int) (w : World) (hn : -9223372036854775808 ≤ n) (hn' : n < 9223372036854775808) :
    Calls Try.prog 29 #[(.string ⟨#[88]⟩), .int .i64 n] w fun e w' => e = .returned (.int .u32 (immV .X n)) ∧ w = w' := by
  have b0 : 0 ≤ n % 64 * 1048576 ∧ n % 64 * 1048576 ≤ 66060288 := by omega
  go_enter Try.func29, Try.ntmps29
  go_wp2_with (first
    | (go_at_call 38; (with_reducible refine (bits_0_6_20 n _ hn hn').mono ?_); rintro e w' ⟨rfl, rfl⟩))
  go_ret
  exact ⟨ret_int (by simp [immV]), rfl⟩
theorem imm_Y (n : Int) (w : World) (hn : -9223372036854775808 ≤ n) (hn' : n < 9223372036854775808) :
    Calls Try.prog 29 #[(.string ⟨#[89]⟩), .int .i64 n] w fun e w' => e = .returned (.int .u32 (immV .Y n)) ∧ w = w' := by
  have b0 : 0 ≤ n % 32 * 1048576 ∧ n % 32 * 1048576 ≤ 32505856 := by omega
  go_enter Try.func29, Try.ntmps29
  go_wp2_with (first
    | (go_at_call 38; (with_reducible refine (bits_0_5_20 n _ hn hn').mono ?_); rintro e w' ⟨rfl, rfl⟩))
  go_ret
  exact ⟨ret_int (by simp [immV]), rfl⟩
theorem imm_S (n : Int) (w : World) (hn : -9223372036854775808 ≤ n) (hn' : n < 9223372036854775808) :
    Calls Try.prog 29 #[(.string ⟨#[83]⟩), .int .i64 n] w fun e w' => e = .returned (.int .u32 (immV .S n)) ∧ w = w' := by
  have b0 : 0 ≤ n % 32 * 128 ∧ n % 32 * 128 ≤ 3968 := by omega
  have b1 : 0 ≤ n / 32 % 128 * 33554432 ∧ n / 32 % 128 * 33554432 ≤ 4261412864 := by omega
  go_enter Try.func29, Try.ntmps29
  go_wp2_with (first
    | (go_at_call 38; (with_reducible refine (bits_0_5_7 n _ hn hn').mono ?_); rintro e w' ⟨rfl, rfl⟩)
    | (go_at_call 38; (with_reducible refine (bits_5_7_25 n _ hn hn').mono ?_); rintro e w' ⟨rfl, rfl⟩))
  go_ret
  exact ⟨ret_int (by simp [immV]), rfl⟩
theorem imm_B (n : Int) (w : World) (hn : -9223372036854775808 ≤ n) (hn' : n < 9223372036854775808) :
    Calls Try.prog 29 #[(.string ⟨#[66]⟩), .int .i64 n] w fun e w' => e = .returned (.int .u32 (immV .B n)) ∧ w = w' := by
  have b0 : 0 ≤ n / 2048 % 2 * 128 ∧ n / 2048 % 2 * 128 ≤ 128 := by omega
  have b1 : 0 ≤ n / 2 % 16 * 256 ∧ n / 2 % 16 * 256 ≤ 3840 := by omega
  have b2 : 0 ≤ n / 32 % 64 * 33554432 ∧ n / 32 % 64 * 33554432 ≤ 2113929216 := by omega
  have b3 : 0 ≤ n / 4096 % 2 * 2147483648 ∧ n / 4096 % 2 * 2147483648 ≤ 2147483648 := by omega
  go_enter Try.func29, Try.ntmps29
  go_wp2_with (first
    | (go_at_call 38; (with_reducible refine (bits_11_1_7 n _ hn hn').mono ?_); rintro e w' ⟨rfl, rfl⟩)
    | (go_at_call 38; (with_reducible refine (bits_1_4_8 n _ hn hn').mono ?_); rintro e w' ⟨rfl, rfl⟩)
    | (go_at_call 38; (with_reducible refine (bits_5_6_25 n _ hn hn').mono ?_); rintro e w' ⟨rfl, rfl⟩)
    | (go_at_call 38; (with_reducible refine (bits_12_1_31 n _ hn hn').mono ?_); rintro e w' ⟨rfl, rfl⟩))
  go_ret
  exact ⟨ret_int (by simp [immV]), rfl⟩
theorem imm_U (n : Int) (w : World) (hn : -9223372036854775808 ≤ n) (hn' : n < 9223372036854775808) :
    Calls Try.prog 29 #[(.string ⟨#[85]⟩), .int .i64 n] w fun e w' => e = .returned (.int .u32 (immV .U n)) ∧ w = w' := by
  have b0 : 0 ≤ n % 1048576 * 4096 ∧ n % 1048576 * 4096 ≤ 4294963200 := by omega
  go_enter Try.func29, Try.ntmps29
  go_wp2_with (first
    | (go_at_call 38; (with_reducible refine (bits_0_20_12 n _ hn hn').mono ?_); rintro e w' ⟨rfl, rfl⟩))
  go_ret
  exact ⟨ret_int (by simp [immV]), rfl⟩
theorem imm_J (n : Int) (w : World) (hn : -9223372036854775808 ≤ n) (hn' : n < 9223372036854775808) :
    Calls Try.prog 29 #[(.string ⟨#[74]⟩), .int .i64 n] w fun e w' => e = .returned (.int .u32 (immV .J n)) ∧ w = w' := by
  have b0 : 0 ≤ n / 4096 % 256 * 4096 ∧ n / 4096 % 256 * 4096 ≤ 1044480 := by omega
  have b1 : 0 ≤ n / 2048 % 2 * 1048576 ∧ n / 2048 % 2 * 1048576 ≤ 1048576 := by omega
  have b2 : 0 ≤ n / 2 % 1024 * 2097152 ∧ n / 2 % 1024 * 2097152 ≤ 2145386496 := by omega
  have b3 : 0 ≤ n / 1048576 % 2 * 2147483648 ∧ n / 1048576 % 2 * 2147483648 ≤ 2147483648 := by omega
  go_enter Try.func29, Try.ntmps29
  go_wp2_with (first
    | (go_at_call 38; (with_reducible refine (bits_12_8_12 n _ hn hn').mono ?_); rintro e w' ⟨rfl, rfl⟩)
    | (go_at_call 38; (with_reducible refine (bits_11_1_20 n _ hn hn').mono ?_); rintro e w' ⟨rfl, rfl⟩)
    | (go_at_call 38; (with_reducible refine (bits_1_10_21 n _ hn hn').mono ?_); rintro e w' ⟨rfl, rfl⟩)
    | (go_at_call 38; (with_reducible refine (bits_20_1_31 n _ hn hn').mono ?_); rintro e w' ⟨rfl, rfl⟩))
  go_ret
  exact ⟨ret_int (by simp [immV]), rfl⟩
theorem imm_E (n : Int) (w : World) (hn : -9223372036854775808 ≤ n) (hn' : n < 9223372036854775808) :
    Calls Try.prog 29 #[(.string ⟨#[69]⟩), .int .i64 n] w fun e w' => e = .returned (.int .u32 (immV .E n)) ∧ w = w' := by
  go_enter Try.func29, Try.ntmps29
  go_wp2_with fail
  go_ret
  exact ⟨ret_int (by simp [immV]), rfl⟩
theorem told_R (x : Int) (w : World) (hx : 0 ≤ x) (hx' : x < 4294967296) :
    Calls Try.prog 40 #[(.string ⟨#[82]⟩), .int .u32 x] w fun e w' => e = .returned (.int .i64 (toldV .R x)) ∧ w = w' := by
  go_enter Try.func40, Try.ntmps40
  go_wp2_with fail
  go_ret
  exact ⟨ret_int (by simp [toldV]), rfl⟩
theorem told_I (x : Int) (w : World) (hx : 0 ≤ x) (hx' : x < 4294967296) :
    Calls Try.prog 40 #[(.string ⟨#[73]⟩), .int .u32 x] w fun e w' => e = .returned (.int .i64 (toldV .I x)) ∧ w = w' := by
  have b0 : 0 ≤ x / 1048576 % 4096 ∧ x / 1048576 % 4096 ≤ 4095 := by omega
  go_enter Try.func40, Try.ntmps40
  go_wp2_with (first
    | (go_at_call 41; (with_reducible refine (field_20_12 x _ hx hx').mono ?_); rintro e w' ⟨rfl, rfl⟩)
    | (go_at_call 46; (with_reducible refine (signed_12 (x / 1048576 % 4096) _ (by omega) (by omega)).mono ?_); rintro e w' ⟨rfl, rfl⟩))
  go_ret
  exact ⟨ret_int (by simp [toldV]), rfl⟩
theorem told_X (x : Int) (w : World) (hx : 0 ≤ x) (hx' : x < 4294967296) :
    Calls Try.prog 40 #[(.string ⟨#[88]⟩), .int .u32 x] w fun e w' => e = .returned (.int .i64 (toldV .X x)) ∧ w = w' := by
  have b0 : 0 ≤ x / 1048576 % 64 ∧ x / 1048576 % 64 ≤ 63 := by omega
  go_enter Try.func40, Try.ntmps40
  go_wp2_with (first
    | (go_at_call 41; (with_reducible refine (field_20_6 x _ hx hx').mono ?_); rintro e w' ⟨rfl, rfl⟩))
  go_ret
  exact ⟨ret_int (by simp [toldV]), rfl⟩
theorem told_Y (x : Int) (w : World) (hx : 0 ≤ x) (hx' : x < 4294967296) :
    Calls Try.prog 40 #[(.string ⟨#[89]⟩), .int .u32 x] w fun e w' => e = .returned (.int .i64 (toldV .Y x)) ∧ w = w' := by
  have b0 : 0 ≤ x / 1048576 % 32 ∧ x / 1048576 % 32 ≤ 31 := by omega
  go_enter Try.func40, Try.ntmps40
  go_wp2_with (first
    | (go_at_call 41; (with_reducible refine (field_20_5 x _ hx hx').mono ?_); rintro e w' ⟨rfl, rfl⟩))
  go_ret
  exact ⟨ret_int (by simp [toldV]), rfl⟩
theorem told_S (x : Int) (w : World) (hx : 0 ≤ x) (hx' : x < 4294967296) :
    Calls Try.prog 40 #[(.string ⟨#[83]⟩), .int .u32 x] w fun e w' => e = .returned (.int .i64 (toldV .S x)) ∧ w = w' := by
  have b0 : 0 ≤ x / 128 % 32 ∧ x / 128 % 32 ≤ 31 := by omega
  have b1 : 0 ≤ x / 33554432 % 128 ∧ x / 33554432 % 128 ≤ 127 := by omega
  go_enter Try.func40, Try.ntmps40
  go_wp2_with (first
    | (go_at_call 41; (with_reducible refine (field_7_5 x _ hx hx').mono ?_); rintro e w' ⟨rfl, rfl⟩)
    | (go_at_call 41; (with_reducible refine (field_25_7 x _ hx hx').mono ?_); rintro e w' ⟨rfl, rfl⟩)
    | (go_at_call 46; (with_reducible refine (signed_12 (x / 128 % 32 + x / 33554432 % 128 * 32) _ (by omega) (by omega)).mono ?_); rintro e w' ⟨rfl, rfl⟩))
  go_ret
  exact ⟨ret_int (by simp [toldV]), rfl⟩
theorem told_B (x : Int) (w : World) (hx : 0 ≤ x) (hx' : x < 4294967296) :
    Calls Try.prog 40 #[(.string ⟨#[66]⟩), .int .u32 x] w fun e w' => e = .returned (.int .i64 (toldV .B x)) ∧ w = w' := by
  have b0 : 0 ≤ x / 256 % 16 ∧ x / 256 % 16 ≤ 15 := by omega
  have b1 : 0 ≤ x / 33554432 % 64 ∧ x / 33554432 % 64 ≤ 63 := by omega
  have b2 : 0 ≤ x / 128 % 2 ∧ x / 128 % 2 ≤ 1 := by omega
  have b3 : 0 ≤ x / 2147483648 % 2 ∧ x / 2147483648 % 2 ≤ 1 := by omega
  go_enter Try.func40, Try.ntmps40
  go_wp2_with (first
    | (go_at_call 41; (with_reducible refine (field_8_4 x _ hx hx').mono ?_); rintro e w' ⟨rfl, rfl⟩)
    | (go_at_call 41; (with_reducible refine (field_25_6 x _ hx hx').mono ?_); rintro e w' ⟨rfl, rfl⟩)
    | (go_at_call 41; (with_reducible refine (field_7_1 x _ hx hx').mono ?_); rintro e w' ⟨rfl, rfl⟩)
    | (go_at_call 41; (with_reducible refine (field_31_1 x _ hx hx').mono ?_); rintro e w' ⟨rfl, rfl⟩)
    | (go_at_call 46; (with_reducible refine (signed_13 (x / 256 % 16 * 2 + x / 33554432 % 64 * 32 + x / 128 % 2 * 2048 + x / 2147483648 % 2 * 4096) _ (by omega) (by omega)).mono ?_); rintro e w' ⟨rfl, rfl⟩))
  go_ret
  exact ⟨ret_int (by simp [toldV]), rfl⟩
theorem told_U (x : Int) (w : World) (hx : 0 ≤ x) (hx' : x < 4294967296) :
    Calls Try.prog 40 #[(.string ⟨#[85]⟩), .int .u32 x] w fun e w' => e = .returned (.int .i64 (toldV .U x)) ∧ w = w' := by
  have b0 : 0 ≤ x / 4096 % 1048576 ∧ x / 4096 % 1048576 ≤ 1048575 := by omega
  go_enter Try.func40, Try.ntmps40
  go_wp2_with (first
    | (go_at_call 41; (with_reducible refine (field_12_20 x _ hx hx').mono ?_); rintro e w' ⟨rfl, rfl⟩)
    | (go_at_call 46; (with_reducible refine (signed_20 (x / 4096 % 1048576) _ (by omega) (by omega)).mono ?_); rintro e w' ⟨rfl, rfl⟩))
  go_ret
  exact ⟨ret_int (by simp [toldV]), rfl⟩
theorem told_J (x : Int) (w : World) (hx : 0 ≤ x) (hx' : x < 4294967296) :
    Calls Try.prog 40 #[(.string ⟨#[74]⟩), .int .u32 x] w fun e w' => e = .returned (.int .i64 (toldV .J x)) ∧ w = w' := by
  have b0 : 0 ≤ x / 2097152 % 1024 ∧ x / 2097152 % 1024 ≤ 1023 := by omega
  have b1 : 0 ≤ x / 1048576 % 2 ∧ x / 1048576 % 2 ≤ 1 := by omega
  have b2 : 0 ≤ x / 4096 % 256 ∧ x / 4096 % 256 ≤ 255 := by omega
  have b3 : 0 ≤ x / 2147483648 % 2 ∧ x / 2147483648 % 2 ≤ 1 := by omega
  go_enter Try.func40, Try.ntmps40
  go_wp2_with (first
    | (go_at_call 41; (with_reducible refine (field_21_10 x _ hx hx').mono ?_); rintro e w' ⟨rfl, rfl⟩)
    | (go_at_call 41; (with_reducible refine (field_20_1 x _ hx hx').mono ?_); rintro e w' ⟨rfl, rfl⟩)
    | (go_at_call 41; (with_reducible refine (field_12_8 x _ hx hx').mono ?_); rintro e w' ⟨rfl, rfl⟩)
    | (go_at_call 41; (with_reducible refine (field_31_1 x _ hx hx').mono ?_); rintro e w' ⟨rfl, rfl⟩)
    | (go_at_call 46; (with_reducible refine (signed_21 (x / 2097152 % 1024 * 2 + x / 1048576 % 2 * 2048 + x / 4096 % 256 * 4096 + x / 2147483648 % 2 * 1048576) _ (by omega) (by omega)).mono ?_); rintro e w' ⟨rfl, rfl⟩))
  go_ret
  exact ⟨ret_int (by simp [toldV]), rfl⟩
theorem told_E (x : Int) (w : World) (hx : 0 ≤ x) (hx' : x < 4294967296) :
    Calls Try.prog 40 #[(.string ⟨#[69]⟩), .int .u32 x] w fun e w' => e = .returned (.int .i64 (toldV .E x)) ∧ w = w' := by
  go_enter Try.func40, Try.ntmps40
  go_wp2_with fail
  go_ret
  exact ⟨ret_int (by simp [toldV]), rfl⟩
end Go.Proofs.Ytcglfbjfllohjaa