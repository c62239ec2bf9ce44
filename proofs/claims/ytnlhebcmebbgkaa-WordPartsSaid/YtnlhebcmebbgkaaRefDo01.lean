/- The document's own Do and Half (package twinshaftref01): what they return for any number as a function and any two numbers of 64 bits, in whatever memory, which stays as it was. -/
import Derived.Test.YtnlhebcmebbgkaaRows
import Derived.Test.YtnlhebcmebbgkaaMath01
import Derived.Test.YtnlhebcmebbgkaaRef01
import Derived.WalkKit
import Derived.WalkSpells
import Derived.WalkLawsBesides
import Derived.ProofKit
import Derived.Lib.Hide
namespace Go.Proofs.Ytnlhebcmebbgkaa
open Go.RowKit
set_option linter.unusedVariables false
theorem zext_low5 {b : Int} : zextV b 4 % 32 = b % 32 := by rw [zextV_4]; omega
theorem sext_low5 {b : Int} : sextV b 4 % 32 = b % 32 := by
  rw [sextV_4]
  unfold sext1
  split <;> omega

theorem rother_11 (a b : Int) (w : World) (ha : 0 ≤ a) (ha' : a < 18446744073709551616) (hb : 0 ≤ b) (hb' : b < 18446744073709551616) : Calls Try.prog 33 #[.int .i64 11, .int .u64 a, .int .u64 b] w fun e w' => e = .returned (.tuple #[.int .u64 (doV 11 a b), .int .i64 0]) ∧ w = w' := by
  go_enter Try.func33, Try.ntmps33
  go_wp2_with fail
  go_ret2
  exact ⟨ret_int2 (by simp [doV]) rfl, rfl⟩
theorem rother_12 (a b : Int) (w : World) (ha : 0 ≤ a) (ha' : a < 18446744073709551616) (hb : 0 ≤ b) (hb' : b < 18446744073709551616) : Calls Try.prog 33 #[.int .i64 12, .int .u64 a, .int .u64 b] w fun e w' => e = .returned (.tuple #[.int .u64 (doV 12 a b), .int .i64 0]) ∧ w = w' := by
  go_enter Try.func33, Try.ntmps33
  go_wp2_with fail
  go_ret2
  exact ⟨ret_int2 (by simp [doV]) rfl, rfl⟩
theorem rother_13 (a b : Int) (w : World) (ha : 0 ≤ a) (ha' : a < 18446744073709551616) (hb : 0 ≤ b) (hb' : b < 18446744073709551616) : Calls Try.prog 33 #[.int .i64 13, .int .u64 a, .int .u64 b] w fun e w' => e = .returned (.tuple #[.int .u64 (doV 13 a b), .int .i64 0]) ∧ w = w' := by
  go_enter Try.func33, Try.ntmps33
  go_wp2_with fail
  go_ret2
  exact ⟨ret_int2 (by simp [doV]) rfl, rfl⟩
theorem rother_14 (a b : Int) (w : World) (ha : 0 ≤ a) (ha' : a < 18446744073709551616) (hb : 0 ≤ b) (hb' : b < 18446744073709551616) : Calls Try.prog 33 #[.int .i64 14, .int .u64 a, .int .u64 b] w fun e w' => e = .returned (.tuple #[.int .u64 (doV 14 a b), .int .i64 0]) ∧ w = w' := by
  go_enter Try.func33, Try.ntmps33
  go_wp2_with (go_at_call 62; (with_reducible refine (rshift_14 a b _ ha ha' hb hb').mono ?_); rintro e w' ⟨rfl, rfl⟩)
  go_ret2
  exact ⟨ret_int2 (by simp [doV]) rfl, rfl⟩
theorem rother_15 (a b : Int) (w : World) (ha : 0 ≤ a) (ha' : a < 18446744073709551616) (hb : 0 ≤ b) (hb' : b < 18446744073709551616) : Calls Try.prog 33 #[.int .i64 15, .int .u64 a, .int .u64 b] w fun e w' => e = .returned (.tuple #[.int .u64 (doV 15 a b), .int .i64 0]) ∧ w = w' := by
  go_enter Try.func33, Try.ntmps33
  go_wp2_with (go_at_call 62; (with_reducible refine (rshift_15 a b _ ha ha' hb hb').mono ?_); rintro e w' ⟨rfl, rfl⟩)
  go_ret2
  exact ⟨ret_int2 (by simp [doV]) rfl, rfl⟩
theorem rother_16 (a b : Int) (w : World) (ha : 0 ≤ a) (ha' : a < 18446744073709551616) (hb : 0 ≤ b) (hb' : b < 18446744073709551616) : Calls Try.prog 33 #[.int .i64 16, .int .u64 a, .int .u64 b] w fun e w' => e = .returned (.tuple #[.int .u64 (doV 16 a b), .int .i64 0]) ∧ w = w' := by
  go_enter Try.func33, Try.ntmps33
  go_wp2_with (go_at_call 62; (with_reducible refine (rshift_16 a b _ ha ha' hb hb').mono ?_); rintro e w' ⟨rfl, rfl⟩)
  go_ret2
  exact ⟨ret_int2 (by simp [doV]) rfl, rfl⟩
theorem rother_17 (a b : Int) (w : World) (ha : 0 ≤ a) (ha' : a < 18446744073709551616) (hb : 0 ≤ b) (hb' : b < 18446744073709551616) : Calls Try.prog 33 #[.int .i64 17, .int .u64 a, .int .u64 b] w fun e w' => e = .returned (.tuple #[.int .u64 (doV 17 a b), .int .i64 0]) ∧ w = w' := by
  have hs : ((a + 9223372036854775808) % 18446744073709551616 < (b + 9223372036854775808) % 18446744073709551616) = (sg a < sg b) := by
    apply propext
    unfold sg
    split <;> split <;> constructor <;> intro h <;> omega
  have HS := Lib.hid hs
  clear hs
  go_enter Try.func33, Try.ntmps33
  go_wp2_with (go_at_call 63; (with_reducible refine (rbit_any _ _).mono ?_); rintro e w' ⟨rfl, rfl⟩)
  go_ret2
  exact ⟨ret_int2 (by simp only [doV, IntKind.wrap_u64, HS.out]; simp) rfl, rfl⟩
theorem rother_18 (a b : Int) (w : World) (ha : 0 ≤ a) (ha' : a < 18446744073709551616) (hb : 0 ≤ b) (hb' : b < 18446744073709551616) : Calls Try.prog 33 #[.int .i64 18, .int .u64 a, .int .u64 b] w fun e w' => e = .returned (.tuple #[.int .u64 (doV 18 a b), .int .i64 0]) ∧ w = w' := by
  go_enter Try.func33, Try.ntmps33
  go_wp2_with (go_at_call 63; (with_reducible refine (rbit_any _ _).mono ?_); rintro e w' ⟨rfl, rfl⟩)
  go_ret2
  exact ⟨ret_int2 (by simp [doV]) rfl, rfl⟩
theorem rother_19 (a b : Int) (w : World) (ha : 0 ≤ a) (ha' : a < 18446744073709551616) (hb : 0 ≤ b) (hb' : b < 18446744073709551616) : Calls Try.prog 33 #[.int .i64 19, .int .u64 a, .int .u64 b] w fun e w' => e = .returned (.tuple #[.int .u64 (doV 19 a b), .int .i64 0]) ∧ w = w' := by
  go_enter Try.func33, Try.ntmps33
  go_wp2_with (go_at_call 63; (with_reducible refine (rbit_any _ _).mono ?_); rintro e w' ⟨rfl, rfl⟩)
  go_ret2
  exact ⟨ret_int2 (by simp [doV]) rfl, rfl⟩
theorem rother_20 (a b : Int) (w : World) (ha : 0 ≤ a) (ha' : a < 18446744073709551616) (hb : 0 ≤ b) (hb' : b < 18446744073709551616) : Calls Try.prog 33 #[.int .i64 20, .int .u64 a, .int .u64 b] w fun e w' => e = .returned (.tuple #[.int .u64 (doV 20 a b), .int .i64 0]) ∧ w = w' := by
  go_enter Try.func33, Try.ntmps33
  go_wp2_with (go_at_call 63; (with_reducible refine (rbit_any _ _).mono ?_); rintro e w' ⟨rfl, rfl⟩)
  go_ret2
  exact ⟨ret_int2 (by simp [doV, bne]) rfl, rfl⟩
theorem rother_out (fn a b : Int) (w : World) (h : fn < 1 ∨ 20 < fn) : Calls Try.prog 33 #[.int .i64 fn, .int .u64 a, .int .u64 b] w fun e w' => e = .returned (.tuple #[.int .u64 0, .int .i64 2]) ∧ w = w' := by
  have b11 : (fn == 11) = false := by simp; omega
  have b12 : (fn == 12) = false := by simp; omega
  have b13 : (fn == 13) = false := by simp; omega
  have b14 : (fn == 14) = false := by simp; omega
  have b15 : (fn == 15) = false := by simp; omega
  have b16 : (fn == 16) = false := by simp; omega
  have b17 : (fn == 17) = false := by simp; omega
  have b18 : (fn == 18) = false := by simp; omega
  have b19 : (fn == 19) = false := by simp; omega
  have b20 : (fn == 20) = false := by simp; omega
  clear h
  go_enter Try.func33, Try.ntmps33
  go_wp2
  go_ret2
  exact ⟨rfl, rfl⟩
theorem rdo_1 (a b : Int) (w : World) (ha : 0 ≤ a) (ha' : a < 18446744073709551616) (hb : 0 ≤ b) (hb' : b < 18446744073709551616) : Calls Try.prog 11 #[.int .i64 1, .int .u64 a, .int .u64 b] w fun e w' => e = .returned (.tuple #[.int .u64 (doV 1 a b), .int .i64 (doE 1)]) ∧ w = w' := by
  rw [doE_in (by omega) (by omega)]
  go_enter Try.func11, Try.ntmps11
  go_wp2_with fail
  go_ret2
  exact ⟨ret_int2 (by simp [doV, IntKind.wrap_u64]) rfl, rfl⟩
theorem rdo_2 (a b : Int) (w : World) (ha : 0 ≤ a) (ha' : a < 18446744073709551616) (hb : 0 ≤ b) (hb' : b < 18446744073709551616) : Calls Try.prog 11 #[.int .i64 2, .int .u64 a, .int .u64 b] w fun e w' => e = .returned (.tuple #[.int .u64 (doV 2 a b), .int .i64 (doE 2)]) ∧ w = w' := by
  rw [doE_in (by omega) (by omega)]
  go_enter Try.func11, Try.ntmps11
  go_wp2_with fail
  go_ret2
  exact ⟨ret_int2 (by simp [doV, IntKind.wrap_u64]) rfl, rfl⟩
theorem rdo_3 (a b : Int) (w : World) (ha : 0 ≤ a) (ha' : a < 18446744073709551616) (hb : 0 ≤ b) (hb' : b < 18446744073709551616) : Calls Try.prog 11 #[.int .i64 3, .int .u64 a, .int .u64 b] w fun e w' => e = .returned (.tuple #[.int .u64 (doV 3 a b), .int .i64 (doE 3)]) ∧ w = w' := by
  rw [doE_in (by omega) (by omega)]
  go_enter Try.func11, Try.ntmps11
  go_wp2_with fail
  go_ret2
  exact ⟨ret_int2 (by simp [doV, IntKind.wrap_u64]) rfl, rfl⟩
theorem rdo_4 (a b : Int) (w : World) (ha : 0 ≤ a) (ha' : a < 18446744073709551616) (hb : 0 ≤ b) (hb' : b < 18446744073709551616) : Calls Try.prog 11 #[.int .i64 4, .int .u64 a, .int .u64 b] w fun e w' => e = .returned (.tuple #[.int .u64 (doV 4 a b), .int .i64 (doE 4)]) ∧ w = w' := by
  rw [doE_in (by omega) (by omega)]
  go_enter Try.func11, Try.ntmps11
  go_wp2_with (go_at_call 31; (with_reducible refine (rproduct_4 a b _ ha ha' hb hb').mono ?_); rintro e w' ⟨rfl, rfl⟩)
  go_ret2
  exact ⟨ret_int2 (rfl) rfl, rfl⟩
theorem rdo_5 (a b : Int) (w : World) (ha : 0 ≤ a) (ha' : a < 18446744073709551616) (hb : 0 ≤ b) (hb' : b < 18446744073709551616) : Calls Try.prog 11 #[.int .i64 5, .int .u64 a, .int .u64 b] w fun e w' => e = .returned (.tuple #[.int .u64 (doV 5 a b), .int .i64 (doE 5)]) ∧ w = w' := by
  rw [doE_in (by omega) (by omega)]
  go_enter Try.func11, Try.ntmps11
  go_wp2_with (go_at_call 31; (with_reducible refine (rproduct_5 a b _ ha ha' hb hb').mono ?_); rintro e w' ⟨rfl, rfl⟩)
  go_ret2
  exact ⟨ret_int2 (rfl) rfl, rfl⟩
theorem rdo_6 (a b : Int) (w : World) (ha : 0 ≤ a) (ha' : a < 18446744073709551616) (hb : 0 ≤ b) (hb' : b < 18446744073709551616) : Calls Try.prog 11 #[.int .i64 6, .int .u64 a, .int .u64 b] w fun e w' => e = .returned (.tuple #[.int .u64 (doV 6 a b), .int .i64 (doE 6)]) ∧ w = w' := by
  rw [doE_in (by omega) (by omega)]
  go_enter Try.func11, Try.ntmps11
  go_wp2_with (go_at_call 31; (with_reducible refine (rproduct_6 a b _ ha ha' hb hb').mono ?_); rintro e w' ⟨rfl, rfl⟩)
  go_ret2
  exact ⟨ret_int2 (rfl) rfl, rfl⟩
theorem rdo_7 (a b : Int) (w : World) (ha : 0 ≤ a) (ha' : a < 18446744073709551616) (hb : 0 ≤ b) (hb' : b < 18446744073709551616) : Calls Try.prog 11 #[.int .i64 7, .int .u64 a, .int .u64 b] w fun e w' => e = .returned (.tuple #[.int .u64 (doV 7 a b), .int .i64 (doE 7)]) ∧ w = w' := by
  rw [doE_in (by omega) (by omega)]
  go_enter Try.func11, Try.ntmps11
  go_wp2_with (go_at_call 32; (with_reducible refine (rdivide_7 a b _ ha ha' hb hb').mono ?_); rintro e w' ⟨rfl, rfl⟩)
  go_ret2
  exact ⟨ret_int2 (rfl) rfl, rfl⟩
theorem rdo_8_zero (a : Int) (w : World)  : Calls Try.prog 11 #[.int .i64 8, .int .u64 a, .int .u64 0] w fun e w' => e = .returned (.tuple #[.int .u64 (doV 8 a 0), .int .i64 (doE 8)]) ∧ w = w' := by
  rw [doE_in (by omega) (by omega)]
  go_enter Try.func11, Try.ntmps11
  go_wp2
  go_ret2
  exact ⟨ret_int2 (by simp [doV, divuV]) rfl, rfl⟩
theorem rdo_8 (a b : Int) (w : World) (ha : 0 ≤ a) (ha' : a < 18446744073709551616) (hb : 0 ≤ b) (hb' : b < 18446744073709551616) : Calls Try.prog 11 #[.int .i64 8, .int .u64 a, .int .u64 b] w fun e w' => e = .returned (.tuple #[.int .u64 (doV 8 a b), .int .i64 (doE 8)]) ∧ w = w' := by
  by_cases h0 : b = 0
  · subst h0
    exact rdo_8_zero a w
  have b0 : (b == 0) = false := by simpa using h0
  have H0 := Lib.hid h0
  have p0 : 0 < b := by omega
  rw [doE_in (by omega) (by omega)]
  go_enter Try.func11, Try.ntmps11
  go_wp2
  go_ret2
  exact ⟨ret_int2 (by simp [doV, divuV, H0.out]) rfl, rfl⟩
theorem rdo_9 (a b : Int) (w : World) (ha : 0 ≤ a) (ha' : a < 18446744073709551616) (hb : 0 ≤ b) (hb' : b < 18446744073709551616) : Calls Try.prog 11 #[.int .i64 9, .int .u64 a, .int .u64 b] w fun e w' => e = .returned (.tuple #[.int .u64 (doV 9 a b), .int .i64 (doE 9)]) ∧ w = w' := by
  rw [doE_in (by omega) (by omega)]
  go_enter Try.func11, Try.ntmps11
  go_wp2_with (go_at_call 32; (with_reducible refine (rdivide_9 a b _ ha ha' hb hb').mono ?_); rintro e w' ⟨rfl, rfl⟩)
  go_ret2
  exact ⟨ret_int2 (rfl) rfl, rfl⟩
theorem rdo_10_zero (a : Int) (w : World)  : Calls Try.prog 11 #[.int .i64 10, .int .u64 a, .int .u64 0] w fun e w' => e = .returned (.tuple #[.int .u64 (doV 10 a 0), .int .i64 (doE 10)]) ∧ w = w' := by
  rw [doE_in (by omega) (by omega)]
  go_enter Try.func11, Try.ntmps11
  go_wp2
  go_ret2
  exact ⟨ret_int2 (by simp [doV, remuV]) rfl, rfl⟩
theorem rdo_10 (a b : Int) (w : World) (ha : 0 ≤ a) (ha' : a < 18446744073709551616) (hb : 0 ≤ b) (hb' : b < 18446744073709551616) : Calls Try.prog 11 #[.int .i64 10, .int .u64 a, .int .u64 b] w fun e w' => e = .returned (.tuple #[.int .u64 (doV 10 a b), .int .i64 (doE 10)]) ∧ w = w' := by
  by_cases h0 : b = 0
  · subst h0
    exact rdo_10_zero a w
  have b0 : (b == 0) = false := by simpa using h0
  have H0 := Lib.hid h0
  have p0 : 0 < b := by omega
  rw [doE_in (by omega) (by omega)]
  go_enter Try.func11, Try.ntmps11
  go_wp2
  go_ret2
  exact ⟨ret_int2 (by simp [doV, remuV, H0.out]) rfl, rfl⟩
theorem rdo_11 (a b : Int) (w : World) (ha : 0 ≤ a) (ha' : a < 18446744073709551616) (hb : 0 ≤ b) (hb' : b < 18446744073709551616) : Calls Try.prog 11 #[.int .i64 11, .int .u64 a, .int .u64 b] w fun e w' => e = .returned (.tuple #[.int .u64 (doV 11 a b), .int .i64 (doE 11)]) ∧ w = w' := by
  rw [doE_in (by omega) (by omega)]
  go_enter Try.func11, Try.ntmps11
  go_wp2_with (go_at_call 33; (with_reducible refine (rother_11 a b _ ha ha' hb hb').mono ?_); rintro e w' ⟨rfl, rfl⟩)
  go_ret2
  exact ⟨ret_int2 (rfl) rfl, rfl⟩
theorem rdo_12 (a b : Int) (w : World) (ha : 0 ≤ a) (ha' : a < 18446744073709551616) (hb : 0 ≤ b) (hb' : b < 18446744073709551616) : Calls Try.prog 11 #[.int .i64 12, .int .u64 a, .int .u64 b] w fun e w' => e = .returned (.tuple #[.int .u64 (doV 12 a b), .int .i64 (doE 12)]) ∧ w = w' := by
  rw [doE_in (by omega) (by omega)]
  go_enter Try.func11, Try.ntmps11
  go_wp2_with (go_at_call 33; (with_reducible refine (rother_12 a b _ ha ha' hb hb').mono ?_); rintro e w' ⟨rfl, rfl⟩)
  go_ret2
  exact ⟨ret_int2 (rfl) rfl, rfl⟩
theorem rdo_13 (a b : Int) (w : World) (ha : 0 ≤ a) (ha' : a < 18446744073709551616) (hb : 0 ≤ b) (hb' : b < 18446744073709551616) : Calls Try.prog 11 #[.int .i64 13, .int .u64 a, .int .u64 b] w fun e w' => e = .returned (.tuple #[.int .u64 (doV 13 a b), .int .i64 (doE 13)]) ∧ w = w' := by
  rw [doE_in (by omega) (by omega)]
  go_enter Try.func11, Try.ntmps11
  go_wp2_with (go_at_call 33; (with_reducible refine (rother_13 a b _ ha ha' hb hb').mono ?_); rintro e w' ⟨rfl, rfl⟩)
  go_ret2
  exact ⟨ret_int2 (rfl) rfl, rfl⟩
theorem rdo_14 (a b : Int) (w : World) (ha : 0 ≤ a) (ha' : a < 18446744073709551616) (hb : 0 ≤ b) (hb' : b < 18446744073709551616) : Calls Try.prog 11 #[.int .i64 14, .int .u64 a, .int .u64 b] w fun e w' => e = .returned (.tuple #[.int .u64 (doV 14 a b), .int .i64 (doE 14)]) ∧ w = w' := by
  rw [doE_in (by omega) (by omega)]
  go_enter Try.func11, Try.ntmps11
  go_wp2_with (go_at_call 33; (with_reducible refine (rother_14 a b _ ha ha' hb hb').mono ?_); rintro e w' ⟨rfl, rfl⟩)
  go_ret2
  exact ⟨ret_int2 (rfl) rfl, rfl⟩
theorem rdo_15 (a b : Int) (w : World) (ha : 0 ≤ a) (ha' : a < 18446744073709551616) (hb : 0 ≤ b) (hb' : b < 18446744073709551616) : Calls Try.prog 11 #[.int .i64 15, .int .u64 a, .int .u64 b] w fun e w' => e = .returned (.tuple #[.int .u64 (doV 15 a b), .int .i64 (doE 15)]) ∧ w = w' := by
  rw [doE_in (by omega) (by omega)]
  go_enter Try.func11, Try.ntmps11
  go_wp2_with (go_at_call 33; (with_reducible refine (rother_15 a b _ ha ha' hb hb').mono ?_); rintro e w' ⟨rfl, rfl⟩)
  go_ret2
  exact ⟨ret_int2 (rfl) rfl, rfl⟩
theorem rdo_16 (a b : Int) (w : World) (ha : 0 ≤ a) (ha' : a < 18446744073709551616) (hb : 0 ≤ b) (hb' : b < 18446744073709551616) : Calls Try.prog 11 #[.int .i64 16, .int .u64 a, .int .u64 b] w fun e w' => e = .returned (.tuple #[.int .u64 (doV 16 a b), .int .i64 (doE 16)]) ∧ w = w' := by
  rw [doE_in (by omega) (by omega)]
  go_enter Try.func11, Try.ntmps11
  go_wp2_with (go_at_call 33; (with_reducible refine (rother_16 a b _ ha ha' hb hb').mono ?_); rintro e w' ⟨rfl, rfl⟩)
  go_ret2
  exact ⟨ret_int2 (rfl) rfl, rfl⟩
theorem rdo_17 (a b : Int) (w : World) (ha : 0 ≤ a) (ha' : a < 18446744073709551616) (hb : 0 ≤ b) (hb' : b < 18446744073709551616) : Calls Try.prog 11 #[.int .i64 17, .int .u64 a, .int .u64 b] w fun e w' => e = .returned (.tuple #[.int .u64 (doV 17 a b), .int .i64 (doE 17)]) ∧ w = w' := by
  rw [doE_in (by omega) (by omega)]
  go_enter Try.func11, Try.ntmps11
  go_wp2_with (go_at_call 33; (with_reducible refine (rother_17 a b _ ha ha' hb hb').mono ?_); rintro e w' ⟨rfl, rfl⟩)
  go_ret2
  exact ⟨ret_int2 (rfl) rfl, rfl⟩
theorem rdo_18 (a b : Int) (w : World) (ha : 0 ≤ a) (ha' : a < 18446744073709551616) (hb : 0 ≤ b) (hb' : b < 18446744073709551616) : Calls Try.prog 11 #[.int .i64 18, .int .u64 a, .int .u64 b] w fun e w' => e = .returned (.tuple #[.int .u64 (doV 18 a b), .int .i64 (doE 18)]) ∧ w = w' := by
  rw [doE_in (by omega) (by omega)]
  go_enter Try.func11, Try.ntmps11
  go_wp2_with (go_at_call 33; (with_reducible refine (rother_18 a b _ ha ha' hb hb').mono ?_); rintro e w' ⟨rfl, rfl⟩)
  go_ret2
  exact ⟨ret_int2 (rfl) rfl, rfl⟩
theorem rdo_19 (a b : Int) (w : World) (ha : 0 ≤ a) (ha' : a < 18446744073709551616) (hb : 0 ≤ b) (hb' : b < 18446744073709551616) : Calls Try.prog 11 #[.int .i64 19, .int .u64 a, .int .u64 b] w fun e w' => e = .returned (.tuple #[.int .u64 (doV 19 a b), .int .i64 (doE 19)]) ∧ w = w' := by
  rw [doE_in (by omega) (by omega)]
  go_enter Try.func11, Try.ntmps11
  go_wp2_with (go_at_call 33; (with_reducible refine (rother_19 a b _ ha ha' hb hb').mono ?_); rintro e w' ⟨rfl, rfl⟩)
  go_ret2
  exact ⟨ret_int2 (rfl) rfl, rfl⟩
theorem rdo_20 (a b : Int) (w : World) (ha : 0 ≤ a) (ha' : a < 18446744073709551616) (hb : 0 ≤ b) (hb' : b < 18446744073709551616) : Calls Try.prog 11 #[.int .i64 20, .int .u64 a, .int .u64 b] w fun e w' => e = .returned (.tuple #[.int .u64 (doV 20 a b), .int .i64 (doE 20)]) ∧ w = w' := by
  rw [doE_in (by omega) (by omega)]
  go_enter Try.func11, Try.ntmps11
  go_wp2_with (go_at_call 33; (with_reducible refine (rother_20 a b _ ha ha' hb hb').mono ?_); rintro e w' ⟨rfl, rfl⟩)
  go_ret2
  exact ⟨ret_int2 (rfl) rfl, rfl⟩
theorem rdo_out (fn a b : Int) (w : World) (h : fn < 1 ∨ 20 < fn) : Calls Try.prog 11 #[.int .i64 fn, .int .u64 a, .int .u64 b] w fun e w' => e = .returned (.tuple #[.int .u64 (doV fn a b), .int .i64 (doE fn)]) ∧ w = w' := by
  rw [doV_out h, doE_out h]
  have b1 : (fn == 1) = false := by simp; omega
  have b2 : (fn == 2) = false := by simp; omega
  have b3 : (fn == 3) = false := by simp; omega
  have b4 : (fn == 4) = false := by simp; omega
  have b5 : (fn == 5) = false := by simp; omega
  have b6 : (fn == 6) = false := by simp; omega
  have b7 : (fn == 7) = false := by simp; omega
  have b8 : (fn == 8) = false := by simp; omega
  have b9 : (fn == 9) = false := by simp; omega
  have b10 : (fn == 10) = false := by simp; omega
  have K := Lib.hid h
  clear h
  go_enter Try.func11, Try.ntmps11
  go_wp2_with (go_at_call 33; (with_reducible refine (rother_out fn a b _ K.out).mono ?_); rintro e w' ⟨rfl, rfl⟩)
  go_ret2
  exact ⟨rfl, rfl⟩
theorem rdo_any (fn a b : Int) (w : World) (ha : 0 ≤ a) (ha' : a < 18446744073709551616) (hb : 0 ≤ b) (hb' : b < 18446744073709551616) : Calls Try.prog 11 #[.int .i64 fn, .int .u64 a, .int .u64 b] w fun e w' => e = .returned (.tuple #[.int .u64 (doV fn a b), .int .i64 (doE fn)]) ∧ w = w' := by
  by_cases h : fn < 1 ∨ 20 < fn
  · exact rdo_out fn a b w h
  · rcases do_cases (fn := fn) (by omega) (by omega) with rfl | rfl | rfl | rfl | rfl | rfl | rfl | rfl | rfl | rfl | rfl | rfl | rfl | rfl | rfl | rfl | rfl | rfl | rfl | rfl
    · exact rdo_1 a b w ha ha' hb hb'
    · exact rdo_2 a b w ha ha' hb hb'
    · exact rdo_3 a b w ha ha' hb hb'
    · exact rdo_4 a b w ha ha' hb hb'
    · exact rdo_5 a b w ha ha' hb hb'
    · exact rdo_6 a b w ha ha' hb hb'
    · exact rdo_7 a b w ha ha' hb hb'
    · exact rdo_8 a b w ha ha' hb hb'
    · exact rdo_9 a b w ha ha' hb hb'
    · exact rdo_10 a b w ha ha' hb hb'
    · exact rdo_11 a b w ha ha' hb hb'
    · exact rdo_12 a b w ha ha' hb hb'
    · exact rdo_13 a b w ha ha' hb hb'
    · exact rdo_14 a b w ha ha' hb hb'
    · exact rdo_15 a b w ha ha' hb hb'
    · exact rdo_16 a b w ha ha' hb hb'
    · exact rdo_17 a b w ha ha' hb hb'
    · exact rdo_18 a b w ha ha' hb hb'
    · exact rdo_19 a b w ha ha' hb hb'
    · exact rdo_20 a b w ha ha' hb hb'
theorem rhalf_1 (a b : Int) (w : World) (ha : 0 ≤ a) (ha' : a < 18446744073709551616) (hb : 0 ≤ b) (hb' : b < 18446744073709551616) : Calls Try.prog 13 #[.int .i64 1, .int .u64 a, .int .u64 b] w fun e w' => e = .returned (.tuple #[.int .u64 (halfV 1 a b), .int .i64 (halfE 1)]) ∧ w = w' := by
  obtain ⟨hx1, hx2⟩ := zextV_bd (s := 4) ha ha'
  obtain ⟨z1, z2⟩ := zextV_bd (s := 4) hb hb'
  obtain ⟨s1, s2⟩ := sextV_bd (s := 4) hb hb'
  have hy1 : 0 ≤ (zextV b 4) := by omega
  have hy2 : (zextV b 4) < 18446744073709551616 := by omega
  have hv := doV_bd (fn := 1) hx1 hx2 hy1 hy2
  have e : halfV 1 a b = sextV (doV 1 (zextV a 4) (zextV b 4)) 4 := by simp [halfV, halfB, halfX, halfY]
  have e' : halfE 1 = 0 := by simp [halfE, halfB]
  rw [e, e']
  clear e e'
  go_enter Try.func13, Try.ntmps13
  go_wp2_with (first
    | (go_at_call 23; (first | (with_reducible refine (rzext_4 a _ ha ha').mono ?_) | (with_reducible refine (rzext_4 b _ hb hb').mono ?_)); rintro e w' ⟨rfl, rfl⟩)
    | (go_at_call 11; (with_reducible refine (rdo_1 _ _ _ hx1 hx2 hy1 hy2).mono ?_); rintro e w' ⟨rfl, rfl⟩)
    | (go_at_call 25; (with_reducible refine (rsext_4 _ _ hv.1 hv.2).mono ?_); rintro e w' ⟨rfl, rfl⟩))
  go_ret2
  exact ⟨rfl, rfl⟩
theorem rhalf_2 (a b : Int) (w : World) (ha : 0 ≤ a) (ha' : a < 18446744073709551616) (hb : 0 ≤ b) (hb' : b < 18446744073709551616) : Calls Try.prog 13 #[.int .i64 2, .int .u64 a, .int .u64 b] w fun e w' => e = .returned (.tuple #[.int .u64 (halfV 2 a b), .int .i64 (halfE 2)]) ∧ w = w' := by
  obtain ⟨hx1, hx2⟩ := zextV_bd (s := 4) ha ha'
  obtain ⟨z1, z2⟩ := zextV_bd (s := 4) hb hb'
  obtain ⟨s1, s2⟩ := sextV_bd (s := 4) hb hb'
  have hy1 : 0 ≤ (zextV b 4) := by omega
  have hy2 : (zextV b 4) < 18446744073709551616 := by omega
  have hv := doV_bd (fn := 2) hx1 hx2 hy1 hy2
  have e : halfV 2 a b = sextV (doV 2 (zextV a 4) (zextV b 4)) 4 := by simp [halfV, halfB, halfX, halfY]
  have e' : halfE 2 = 0 := by simp [halfE, halfB]
  rw [e, e']
  clear e e'
  go_enter Try.func13, Try.ntmps13
  go_wp2_with (first
    | (go_at_call 23; (first | (with_reducible refine (rzext_4 a _ ha ha').mono ?_) | (with_reducible refine (rzext_4 b _ hb hb').mono ?_)); rintro e w' ⟨rfl, rfl⟩)
    | (go_at_call 11; (with_reducible refine (rdo_2 _ _ _ hx1 hx2 hy1 hy2).mono ?_); rintro e w' ⟨rfl, rfl⟩)
    | (go_at_call 25; (with_reducible refine (rsext_4 _ _ hv.1 hv.2).mono ?_); rintro e w' ⟨rfl, rfl⟩))
  go_ret2
  exact ⟨rfl, rfl⟩
theorem rhalf_3 (a b : Int) (w : World) (ha : 0 ≤ a) (ha' : a < 18446744073709551616) (hb : 0 ≤ b) (hb' : b < 18446744073709551616) : Calls Try.prog 13 #[.int .i64 3, .int .u64 a, .int .u64 b] w fun e w' => e = .returned (.tuple #[.int .u64 (halfV 3 a b), .int .i64 (halfE 3)]) ∧ w = w' := by
  obtain ⟨hx1, hx2⟩ := zextV_bd (s := 4) ha ha'
  obtain ⟨z1, z2⟩ := zextV_bd (s := 4) hb hb'
  obtain ⟨s1, s2⟩ := sextV_bd (s := 4) hb hb'
  have hy1 : 0 ≤ (zextV b 4) := by omega
  have hy2 : (zextV b 4) < 18446744073709551616 := by omega
  have hv := doV_bd (fn := 3) hx1 hx2 hy1 hy2
  have e : halfV 3 a b = sextV (doV 3 (zextV a 4) (zextV b 4)) 4 := by simp [halfV, halfB, halfX, halfY]
  have e' : halfE 3 = 0 := by simp [halfE, halfB]
  rw [e, e']
  clear e e'
  go_enter Try.func13, Try.ntmps13
  go_wp2_with (first
    | (go_at_call 23; (first | (with_reducible refine (rzext_4 a _ ha ha').mono ?_) | (with_reducible refine (rzext_4 b _ hb hb').mono ?_)); rintro e w' ⟨rfl, rfl⟩)
    | (go_at_call 11; (with_reducible refine (rdo_3 _ _ _ hx1 hx2 hy1 hy2).mono ?_); rintro e w' ⟨rfl, rfl⟩)
    | (go_at_call 25; (with_reducible refine (rsext_4 _ _ hv.1 hv.2).mono ?_); rintro e w' ⟨rfl, rfl⟩))
  go_ret2
  exact ⟨rfl, rfl⟩
theorem rhalf_7 (a b : Int) (w : World) (ha : 0 ≤ a) (ha' : a < 18446744073709551616) (hb : 0 ≤ b) (hb' : b < 18446744073709551616) : Calls Try.prog 13 #[.int .i64 7, .int .u64 a, .int .u64 b] w fun e w' => e = .returned (.tuple #[.int .u64 (halfV 7 a b), .int .i64 (halfE 7)]) ∧ w = w' := by
  obtain ⟨hx1, hx2⟩ := sextV_bd (s := 4) ha ha'
  obtain ⟨z1, z2⟩ := zextV_bd (s := 4) hb hb'
  obtain ⟨s1, s2⟩ := sextV_bd (s := 4) hb hb'
  have hy1 : 0 ≤ (sextV b 4) := by omega
  have hy2 : (sextV b 4) < 18446744073709551616 := by omega
  have hv := doV_bd (fn := 7) hx1 hx2 hy1 hy2
  have e : halfV 7 a b = sextV (doV 7 (sextV a 4) (sextV b 4)) 4 := by simp [halfV, halfB, halfX, halfY]
  have e' : halfE 7 = 0 := by simp [halfE, halfB]
  rw [e, e']
  clear e e'
  go_enter Try.func13, Try.ntmps13
  go_wp2_with (first
    | (go_at_call 23; (first | (with_reducible refine (rzext_4 a _ ha ha').mono ?_) | (with_reducible refine (rzext_4 b _ hb hb').mono ?_)); rintro e w' ⟨rfl, rfl⟩)
    | (go_at_call 25; (first | (with_reducible refine (rsext_4 a _ ha ha').mono ?_) | (with_reducible refine (rsext_4 b _ hb hb').mono ?_)); rintro e w' ⟨rfl, rfl⟩)
    | (go_at_call 11; (with_reducible refine (rdo_7 _ _ _ hx1 hx2 hy1 hy2).mono ?_); rintro e w' ⟨rfl, rfl⟩)
    | (go_at_call 25; (with_reducible refine (rsext_4 _ _ hv.1 hv.2).mono ?_); rintro e w' ⟨rfl, rfl⟩))
  go_ret2
  exact ⟨rfl, rfl⟩
theorem rhalf_8 (a b : Int) (w : World) (ha : 0 ≤ a) (ha' : a < 18446744073709551616) (hb : 0 ≤ b) (hb' : b < 18446744073709551616) : Calls Try.prog 13 #[.int .i64 8, .int .u64 a, .int .u64 b] w fun e w' => e = .returned (.tuple #[.int .u64 (halfV 8 a b), .int .i64 (halfE 8)]) ∧ w = w' := by
  obtain ⟨hx1, hx2⟩ := zextV_bd (s := 4) ha ha'
  obtain ⟨z1, z2⟩ := zextV_bd (s := 4) hb hb'
  obtain ⟨s1, s2⟩ := sextV_bd (s := 4) hb hb'
  have hy1 : 0 ≤ (zextV b 4) := by omega
  have hy2 : (zextV b 4) < 18446744073709551616 := by omega
  have hv := doV_bd (fn := 8) hx1 hx2 hy1 hy2
  have e : halfV 8 a b = sextV (doV 8 (zextV a 4) (zextV b 4)) 4 := by simp [halfV, halfB, halfX, halfY]
  have e' : halfE 8 = 0 := by simp [halfE, halfB]
  rw [e, e']
  clear e e'
  go_enter Try.func13, Try.ntmps13
  go_wp2_with (first
    | (go_at_call 23; (first | (with_reducible refine (rzext_4 a _ ha ha').mono ?_) | (with_reducible refine (rzext_4 b _ hb hb').mono ?_)); rintro e w' ⟨rfl, rfl⟩)
    | (go_at_call 11; (with_reducible refine (rdo_8 _ _ _ hx1 hx2 hy1 hy2).mono ?_); rintro e w' ⟨rfl, rfl⟩)
    | (go_at_call 25; (with_reducible refine (rsext_4 _ _ hv.1 hv.2).mono ?_); rintro e w' ⟨rfl, rfl⟩))
  go_ret2
  exact ⟨rfl, rfl⟩
theorem rhalf_9 (a b : Int) (w : World) (ha : 0 ≤ a) (ha' : a < 18446744073709551616) (hb : 0 ≤ b) (hb' : b < 18446744073709551616) : Calls Try.prog 13 #[.int .i64 9, .int .u64 a, .int .u64 b] w fun e w' => e = .returned (.tuple #[.int .u64 (halfV 9 a b), .int .i64 (halfE 9)]) ∧ w = w' := by
  obtain ⟨hx1, hx2⟩ := sextV_bd (s := 4) ha ha'
  obtain ⟨z1, z2⟩ := zextV_bd (s := 4) hb hb'
  obtain ⟨s1, s2⟩ := sextV_bd (s := 4) hb hb'
  have hy1 : 0 ≤ (sextV b 4) := by omega
  have hy2 : (sextV b 4) < 18446744073709551616 := by omega
  have hv := doV_bd (fn := 9) hx1 hx2 hy1 hy2
  have e : halfV 9 a b = sextV (doV 9 (sextV a 4) (sextV b 4)) 4 := by simp [halfV, halfB, halfX, halfY]
  have e' : halfE 9 = 0 := by simp [halfE, halfB]
  rw [e, e']
  clear e e'
  go_enter Try.func13, Try.ntmps13
  go_wp2_with (first
    | (go_at_call 23; (first | (with_reducible refine (rzext_4 a _ ha ha').mono ?_) | (with_reducible refine (rzext_4 b _ hb hb').mono ?_)); rintro e w' ⟨rfl, rfl⟩)
    | (go_at_call 25; (first | (with_reducible refine (rsext_4 a _ ha ha').mono ?_) | (with_reducible refine (rsext_4 b _ hb hb').mono ?_)); rintro e w' ⟨rfl, rfl⟩)
    | (go_at_call 11; (with_reducible refine (rdo_9 _ _ _ hx1 hx2 hy1 hy2).mono ?_); rintro e w' ⟨rfl, rfl⟩)
    | (go_at_call 25; (with_reducible refine (rsext_4 _ _ hv.1 hv.2).mono ?_); rintro e w' ⟨rfl, rfl⟩))
  go_ret2
  exact ⟨rfl, rfl⟩
theorem rhalf_10 (a b : Int) (w : World) (ha : 0 ≤ a) (ha' : a < 18446744073709551616) (hb : 0 ≤ b) (hb' : b < 18446744073709551616) : Calls Try.prog 13 #[.int .i64 10, .int .u64 a, .int .u64 b] w fun e w' => e = .returned (.tuple #[.int .u64 (halfV 10 a b), .int .i64 (halfE 10)]) ∧ w = w' := by
  obtain ⟨hx1, hx2⟩ := zextV_bd (s := 4) ha ha'
  obtain ⟨z1, z2⟩ := zextV_bd (s := 4) hb hb'
  obtain ⟨s1, s2⟩ := sextV_bd (s := 4) hb hb'
  have hy1 : 0 ≤ (zextV b 4) := by omega
  have hy2 : (zextV b 4) < 18446744073709551616 := by omega
  have hv := doV_bd (fn := 10) hx1 hx2 hy1 hy2
  have e : halfV 10 a b = sextV (doV 10 (zextV a 4) (zextV b 4)) 4 := by simp [halfV, halfB, halfX, halfY]
  have e' : halfE 10 = 0 := by simp [halfE, halfB]
  rw [e, e']
  clear e e'
  go_enter Try.func13, Try.ntmps13
  go_wp2_with (first
    | (go_at_call 23; (first | (with_reducible refine (rzext_4 a _ ha ha').mono ?_) | (with_reducible refine (rzext_4 b _ hb hb').mono ?_)); rintro e w' ⟨rfl, rfl⟩)
    | (go_at_call 11; (with_reducible refine (rdo_10 _ _ _ hx1 hx2 hy1 hy2).mono ?_); rintro e w' ⟨rfl, rfl⟩)
    | (go_at_call 25; (with_reducible refine (rsext_4 _ _ hv.1 hv.2).mono ?_); rintro e w' ⟨rfl, rfl⟩))
  go_ret2
  exact ⟨rfl, rfl⟩
theorem rhalf_14 (a b : Int) (w : World) (ha : 0 ≤ a) (ha' : a < 18446744073709551616) (hb : 0 ≤ b) (hb' : b < 18446744073709551616) : Calls Try.prog 13 #[.int .i64 14, .int .u64 a, .int .u64 b] w fun e w' => e = .returned (.tuple #[.int .u64 (halfV 14 a b), .int .i64 (halfE 14)]) ∧ w = w' := by
  obtain ⟨hx1, hx2⟩ := zextV_bd (s := 4) ha ha'
  obtain ⟨z1, z2⟩ := zextV_bd (s := 4) hb hb'
  obtain ⟨s1, s2⟩ := sextV_bd (s := 4) hb hb'
  have hy1 : 0 ≤ (zextV b 4 % 32) := by omega
  have hy2 : (zextV b 4 % 32) < 18446744073709551616 := by omega
  have hv := doV_bd (fn := 14) hx1 hx2 hy1 hy2
  have e : halfV 14 a b = sextV (doV 14 (zextV a 4) (zextV b 4 % 32)) 4 := by simp [halfV, halfB, halfX, halfY, zext_low5]
  have e' : halfE 14 = 0 := by simp [halfE, halfB]
  rw [e, e']
  clear e e'
  go_enter Try.func13, Try.ntmps13
  go_wp2_with (first
    | (go_at_call 23; (first | (with_reducible refine (rzext_4 a _ ha ha').mono ?_) | (with_reducible refine (rzext_4 b _ hb hb').mono ?_)); rintro e w' ⟨rfl, rfl⟩)
    | (go_at_call 11; (with_reducible refine (rdo_14 _ _ _ hx1 hx2 hy1 hy2).mono ?_); rintro e w' ⟨rfl, rfl⟩)
    | (go_at_call 25; (with_reducible refine (rsext_4 _ _ hv.1 hv.2).mono ?_); rintro e w' ⟨rfl, rfl⟩))
  go_ret2
  exact ⟨rfl, rfl⟩
theorem rhalf_15 (a b : Int) (w : World) (ha : 0 ≤ a) (ha' : a < 18446744073709551616) (hb : 0 ≤ b) (hb' : b < 18446744073709551616) : Calls Try.prog 13 #[.int .i64 15, .int .u64 a, .int .u64 b] w fun e w' => e = .returned (.tuple #[.int .u64 (halfV 15 a b), .int .i64 (halfE 15)]) ∧ w = w' := by
  obtain ⟨hx1, hx2⟩ := zextV_bd (s := 4) ha ha'
  obtain ⟨z1, z2⟩ := zextV_bd (s := 4) hb hb'
  obtain ⟨s1, s2⟩ := sextV_bd (s := 4) hb hb'
  have hy1 : 0 ≤ (zextV b 4 % 32) := by omega
  have hy2 : (zextV b 4 % 32) < 18446744073709551616 := by omega
  have hv := doV_bd (fn := 15) hx1 hx2 hy1 hy2
  have e : halfV 15 a b = sextV (doV 15 (zextV a 4) (zextV b 4 % 32)) 4 := by simp [halfV, halfB, halfX, halfY, zext_low5]
  have e' : halfE 15 = 0 := by simp [halfE, halfB]
  rw [e, e']
  clear e e'
  go_enter Try.func13, Try.ntmps13
  go_wp2_with (first
    | (go_at_call 23; (first | (with_reducible refine (rzext_4 a _ ha ha').mono ?_) | (with_reducible refine (rzext_4 b _ hb hb').mono ?_)); rintro e w' ⟨rfl, rfl⟩)
    | (go_at_call 11; (with_reducible refine (rdo_15 _ _ _ hx1 hx2 hy1 hy2).mono ?_); rintro e w' ⟨rfl, rfl⟩)
    | (go_at_call 25; (with_reducible refine (rsext_4 _ _ hv.1 hv.2).mono ?_); rintro e w' ⟨rfl, rfl⟩))
  go_ret2
  exact ⟨rfl, rfl⟩
theorem rhalf_16 (a b : Int) (w : World) (ha : 0 ≤ a) (ha' : a < 18446744073709551616) (hb : 0 ≤ b) (hb' : b < 18446744073709551616) : Calls Try.prog 13 #[.int .i64 16, .int .u64 a, .int .u64 b] w fun e w' => e = .returned (.tuple #[.int .u64 (halfV 16 a b), .int .i64 (halfE 16)]) ∧ w = w' := by
  obtain ⟨hx1, hx2⟩ := sextV_bd (s := 4) ha ha'
  obtain ⟨z1, z2⟩ := zextV_bd (s := 4) hb hb'
  obtain ⟨s1, s2⟩ := sextV_bd (s := 4) hb hb'
  have hy1 : 0 ≤ (sextV b 4 % 32) := by omega
  have hy2 : (sextV b 4 % 32) < 18446744073709551616 := by omega
  have hv := doV_bd (fn := 16) hx1 hx2 hy1 hy2
  have e : halfV 16 a b = sextV (doV 16 (sextV a 4) (sextV b 4 % 32)) 4 := by simp [halfV, halfB, halfX, halfY, sext_low5]
  have e' : halfE 16 = 0 := by simp [halfE, halfB]
  rw [e, e']
  clear e e'
  go_enter Try.func13, Try.ntmps13
  go_wp2_with (first
    | (go_at_call 23; (first | (with_reducible refine (rzext_4 a _ ha ha').mono ?_) | (with_reducible refine (rzext_4 b _ hb hb').mono ?_)); rintro e w' ⟨rfl, rfl⟩)
    | (go_at_call 25; (first | (with_reducible refine (rsext_4 a _ ha ha').mono ?_) | (with_reducible refine (rsext_4 b _ hb hb').mono ?_)); rintro e w' ⟨rfl, rfl⟩)
    | (go_at_call 11; (with_reducible refine (rdo_16 _ _ _ hx1 hx2 hy1 hy2).mono ?_); rintro e w' ⟨rfl, rfl⟩)
    | (go_at_call 25; (with_reducible refine (rsext_4 _ _ hv.1 hv.2).mono ?_); rintro e w' ⟨rfl, rfl⟩))
  go_ret2
  exact ⟨rfl, rfl⟩
theorem rhalf_no (fn a b : Int) (w : World) (ha : 0 ≤ a) (ha' : a < 18446744073709551616) (hb : 0 ≤ b) (hb' : b < 18446744073709551616) (h : halfB fn = false) : Calls Try.prog 13 #[.int .i64 fn, .int .u64 a, .int .u64 b] w fun e w' => e = .returned (.tuple #[.int .u64 (halfV fn a b), .int .i64 (halfE fn)]) ∧ w = w' := by
  have e : halfV fn a b = 0 := by simp [halfV, h]
  have e' : halfE fn = 2 := by simp [halfE, h]
  rw [e, e']
  clear e e'
  have hn := half_not h
  have b1 : (fn == 1) = false := by simp [hn]
  have b2 : (fn == 2) = false := by simp [hn]
  have b3 : (fn == 3) = false := by simp [hn]
  have b7 : (fn == 7) = false := by simp [hn]
  have b8 : (fn == 8) = false := by simp [hn]
  have b9 : (fn == 9) = false := by simp [hn]
  have b10 : (fn == 10) = false := by simp [hn]
  have b14 : (fn == 14) = false := by simp [hn]
  have b15 : (fn == 15) = false := by simp [hn]
  have b16 : (fn == 16) = false := by simp [hn]
  clear hn h
  go_enter Try.func13, Try.ntmps13
  go_wp2_with (go_at_call 23; (first | (with_reducible refine (rzext_4 a _ ha ha').mono ?_) | (with_reducible refine (rzext_4 b _ hb hb').mono ?_)); rintro e w' ⟨rfl, rfl⟩)
  go_ret2
  exact ⟨rfl, rfl⟩
theorem rhalf_any (fn a b : Int) (w : World) (ha : 0 ≤ a) (ha' : a < 18446744073709551616) (hb : 0 ≤ b) (hb' : b < 18446744073709551616) : Calls Try.prog 13 #[.int .i64 fn, .int .u64 a, .int .u64 b] w fun e w' => e = .returned (.tuple #[.int .u64 (halfV fn a b), .int .i64 (halfE fn)]) ∧ w = w' := by
  cases h : halfB fn
  · exact rhalf_no fn a b w ha ha' hb hb' h
  · rcases half_cases h with rfl | rfl | rfl | rfl | rfl | rfl | rfl | rfl | rfl | rfl
    · exact rhalf_1 a b w ha ha' hb hb'
    · exact rhalf_2 a b w ha ha' hb hb'
    · exact rhalf_3 a b w ha ha' hb hb'
    · exact rhalf_7 a b w ha ha' hb hb'
    · exact rhalf_8 a b w ha ha' hb hb'
    · exact rhalf_9 a b w ha ha' hb hb'
    · exact rhalf_10 a b w ha ha' hb hb'
    · exact rhalf_14 a b w ha ha' hb hb'
    · exact rhalf_15 a b w ha ha' hb hb'
    · exact rhalf_16 a b w ha ha' hb hb'
end Go.Proofs.Ytnlhebcmebbgkaa
