/- Bits of numbers joined and masked: plain arithmetic of the machine's or and and. No program; no condition but what each names. -/
import Derived.Test.YtcglfbjfllohjaaMath01
import Derived.WalkKit
import Derived.WalkLawsBesides
namespace Go.Proofs.Ytcglfbjfllohjaa
open Go.RowKit
set_option linter.unusedVariables false

theorem ofInt_wrap32 (v : BitVec 32) : BitVec.ofInt 32 (IntKind.u32.wrap (v.toNat : Int)) = v := by
  rw [IntKind.wrap_u32]
  have := v.isLt
  rw [Int.emod_eq_of_lt (by omega) (by omega)]
  apply BitVec.eq_of_toNat_eq
  rw [BitVec.toNat_ofInt]
  omega
theorem ofInt_wrap64 (v : BitVec 64) : BitVec.ofInt 64 (IntKind.i64.wrap (v.toNat : Int)) = v := by
  rw [IntKind.wrap_i64]
  have := v.isLt
  apply BitVec.eq_of_toNat_eq
  rw [BitVec.toNat_ofInt]
  omega
theorem or32_def (a b : Int) : bits .or .u32 a b = IntKind.u32.wrap ((BitVec.ofInt 32 a ||| BitVec.ofInt 32 b).toNat : Int) := rfl
theorem or64_def (a b : Int) : bits .or .i64 a b = IntKind.i64.wrap ((BitVec.ofInt 64 a ||| BitVec.ofInt 64 b).toNat : Int) := rfl
theorem or32_assoc (a b c : Int) : bits .or .u32 (bits .or .u32 a b) c = bits .or .u32 a (bits .or .u32 b c) := by
  rw [or32_def (bits .or .u32 a b), or32_def a (bits .or .u32 b c), or32_def a b, or32_def b c, ofInt_wrap32, ofInt_wrap32, BitVec.or_assoc]
theorem or32_comm (a b : Int) : bits .or .u32 a b = bits .or .u32 b a := by
  rw [or32_def, or32_def, BitVec.or_comm]
theorem or64_assoc (a b c : Int) : bits .or .i64 (bits .or .i64 a b) c = bits .or .i64 a (bits .or .i64 b c) := by
  rw [or64_def (bits .or .i64 a b), or64_def a (bits .or .i64 b c), or64_def a b, or64_def b c, ofInt_wrap64, ofInt_wrap64, BitVec.or_assoc]
theorem or64_comm (a b : Int) : bits .or .i64 a b = bits .or .i64 b a := by
  rw [or64_def, or64_def, BitVec.or_comm]
instance : Std.Associative (bits .or .u32) := ⟨or32_assoc⟩
instance : Std.Commutative (bits .or .u32) := ⟨or32_comm⟩
instance : Std.Associative (bits .or .i64) := ⟨or64_assoc⟩
instance : Std.Commutative (bits .or .i64) := ⟨or64_comm⟩

theorem apart_and (w k : Nat) (A m : Int) (h : 0 ≤ A) (h' : A < 2 ^ k) : BitVec.ofInt w A &&& BitVec.ofInt w (m * 2 ^ k) = 0#w := by
  apply BitVec.eq_of_getLsbD_eq
  intro i hi
  rw [BitVec.getLsbD_and, BitVec.getLsbD_zero]
  by_cases hik : i < k
  · have : BitVec.ofInt w (m * 2 ^ k) = BitVec.ofInt w m <<< k := by
      rw [BitVec.shiftLeft_eq_mul_twoPow, BitVec.ofInt_mul]
      congr 1
      have e2 : ((2 ^ k : Nat) : Int) = (2 : Int) ^ k := by simp
      rw [← e2, BitVec.ofInt_natCast]
      apply BitVec.eq_of_toNat_eq
      simp
    rw [this, BitVec.getLsbD_shiftLeft]
    simp [hik]
  · have : (BitVec.ofInt w A).getLsbD i = false := by
      have hA : A = ((A.toNat : Nat) : Int) := by omega
      rw [hA, BitVec.ofInt_natCast, BitVec.getLsbD_ofNat]
      have hlt : A.toNat < 2 ^ k := by
        have : ((2 ^ k : Nat) : Int) = (2 : Int) ^ k := by simp
        omega
      rw [Nat.testBit_lt_two_pow (Nat.lt_of_lt_of_le hlt (Nat.pow_le_pow_right (by decide) (by omega)))]
      simp
    rw [this]
    rfl
theorem or32_add (k : Nat) (A m : Int) (h : 0 ≤ A) (h' : A < 2 ^ k) (hm : 0 ≤ A + m * 2 ^ k) (hm' : A + m * 2 ^ k < 4294967296) : bits .or .u32 A (m * 2 ^ k) = A + m * 2 ^ k := by
  rw [or32_def, ← BitVec.add_eq_or_of_and_eq_zero _ _ (apart_and 32 k A m h h'), ← BitVec.ofInt_add, IntKind.wrap_u32, BitVec.toNat_ofInt]
  omega
theorem or64_add (k : Nat) (A m : Int) (h : 0 ≤ A) (h' : A < 2 ^ k) (hm : -9223372036854775808 ≤ A + m * 2 ^ k) (hm' : A + m * 2 ^ k < 9223372036854775808) : bits .or .i64 A (m * 2 ^ k) = A + m * 2 ^ k := by
  rw [or64_def, ← BitVec.add_eq_or_of_and_eq_zero _ _ (apart_and 64 k A m h h'), ← BitVec.ofInt_add, IntKind.wrap_i64, BitVec.toNat_ofInt]
  omega
theorem or32_zero (a : Int) (h : 0 ≤ a) (h' : a < 4294967296) : bits .or .u32 0 a = a := by
  have := or32_add 0 0 a (by omega) (by decide) (by simp; omega) (by simp; omega)
  simpa using this
theorem or64_zero (a : Int) (h : -9223372036854775808 ≤ a) (h' : a < 9223372036854775808) : bits .or .i64 0 a = a := by
  have := or64_add 0 0 a (by omega) (by decide) (by simp; omega) (by simp; omega)
  simpa using this
theorem and32_def (a b : Int) : bits .and .u32 a b = IntKind.u32.wrap ((BitVec.ofInt 32 a &&& BitVec.ofInt 32 b).toNat : Int) := rfl
theorem and32_or (a b c : Int) : bits .and .u32 a (bits .or .u32 b c) = bits .or .u32 (bits .and .u32 a b) (bits .and .u32 a c) := by
  rw [or32_def (bits .and .u32 a b), and32_def a (bits .or .u32 b c), or32_def b c, and32_def a b, and32_def a c, ofInt_wrap32, ofInt_wrap32, ofInt_wrap32, BitVec.and_or_distrib_left]
theorem and_run_nat (x s k : Nat) : x &&& ((2 ^ s - 1) * 2 ^ k) = x / 2 ^ k % 2 ^ s * 2 ^ k := by
  apply Nat.eq_of_testBit_eq
  intro i
  rw [← Nat.shiftLeft_eq, ← Nat.shiftLeft_eq, ← Nat.shiftRight_eq_div_pow, Nat.testBit_and, Nat.testBit_shiftLeft, Nat.testBit_shiftLeft, Nat.testBit_mod_two_pow, Nat.testBit_shiftRight, Nat.testBit_two_pow_sub_one]
  by_cases h : k ≤ i
  · simp [h, Bool.and_comm]
  · simp [h]
theorem and32_run (s k : Nat) (x : Int) (hx : 0 ≤ x) (hx' : x < 4294967296) (h : s + k ≤ 32) : bits .and .u32 x ((2 ^ s - 1) * 2 ^ k) = x / 2 ^ k % 2 ^ s * 2 ^ k := by
  have e : ((2 : Int) ^ s - 1) * 2 ^ k = (((2 ^ s - 1) * 2 ^ k : Nat) : Int) := by
    have h1 : 0 < 2 ^ s := Nat.pow_pos (by decide)
    have : (((2 ^ s - 1 : Nat)) : Int) = (2 : Int) ^ s - 1 := by
      have e2 : ((2 ^ s : Nat) : Int) = (2 : Int) ^ s := by simp
      omega
    rw [Int.natCast_mul, this]
    simp
  have hx2 : x = ((x.toNat : Nat) : Int) := by omega
  have hb : (2 ^ s - 1) * 2 ^ k < 4294967296 := by
    have h1 : (2 ^ s - 1) * 2 ^ k < 2 ^ s * 2 ^ k := Nat.mul_lt_mul_of_pos_right (Nat.sub_lt (Nat.pow_pos (by decide)) (by decide)) (Nat.pow_pos (by decide))
    rw [← Nat.pow_add] at h1
    have h2 : 2 ^ (s + k) ≤ 2 ^ 32 := Nat.pow_le_pow_right (by decide) h
    omega
  rw [e, hx2, u32_and_nat _ _ (by omega) hb, and_run_nat]
  simp
end Go.Proofs.Ytcglfbjfllohjaa
