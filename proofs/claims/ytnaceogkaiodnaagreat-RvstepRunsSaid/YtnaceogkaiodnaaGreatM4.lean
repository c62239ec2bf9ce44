/- Bits of numbers joined and masked: plain arithmetic of the machine's or and and. No program; no condition but what each names. -/
import Derived.Test.YtnaceogkaiodnaaGreatM1
import Derived.WalkKit
import Derived.WalkLawsBesides
import Derived.Test.YtnaceogkaiodnaaGreatRows
import Derived.WalkSpells
import Derived.Laws.EntriesVeiled
import Derived.BigQuiet
import Derived.Deep.QuietTactic
import Derived.ProofKit
import Derived.Lib.Hide
import Derived.Deep.RegionHeld3
import Derived.StillTailTactics
import Derived.Deep.RegionWith
import Derived.Deep.RegionLaw
import Derived.Laws.CopyOwn
namespace Go.Proofs.YtnaceogkaiodnaaGreat
open Go.RowKit
set_option linter.unusedVariables false

theorem ofInt_wrap32 (v : BitVec 32) : BitVec.ofInt 32 (IntKind.u32.wrap (v.toNat : Int)) = v := by
  rw [IntKind.wrap_u32]
  have := v.isLt
  rw [Int.emod_eq_of_lt (by omega) (by omega)]
  apply BitVec.eq_of_toNat_eq
  rw [BitVec.toNat_ofInt]
  omega
theorem ofInt_wrap64 (v : BitVec 64) : BitVec.ofInt 64 (IntKind.i64.wrap (v.toNat : Int)) = v := by
  rw [IntKind.wrap_i64]
  have := v.isLt
  apply BitVec.eq_of_toNat_eq
  rw [BitVec.toNat_ofInt]
  omega
theorem or32_def (a b : Int) : bits .or .u32 a b = IntKind.u32.wrap ((BitVec.ofInt 32 a ||| BitVec.ofInt 32 b).toNat : Int) := rfl
theorem or64_def (a b : Int) : bits .or .i64 a b = IntKind.i64.wrap ((BitVec.ofInt 64 a ||| BitVec.ofInt 64 b).toNat : Int) := rfl
theorem or32_assoc (a b c : Int) : bits .or .u32 (bits .or .u32 a b) c = bits .or .u32 a (bits .or .u32 b c) := by
  rw [or32_def (bits .or .u32 a b), or32_def a (bits .or .u32 b c), or32_def a b, or32_def b c, ofInt_wrap32, ofInt_wrap32, BitVec.or_assoc]
theorem or32_comm (a b : Int) : bits .or .u32 a b = bits .or .u32 b a := by
  rw [or32_def, or32_def, BitVec.or_comm]
theorem or64_assoc (a b c : Int) : bits .or .i64 (bits .or .i64 a b) c = bits .or .i64 a (bits .or .i64 b c) := by
  rw [or64_def (bits .or .i64 a b), or64_def a (bits .or .i64 b c), or64_def a b, or64_def b c, ofInt_wrap64, ofInt_wrap64, BitVec.or_assoc]
theorem or64_comm (a b : Int) : bits .or .i64 a b = bits .or .i64 b a := by
  rw [or64_def, or64_def, BitVec.or_comm]
instance : Std.Associative (bits .or .u32) := ⟨or32_assoc⟩
instance : Std.Commutative (bits .or .u32) := ⟨or32_comm⟩
instance : Std.Associative (bits .or .i64) := ⟨or64_assoc⟩
instance : Std.Commutative (bits .or .i64) := ⟨or64_comm⟩

theorem apart_and (w k : Nat) (A m : Int) (h : 0 ≤ A) (h' : A < 2 ^ k) : BitVec.ofInt w A &&& BitVec.ofInt w (m * 2 ^ k) = 0#w := by
  apply BitVec.eq_of_getLsbD_eq
  intro i hi
  rw [BitVec.getLsbD_and, BitVec.getLsbD_zero]
  by_cases hik : i < k
  · have : BitVec.ofInt w (m * 2 ^ k) = BitVec.ofInt w m <<< k := by
      rw [BitVec.shiftLeft_eq_mul_twoPow, BitVec.ofInt_mul]
      congr 1
      have e2 : ((2 ^ k : Nat) : Int) = (2 : Int) ^ k := by simp
      rw [← e2, BitVec.ofInt_natCast]
      apply BitVec.eq_of_toNat_eq
      simp
    rw [this, BitVec.getLsbD_shiftLeft]
    simp [hik]
  · have : (BitVec.ofInt w A).getLsbD i = false := by
      have hA : A = ((A.toNat : Nat) : Int) := by omega
      rw [hA, BitVec.ofInt_natCast, BitVec.getLsbD_ofNat]
      have hlt : A.toNat < 2 ^ k := by
        have : ((2 ^ k : Nat) : Int) = (2 : Int) ^ k := by simp
        omega
      rw [Nat.testBit_lt_two_pow (Nat.lt_of_lt_of_le hlt (Nat.pow_le_pow_right (by decide) (by omega)))]
      simp
    rw [this]
    rfl
theorem or32_add (k : Nat) (A m : Int) (h : 0 ≤ A) (h' : A < 2 ^ k) (hm : 0 ≤ A + m * 2 ^ k) (hm' : A + m * 2 ^ k < 4294967296) : bits .or .u32 A (m * 2 ^ k) = A + m * 2 ^ k := by
  rw [or32_def, ← BitVec.add_eq_or_of_and_eq_zero _ _ (apart_and 32 k A m h h'), ← BitVec.ofInt_add, IntKind.wrap_u32, BitVec.toNat_ofInt]
  omega
theorem or64_add (k : Nat) (A m : Int) (h : 0 ≤ A) (h' : A < 2 ^ k) (hm : -9223372036854775808 ≤ A + m * 2 ^ k) (hm' : A + m * 2 ^ k < 9223372036854775808) : bits .or .i64 A (m * 2 ^ k) = A + m * 2 ^ k := by
  rw [or64_def, ← BitVec.add_eq_or_of_and_eq_zero _ _ (apart_and 64 k A m h h'), ← BitVec.ofInt_add, IntKind.wrap_i64, BitVec.toNat_ofInt]
  omega
theorem or32_zero (a : Int) (h : 0 ≤ a) (h' : a < 4294967296) : bits .or .u32 0 a = a := by
  have := or32_add 0 0 a (by omega) (by decide) (by simp; omega) (by simp; omega)
  simpa using this
theorem or64_zero (a : Int) (h : -9223372036854775808 ≤ a) (h' : a < 9223372036854775808) : bits .or .i64 0 a = a := by
  have := or64_add 0 0 a (by omega) (by decide) (by simp; omega) (by simp; omega)
  simpa using this
theorem and32_def (a b : Int) : bits .and .u32 a b = IntKind.u32.wrap ((BitVec.ofInt 32 a &&& BitVec.ofInt 32 b).toNat : Int) := rfl
theorem and32_or (a b c : Int) : bits .and .u32 a (bits .or .u32 b c) = bits .or .u32 (bits .and .u32 a b) (bits .and .u32 a c) := by
  rw [or32_def (bits .and .u32 a b), and32_def a (bits .or .u32 b c), or32_def b c, and32_def a b, and32_def a c, ofInt_wrap32, ofInt_wrap32, ofInt_wrap32, BitVec.and_or_distrib_left]
theorem and_run_nat (x s k : Nat) : x &&& ((2 ^ s - 1) * 2 ^ k) = x / 2 ^ k % 2 ^ s * 2 ^ k := by
  apply Nat.eq_of_testBit_eq
  intro i
  rw [← Nat.shiftLeft_eq, ← Nat.shiftLeft_eq, ← Nat.shiftRight_eq_div_pow, Nat.testBit_and, Nat.testBit_shiftLeft, Nat.testBit_shiftLeft, Nat.testBit_mod_two_pow, Nat.testBit_shiftRight, Nat.testBit_two_pow_sub_one]
  by_cases h : k ≤ i
  · simp [h, Bool.and_comm]
  · simp [h]
theorem and32_run (s k : Nat) (x : Int) (hx : 0 ≤ x) (hx' : x < 4294967296) (h : s + k ≤ 32) : bits .and .u32 x ((2 ^ s - 1) * 2 ^ k) = x / 2 ^ k % 2 ^ s * 2 ^ k := by
  have e : ((2 : Int) ^ s - 1) * 2 ^ k = (((2 ^ s - 1) * 2 ^ k : Nat) : Int) := by
    have h1 : 0 < 2 ^ s := Nat.pow_pos (by decide)
    have : (((2 ^ s - 1 : Nat)) : Int) = (2 : Int) ^ s - 1 := by
      have e2 : ((2 ^ s : Nat) : Int) = (2 : Int) ^ s := by simp
      omega
    rw [Int.natCast_mul, this]
    simp
  have hx2 : x = ((x.toNat : Nat) : Int) := by omega
  have hb : (2 ^ s - 1) * 2 ^ k < 4294967296 := by
    have h1 : (2 ^ s - 1) * 2 ^ k < 2 ^ s * 2 ^ k := Nat.mul_lt_mul_of_pos_right (Nat.sub_lt (Nat.pow_pos (by decide)) (by decide)) (Nat.pow_pos (by decide))
    rw [← Nat.pow_add] at h1
    have h2 : 2 ^ (s + k) ≤ 2 ^ 32 := Nat.pow_le_pow_right (by decide) h
    omega
  rw [e, hx2, u32_and_nat _ _ (by omega) hb, and_run_nat]
  simp
end Go.Proofs.YtnaceogkaiodnaaGreat

namespace Go.Proofs.YtnaceogkaiodnaaGreat
open Go.RowKit
set_option linter.unusedVariables false

/-- A field: which number, from which of its bits, how many bits (none: all above, the sign), where they stand. -/
structure Fd where
  of : Nat
  fr : Nat
  sz : Nat
  at' : Nat
structure Fd.ok (F : Fd) : Prop where
  of : F.of < 4
  fr : F.fr < 32
  at' : F.at' < 32
  sz : F.sz + F.at' ≤ 32
  top : F.sz + F.fr ≤ 32
def Fd.put (F : Fd) (n : Int) : Int := if F.sz = 0 then n / 2 ^ F.fr % 4294967296 * 2 ^ F.at' % 4294967296 else n / 2 ^ F.fr % 2 ^ F.sz * 2 ^ F.at'
def Fd.take (F : Fd) (w : Int) : Int := if F.sz = 0 then wrap32 w / 2 ^ F.at' * 2 ^ F.fr else w / 2 ^ F.at' % 2 ^ F.sz * 2 ^ F.fr

theorem two_pow_pos (k : Nat) : (0 : Int) < 2 ^ k := Int.pow_pos (by decide)
theorem two_pow_le {a b : Nat} (h : a ≤ b) : (2 : Int) ^ a ≤ 2 ^ b := by
  have : (2 : Nat) ^ a ≤ 2 ^ b := Nat.pow_le_pow_right (by decide) h
  exact_mod_cast this
theorem two_pow_32 {a : Nat} (h : a ≤ 32) : (2 : Int) ^ a ≤ 4294967296 := two_pow_le (b := 32) h
theorem pow_add' (a b : Nat) : (2 : Int) ^ a * 2 ^ b = 2 ^ (a + b) := (Int.pow_add 2 a b).symm
theorem mod_mul_lt {x : Int} {a b c : Nat} (h : a + b ≤ c) : 0 ≤ x % 2 ^ a * 2 ^ b ∧ x % 2 ^ a * 2 ^ b < 2 ^ c := by
  have h1 := Int.emod_nonneg x (by have := two_pow_pos a; omega : (2 : Int) ^ a ≠ 0)
  have h2 := Int.emod_lt_of_pos x (two_pow_pos a)
  have h3 := two_pow_pos b
  have h4 := two_pow_le h
  rw [← pow_add'] at h4
  refine ⟨Int.mul_nonneg h1 (by omega), ?_⟩
  have : x % 2 ^ a * 2 ^ b < 2 ^ a * 2 ^ b := Int.mul_lt_mul_of_pos_right h2 h3
  omega
theorem and_mask {x : Int} {k : Nat} (h : k ≤ 32) (hx : 0 ≤ x) (hx' : x < 4294967296) : bits .and .u32 x (2 ^ k - 1) = x % 2 ^ k := by
  have hp := two_pow_pos k
  have hl := two_pow_32 h
  rw [u32_and x (2 ^ k - 1) hx hx' (by omega) (by omega)]
  have e : ((2 : Int) ^ k - 1).toNat = 2 ^ k - 1 := by
    have : ((2 : Int) ^ k) = ((2 ^ k : Nat) : Int) := by simp
    rw [this]
    omega
  rw [e, Nat.and_two_pow_sub_one_eq_mod, Int.natCast_emod, Int.toNat_of_nonneg hx]
  simp
theorem Fd.put_bd (F : Fd) (h : F.ok) (n : Int) : 0 ≤ F.put n ∧ F.put n < 4294967296 := by
  unfold Fd.put
  split
  · omega
  · exact mod_mul_lt (c := 32) h.sz
theorem wrap32_bd (n : Int) : -2147483648 ≤ wrap32 n ∧ wrap32 n < 2147483648 := by unfold wrap32; omega
theorem div_bd {x : Int} {b : Int} (k : Nat) (h : -b ≤ x) (h' : x < b) (hb : 0 ≤ b) : -b ≤ x / 2 ^ k ∧ x / 2 ^ k < b := by
  have hp := two_pow_pos k
  constructor
  · rw [Int.le_ediv_iff_mul_le hp]
    have : b * 1 ≤ b * 2 ^ k := Int.mul_le_mul_of_nonneg_left (by omega) hb
    rw [Int.neg_mul]
    omega
  · rw [Int.ediv_lt_iff_lt_mul hp]
    have : b * 1 ≤ b * 2 ^ k := Int.mul_le_mul_of_nonneg_left (by omega) hb
    omega
theorem Fd.take_bd (F : Fd) (h : F.ok) (w : Int) : -9223372036854775808 ≤ F.take w ∧ F.take w < 9223372036854775808 := by
  unfold Fd.take
  split
  · have h1 := wrap32_bd w
    have h2 := div_bd F.at' h1.1 h1.2 (by omega)
    have h3 := two_pow_pos F.fr
    have h4 := two_pow_32 (Nat.le_of_lt h.fr)
    have h5 : -2147483648 * 2 ^ F.fr ≤ wrap32 w / 2 ^ F.at' * 2 ^ F.fr := Int.mul_le_mul_of_nonneg_right h2.1 (by omega)
    have h6 : wrap32 w / 2 ^ F.at' * 2 ^ F.fr < 2147483648 * 2 ^ F.fr := Int.mul_lt_mul_of_pos_right h2.2 h3
    omega
  · have := mod_mul_lt (x := w / 2 ^ F.at') (a := F.sz) (b := F.fr) (c := 32) h.top
    omega

section
variable (F : Fd) (w : World) (n : Int) (pf pm pa : Nat)
theorem part1_any (h : F.ok) (hz : 0 < F.sz) (hn : -9223372036854775808 ≤ n) (hn' : n < 9223372036854775808)
    (cf : w.cell? ⟨pf, 0, none⟩ = some (.int .i64 F.fr)) (cm : w.cell? ⟨pm, 0, none⟩ = some (.int .u32 (2 ^ F.sz - 1))) (ca : w.cell? ⟨pa, 0, none⟩ = some (.int .i64 F.at')) :
    Calls Tryz.prog 138 #[.int .i64 n, .pointer (some ⟨pf, 0, none⟩), .pointer (some ⟨pm, 0, none⟩), .pointer (some ⟨pa, 0, none⟩)] w fun e w' => e = .returned (.int .u32 (F.put n)) ∧ ∃ m, w' = w.drewN m := by
  have hv : bits .and .u32 (n / 2 ^ F.fr % 4294967296) (2 ^ F.sz - 1) * 2 ^ F.at' % 4294967296 = F.put n := by
    unfold Fd.put
    rw [if_neg (by omega), and_mask (by have := h.sz; omega) (by omega) (by omega)]
    have e : n / 2 ^ F.fr % 4294967296 % 2 ^ F.sz = n / 2 ^ F.fr % 2 ^ F.sz := Int.emod_emod_of_dvd _ (by
      have : (2 : Int) ^ 32 = 2 ^ F.sz * 2 ^ (32 - F.sz) := by rw [pow_add']; congr 1; have := h.sz; omega
      exact ⟨2 ^ (32 - F.sz), by rw [← this]; rfl⟩)
    rw [e]
    have := mod_mul_lt (x := n / 2 ^ F.fr) (a := F.sz) (b := F.at') (c := 32) h.sz
    exact Int.emod_eq_of_lt this.1 this.2
  have HV := Lib.hid hv
  obtain ⟨M, hM⟩ : ∃ M : Int, M = 2 ^ F.sz - 1 := ⟨_, rfl⟩
  have hm1 : 0 ≤ M := by have := two_pow_pos F.sz; omega
  have hm2 : M < 4294967296 := by have := two_pow_32 (a := F.sz) (by have := h.sz; omega); omega
  rw [← hM] at cm
  have h1 : (0 : Int) ≤ (F.fr : Int) := by omega
  have h2 : (F.fr : Int) < 32 := by have := h.fr; omega
  have h3 : (0 : Int) ≤ (F.at' : Int) := by omega
  have h4 : (F.at' : Int) < 32 := by have := h.at'; omega
  have HM := Lib.hid hM
  clear hv hM h
  go_enter Tryz.func138, Tryz.ntmps138
  go_wp2
  go_quiet (fail)
  go_wp2
  go_ret
  exact ⟨ret_int (by rw [HM.out]; exact HV.out), _, rfl⟩
theorem part2_any (h : F.ok) (hz : 0 < F.sz) (hn : 0 ≤ n) (hn' : n < 4294967296)
    (cf : w.cell? ⟨pf, 0, none⟩ = some (.int .i64 F.fr)) (cm : w.cell? ⟨pm, 0, none⟩ = some (.int .u32 (2 ^ F.sz - 1))) (ca : w.cell? ⟨pa, 0, none⟩ = some (.int .i64 F.at')) :
    Calls Tryz.prog 139 #[.int .u32 n, .pointer (some ⟨pa, 0, none⟩), .pointer (some ⟨pm, 0, none⟩), .pointer (some ⟨pf, 0, none⟩)] w fun e w' => e = .returned (.int .i64 (F.take n)) ∧ ∃ m, w' = w.drewN m := by
  have hd : 0 ≤ n / 2 ^ F.at' ∧ n / 2 ^ F.at' < 4294967296 := by
    have h1 := two_pow_pos F.at'
    exact ⟨Int.ediv_nonneg hn (by omega), Int.lt_of_le_of_lt (Int.ediv_le_self _ hn) hn'⟩
  have hv : wrap64 (wrap64 (bits .and .u32 (n / 2 ^ F.at') (2 ^ F.sz - 1)) * 2 ^ F.fr) = F.take n := by
    have hb := F.take_bd h n
    unfold Fd.take at hb ⊢
    rw [if_neg (by omega)] at hb ⊢
    rw [and_mask (by have := h.sz; omega) hd.1 hd.2]
    have h5 := mod_mul_lt (x := n / 2 ^ F.at') (a := F.sz) (b := 0) (c := 32) (by have := h.sz; omega)
    rw [Int.pow_zero, Int.mul_one] at h5
    rw [IntWalk.wrap64_in (n / 2 ^ F.at' % 2 ^ F.sz) ⟨by omega, by omega⟩]
    exact IntWalk.wrap64_in _ ⟨by omega, by omega⟩
  have HV := Lib.hid hv
  obtain ⟨M, hM⟩ : ∃ M : Int, M = 2 ^ F.sz - 1 := ⟨_, rfl⟩
  have hm1 : 0 ≤ M := by have := two_pow_pos F.sz; omega
  have hm2 : M < 4294967296 := by have := two_pow_32 (a := F.sz) (by have := h.sz; omega); omega
  rw [← hM] at cm
  have h1 : (0 : Int) ≤ (F.fr : Int) := by omega
  have h2 : (F.fr : Int) < 32 := by have := h.fr; omega
  have h3 : (0 : Int) ≤ (F.at' : Int) := by omega
  have h4 : (F.at' : Int) < 32 := by have := h.at'; omega
  have HM := Lib.hid hM
  clear hv hM h hd
  go_enter Tryz.func139, Tryz.ntmps139
  go_wp2
  go_quiet (fail)
  go_wp2
  go_ret
  exact ⟨ret_int (by rw [HM.out]; exact HV.out), _, rfl⟩
theorem top1_any (h : F.ok) (hz : F.sz = 0) (hn : -9223372036854775808 ≤ n) (hn' : n < 9223372036854775808)
    (cf : w.cell? ⟨pf, 0, none⟩ = some (.int .i64 F.fr)) (ca : w.cell? ⟨pa, 0, none⟩ = some (.int .i64 F.at')) :
    Calls Tryz.prog 140 #[.int .i64 n, .pointer (some ⟨pf, 0, none⟩), .pointer (some ⟨pa, 0, none⟩)] w fun e w' => e = .returned (.int .u32 (F.put n)) ∧ ∃ m, w' = w.drewN m := by
  have hv : n / 2 ^ F.fr % 4294967296 * 2 ^ F.at' % 4294967296 = F.put n := by
    unfold Fd.put
    rw [if_pos hz]
  have HV := Lib.hid hv
  have h1 : (0 : Int) ≤ (F.fr : Int) := by omega
  have h2 : (F.fr : Int) < 32 := by have := h.fr; omega
  have h3 : (0 : Int) ≤ (F.at' : Int) := by omega
  have h4 : (F.at' : Int) < 32 := by have := h.at'; omega
  clear hv h hz
  go_enter Tryz.func140, Tryz.ntmps140
  go_wp2
  go_quiet (fail)
  go_wp2
  go_ret
  exact ⟨ret_int HV.out, _, rfl⟩
theorem top2_any (h : F.ok) (hz : F.sz = 0) (hn : 0 ≤ n) (hn' : n < 4294967296)
    (cf : w.cell? ⟨pf, 0, none⟩ = some (.int .i64 F.fr)) (ca : w.cell? ⟨pa, 0, none⟩ = some (.int .i64 F.at')) :
    Calls Tryz.prog 141 #[.int .u32 n, .pointer (some ⟨pa, 0, none⟩), .pointer (some ⟨pf, 0, none⟩)] w fun e w' => e = .returned (.int .i64 (F.take n)) ∧ ∃ m, w' = w.drewN m := by
  have hv : wrap64 (wrap64 (wrap32 n / 2 ^ F.at') * 2 ^ F.fr) = F.take n := by
    have hb := F.take_bd h n
    unfold Fd.take at hb ⊢
    rw [if_pos hz] at hb ⊢
    have h1 := wrap32_bd n
    have h5 := div_bd F.at' h1.1 h1.2 (by omega)
    rw [IntWalk.wrap64_in (wrap32 n / 2 ^ F.at') ⟨by omega, by omega⟩]
    exact IntWalk.wrap64_in _ ⟨by omega, by omega⟩
  have HV := Lib.hid hv
  have h1 : (0 : Int) ≤ (F.fr : Int) := by omega
  have h2 : (F.fr : Int) < 32 := by have := h.fr; omega
  have h3 : (0 : Int) ≤ (F.at' : Int) := by omega
  have h4 : (F.at' : Int) < 32 := by have := h.at'; omega
  clear hv h hz
  go_enter Tryz.func141, Tryz.ntmps141
  go_wp2
  go_quiet (fail)
  go_wp2
  go_ret
  exact ⟨ret_int HV.out, _, rfl⟩
end

/-- Two closures that are a field's, in a world. -/
def IsPart (w : World) (A B : Nat) (F : Fd) (v1 v2 : Value) : Prop :=
  ∃ pf pm pa : Nat, (A ≤ pf ∧ pf < B) ∧ (A ≤ pm ∧ pm < B) ∧ (A ≤ pa ∧ pa < B) ∧ v1 = .func (.func 138) #[] #[.pointer (some ⟨pf, 0, none⟩), .pointer (some ⟨pm, 0, none⟩), .pointer (some ⟨pa, 0, none⟩)] ∧
    v2 = .func (.func 139) #[] #[.pointer (some ⟨pa, 0, none⟩), .pointer (some ⟨pm, 0, none⟩), .pointer (some ⟨pf, 0, none⟩)] ∧
    w.cell? ⟨pf, 0, none⟩ = some (.int .i64 F.fr) ∧ w.cell? ⟨pm, 0, none⟩ = some (.int .u32 (2 ^ F.sz - 1)) ∧ w.cell? ⟨pa, 0, none⟩ = some (.int .i64 F.at')
def IsTop (w : World) (A B : Nat) (F : Fd) (v1 v2 : Value) : Prop :=
  ∃ pf pa : Nat, (A ≤ pf ∧ pf < B) ∧ (A ≤ pa ∧ pa < B) ∧ v1 = .func (.func 140) #[] #[.pointer (some ⟨pf, 0, none⟩), .pointer (some ⟨pa, 0, none⟩)] ∧
    v2 = .func (.func 141) #[] #[.pointer (some ⟨pa, 0, none⟩), .pointer (some ⟨pf, 0, none⟩)] ∧
    w.cell? ⟨pf, 0, none⟩ = some (.int .i64 F.fr) ∧ w.cell? ⟨pa, 0, none⟩ = some (.int .i64 F.at')
structure IsFd (w : World) (A B : Nat) (F : Fd) (v1 v2 : Value) : Prop where
  ok : F.ok
  how : (0 < F.sz ∧ IsPart w A B F v1 v2) ∨ (F.sz = 0 ∧ IsTop w A B F v1 v2)
theorem IsFd.of_cells {w w' : World} {A B : Nat} {F : Fd} {v1 v2 : Value} (h : IsFd w A B F v1 v2) (hc : ∀ k, A ≤ k → k < B → w'.cell? ⟨k, 0, none⟩ = w.cell? ⟨k, 0, none⟩) : IsFd w' A B F v1 v2 := by
  refine ⟨h.ok, ?_⟩
  rcases h.how with ⟨h0, pf, pm, pa, l1, l2, l3, e1, e2, c1, c2, c3⟩ | ⟨h0, pf, pa, l1, l3, e1, e2, c1, c3⟩
  · exact .inl ⟨h0, pf, pm, pa, l1, l2, l3, e1, e2, by rw [hc _ l1.1 l1.2]; exact c1, by rw [hc _ l2.1 l2.2]; exact c2, by rw [hc _ l3.1 l3.2]; exact c3⟩
  · exact .inr ⟨h0, pf, pa, l1, l3, e1, e2, by rw [hc _ l1.1 l1.2]; exact c1, by rw [hc _ l3.1 l3.2]; exact c3⟩
theorem IsFd.below {w w' : World} {A B B' : Nat} {F : Fd} {v1 v2 : Value} (h : IsFd w A B F v1 v2) (hb : Below B' w w') (hB : B ≤ B') : IsFd w' A B F v1 v2 :=
  h.of_cells fun k _ hk => hb.cell (p := ⟨k, 0, none⟩) (show k < B' by omega)
theorem IsFd.more {w : World} {A A' B B' : Nat} {F : Fd} {v1 v2 : Value} (h : IsFd w A B F v1 v2) (hB : B ≤ B') (hA : A' ≤ A) : IsFd w A' B' F v1 v2 := by
  refine ⟨h.ok, ?_⟩
  rcases h.how with ⟨h0, pf, pm, pa, l1, l2, l3, e⟩ | ⟨h0, pf, pa, l1, l3, e⟩
  · exact .inl ⟨h0, pf, pm, pa, by omega, by omega, by omega, e⟩
  · exact .inr ⟨h0, pf, pa, by omega, by omega, e⟩
/-- A field is made. -/
def FdDone (w : World) (F : Fd) (e : Ending) (w' : World) : Prop :=
  ∃ v1 v2, e = .returned (.agg #[.int .i64 F.of, v1, v2]) ∧ IsFd w' w.heap.size w'.heap.size F v1 v2 ∧ Below w.heap.size w w'
set_option maxHeartbeats 1000000 in
theorem part_any (F : Fd) (w : World) (h : F.ok) (hz : 0 < F.sz) :
    Calls Tryz.prog 119 #[.int .i64 F.of, .int .i64 F.fr, .int .i64 F.sz, .int .i64 F.at'] w (FdDone w F) := by
  have hm : (2 ^ F.sz % 4294967296 - 1) % 4294967296 = (2 : Int) ^ F.sz - 1 := by
    have h1 := two_pow_pos F.sz
    have h2 := two_pow_32 (a := F.sz) (by have := h.sz; omega)
    omega
  have HM := Lib.hid hm
  have h1 : (F.fr : Int) < 32 := by have := h.fr; omega
  have h2 : (F.at' : Int) < 32 := by have := h.at'; omega
  have h3 : (F.of : Int) < 4 := by have := h.of; omega
  have h4 : (F.sz : Int) ≤ 32 := by have := h.sz; omega
  have HF := Lib.hid h
  clear hm h
  go_enter Tryz.func119, Tryz.ntmps119
  go_wp2
  have hs : ∀ (w : World) (o : Obj), (w.alloc o).heap.size = w.heap.size + 1 := fun w o => by simp
  refine bodyPost_ret (v := .agg #[.int .i64 F.of, .func (.func 138) #[] #[.pointer (some ⟨w.heap.size, 0, none⟩), .pointer (some ⟨w.heap.size + 1 + 1 + 1, 0, none⟩), .pointer (some ⟨w.heap.size + 1, 0, none⟩)],
      .func (.func 139) #[] #[.pointer (some ⟨w.heap.size + 1, 0, none⟩), .pointer (some ⟨w.heap.size + 1 + 1 + 1, 0, none⟩), .pointer (some ⟨w.heap.size, 0, none⟩)]])
    (by simp [results, Tryz.results119, go_sem]) rfl ⟨_, _, rfl, ⟨HF.out, .inl ⟨hz, w.heap.size, w.heap.size + 1 + 1 + 1, w.heap.size + 1, ⟨by omega, by simp <;> omega⟩, ⟨by omega, by simp⟩, ⟨by omega, by simp <;> omega⟩, rfl, rfl, by go_simp, ?_, by go_simp⟩⟩, ?_⟩
  · have e : (2 ^ F.sz - 1) % 4294967296 = (2 : Int) ^ F.sz - 1 := by
      have h1 := two_pow_pos F.sz
      have h2 := two_pow_32 (a := F.sz) (by omega)
      omega
    rw [e]
    go_simp
  · exact (((((Below.refl _ _).alloc (Nat.le_refl _) _).alloc (by simp) _).alloc (by simp <;> omega) _).alloc (by simp <;> omega) _)
set_option maxHeartbeats 1000000 in
theorem top_any (F : Fd) (w : World) (h : F.ok) (hz : F.sz = 0) (h3 : F.of = 3) :
    Calls Tryz.prog 120 #[.int .i64 F.fr, .int .i64 F.at'] w (FdDone w F) := by
  have HF := Lib.hid h
  have H3 := Lib.hid h3
  clear h h3
  go_enter Tryz.func120, Tryz.ntmps120
  go_wp2
  refine bodyPost_ret (v := .agg #[.int .i64 3, .func (.func 140) #[] #[.pointer (some ⟨w.heap.size, 0, none⟩), .pointer (some ⟨w.heap.size + 1, 0, none⟩)],
      .func (.func 141) #[] #[.pointer (some ⟨w.heap.size + 1, 0, none⟩), .pointer (some ⟨w.heap.size, 0, none⟩)]])
    (by simp [results, Tryz.results120, go_sem]) rfl ⟨_, _, by rw [H3.out]; rfl, ⟨HF.out, .inr ⟨hz, w.heap.size, w.heap.size + 1, ⟨by omega, by simp <;> omega⟩, ⟨by omega, by simp⟩, rfl, rfl, by go_simp, by go_simp⟩⟩, ?_⟩
  exact ((((Below.refl _ _).alloc (Nat.le_refl _) _).alloc (by simp) _).alloc (by simp <;> omega) _)
end Go.Proofs.YtnaceogkaiodnaaGreat

namespace Go.Proofs.YtnaceogkaiodnaaGreat
open Go.RowKit
set_option linter.unusedVariables false

def Fd.zero : Fd := ⟨0, 0, 0, 0⟩
/-- The fields of a form, by its letter. -/
def fdsV (c : Int) : List Fd :=
  if c = 82 then [⟨0, 0, 5, 7⟩, ⟨1, 0, 5, 15⟩, ⟨2, 0, 5, 20⟩]
  else if c = 73 then [⟨0, 0, 5, 7⟩, ⟨1, 0, 5, 15⟩, ⟨3, 0, 0, 20⟩]
  else if c = 88 then [⟨0, 0, 5, 7⟩, ⟨1, 0, 5, 15⟩, ⟨3, 0, 6, 20⟩]
  else if c = 89 then [⟨0, 0, 5, 7⟩, ⟨1, 0, 5, 15⟩, ⟨3, 0, 5, 20⟩]
  else if c = 83 then [⟨3, 0, 5, 7⟩, ⟨1, 0, 5, 15⟩, ⟨2, 0, 5, 20⟩, ⟨3, 5, 0, 25⟩]
  else if c = 66 then [⟨3, 11, 1, 7⟩, ⟨3, 1, 4, 8⟩, ⟨1, 0, 5, 15⟩, ⟨2, 0, 5, 20⟩, ⟨3, 5, 6, 25⟩, ⟨3, 12, 0, 31⟩]
  else if c = 85 then [⟨0, 0, 5, 7⟩, ⟨3, 0, 0, 12⟩]
  else if c = 74 then [⟨0, 0, 5, 7⟩, ⟨3, 12, 8, 12⟩, ⟨3, 11, 1, 20⟩, ⟨3, 1, 10, 21⟩, ⟨3, 20, 0, 31⟩]
  else []
/-- Fields in a row. -/
def IsFds (w : World) (A B : Nat) (V : Value) (l : List Fd) : Prop :=
  (V = .slice none 0 0 ∧ l = []) ∨ ∃ b cap, V = .slice (some ⟨b, 0, none⟩) l.length cap ∧ l.length ≤ cap ∧ (A ≤ b ∧ b < B) ∧ ∀ i, i < l.length → ∃ v1 v2, IsFd w A B (l.getD i .zero) v1 v2 ∧
    w.cell? ⟨b, i * 3, none⟩ = some (.int .i64 (l.getD i .zero).of) ∧ w.cell? ⟨b, i * 3 + 1, none⟩ = some v1 ∧ w.cell? ⟨b, i * 3 + 2, none⟩ = some v2
theorem IsFds.of_blocks {w w' : World} {A B : Nat} {V : Value} {l : List Fd} (h : IsFds w A B V l) (hc : ∀ k, A ≤ k → k < B → w'.heap[k]? = w.heap[k]?) : IsFds w' A B V l := by
  rcases h with h | ⟨b, cap, h1, h2, h3, h4⟩
  · exact .inl h
  · refine .inr ⟨b, cap, h1, h2, h3, fun i hi => ?_⟩
    obtain ⟨v1, v2, q, c0, c1, c2⟩ := h4 i hi
    have hcell : ∀ o, w'.cell? ⟨b, o, none⟩ = w.cell? ⟨b, o, none⟩ := fun o => World.cell?_of_block (hc b h3.1 h3.2)
    exact ⟨v1, v2, q.of_cells (fun k hk hk' => World.cell?_of_block (hc k hk hk')), by rw [hcell]; exact c0, by rw [hcell]; exact c1, by rw [hcell]; exact c2⟩
theorem IsFds.below {w w' : World} {A B B' : Nat} {V : Value} {l : List Fd} (h : IsFds w A B V l) (hb : Below B' w w') (hB : B ≤ B') : IsFds w' A B V l :=
  h.of_blocks fun k _ hk => hb.block k (by omega)
theorem IsFds.more {w : World} {A A' B B' : Nat} {V : Value} {l : List Fd} (h : IsFds w A B V l) (hB : B ≤ B') (hA : A' ≤ A) : IsFds w A' B' V l := by
  rcases h with h | ⟨b, cap, h1, h2, h3, h4⟩
  · exact .inl h
  · refine .inr ⟨b, cap, h1, h2, by omega, fun i hi => ?_⟩
    obtain ⟨v1, v2, q, c0, c1, c2⟩ := h4 i hi
    exact ⟨v1, v2, q.more hB hA, c0, c1, c2⟩
def FdsDone (w : World) (l : List Fd) (e : Ending) (w' : World) : Prop :=
  ∃ V, e = .returned V ∧ IsFds w' w.heap.size w'.heap.size V l ∧ Below w.heap.size w w'
/-- What a call of part, or top, leaves. -/
structure FdAt (w : World) (F : Fd) (v1 v2 : Value) (w' : World) : Prop where
  fd : IsFd w' w.heap.size w'.heap.size F v1 v2
  bel : Below w.heap.size w w'
theorem new_cell (w : World) (cs : Array Value) (t : TypeId) (p j : Nat) (v : Value) (hp : p = w.heap.size) (hv : cs[j]? = some v) : (w.alloc (.cells cs t)).cell? ⟨p, j, none⟩ = some v := by
  subst hp
  rw [cell_of_row _ _ _ _ _ _ (heap_alloc_new w _)]
  exact hv
theorem old_cell {w : World} (o : Obj) {p j : Nat} {v : Value} (h : w.cell? ⟨p, j, none⟩ = some v) : (w.alloc o).cell? ⟨p, j, none⟩ = some v := by
  rw [((Below.refl _ w).alloc (Nat.le_refl _) o).cell (p := ⟨p, j, none⟩) (block_lt_of_cell h)]
  exact h
theorem below_of_drew {B : Nat} {w w' : World} (h : Below B w.drew w') : Below B w w' := ⟨h.os, h.tape, h.output, h.size, h.block⟩
def Storable (v : Value) : Prop := ∀ (w : World) (a : Addr) (m : Mode), (store a v m).run Tryz.prog w = stored Tryz.prog w a v m
theorem IsFd.st {w : World} {A B : Nat} {F : Fd} {v1 v2 : Value} (h : IsFd w A B F v1 v2) : Storable v1 ∧ Storable v2 := by
  rcases h.how with ⟨h0, pf, pm, pa, l1, l2, l3, rfl, rfl, c1, c2, c3⟩ | ⟨h0, pf, pa, l1, l3, rfl, rfl, c1, c3⟩
  · exact ⟨fun w a m => run_store_func _ w a m _ _ _, fun w a m => run_store_func _ w a m _ _ _⟩
  · exact ⟨fun w a m => run_store_func _ w a m _ _ _, fun w a m => run_store_func _ w a m _ _ _⟩
theorem FdDone.out {w : World} {F : Fd} {e : Ending} {w' : World} (h : FdDone w F e w') : ∃ v1 v2, e = .returned (.agg #[.int .i64 F.of, v1, v2]) ∧ FdAt w F v1 v2 w' := by
  obtain ⟨v1, v2, he, h1, h2⟩ := h
  exact ⟨v1, v2, he, h1, h2⟩

theorem fd_0_0_5_7 (w : World) : Calls Tryz.prog 119 #[.int .i64 0, .int .i64 0, .int .i64 5, .int .i64 7] w (FdDone w ⟨0, 0, 5, 7⟩) := part_any ⟨0, 0, 5, 7⟩ w ⟨by decide, by decide, by decide, by decide, by decide⟩ (by decide)
theorem fd_1_0_5_15 (w : World) : Calls Tryz.prog 119 #[.int .i64 1, .int .i64 0, .int .i64 5, .int .i64 15] w (FdDone w ⟨1, 0, 5, 15⟩) := part_any ⟨1, 0, 5, 15⟩ w ⟨by decide, by decide, by decide, by decide, by decide⟩ (by decide)
theorem fd_2_0_5_20 (w : World) : Calls Tryz.prog 119 #[.int .i64 2, .int .i64 0, .int .i64 5, .int .i64 20] w (FdDone w ⟨2, 0, 5, 20⟩) := part_any ⟨2, 0, 5, 20⟩ w ⟨by decide, by decide, by decide, by decide, by decide⟩ (by decide)
theorem fd_3_0_0_20 (w : World) : Calls Tryz.prog 120 #[.int .i64 0, .int .i64 20] w (FdDone w ⟨3, 0, 0, 20⟩) := top_any ⟨3, 0, 0, 20⟩ w ⟨by decide, by decide, by decide, by decide, by decide⟩ rfl rfl
theorem fd_3_0_6_20 (w : World) : Calls Tryz.prog 119 #[.int .i64 3, .int .i64 0, .int .i64 6, .int .i64 20] w (FdDone w ⟨3, 0, 6, 20⟩) := part_any ⟨3, 0, 6, 20⟩ w ⟨by decide, by decide, by decide, by decide, by decide⟩ (by decide)
theorem fd_3_0_5_20 (w : World) : Calls Tryz.prog 119 #[.int .i64 3, .int .i64 0, .int .i64 5, .int .i64 20] w (FdDone w ⟨3, 0, 5, 20⟩) := part_any ⟨3, 0, 5, 20⟩ w ⟨by decide, by decide, by decide, by decide, by decide⟩ (by decide)
theorem fd_3_0_5_7 (w : World) : Calls Tryz.prog 119 #[.int .i64 3, .int .i64 0, .int .i64 5, .int .i64 7] w (FdDone w ⟨3, 0, 5, 7⟩) := part_any ⟨3, 0, 5, 7⟩ w ⟨by decide, by decide, by decide, by decide, by decide⟩ (by decide)
theorem fd_3_5_0_25 (w : World) : Calls Tryz.prog 120 #[.int .i64 5, .int .i64 25] w (FdDone w ⟨3, 5, 0, 25⟩) := top_any ⟨3, 5, 0, 25⟩ w ⟨by decide, by decide, by decide, by decide, by decide⟩ rfl rfl
theorem fd_3_11_1_7 (w : World) : Calls Tryz.prog 119 #[.int .i64 3, .int .i64 11, .int .i64 1, .int .i64 7] w (FdDone w ⟨3, 11, 1, 7⟩) := part_any ⟨3, 11, 1, 7⟩ w ⟨by decide, by decide, by decide, by decide, by decide⟩ (by decide)
theorem fd_3_1_4_8 (w : World) : Calls Tryz.prog 119 #[.int .i64 3, .int .i64 1, .int .i64 4, .int .i64 8] w (FdDone w ⟨3, 1, 4, 8⟩) := part_any ⟨3, 1, 4, 8⟩ w ⟨by decide, by decide, by decide, by decide, by decide⟩ (by decide)
theorem fd_3_5_6_25 (w : World) : Calls Tryz.prog 119 #[.int .i64 3, .int .i64 5, .int .i64 6, .int .i64 25] w (FdDone w ⟨3, 5, 6, 25⟩) := part_any ⟨3, 5, 6, 25⟩ w ⟨by decide, by decide, by decide, by decide, by decide⟩ (by decide)
theorem fd_3_12_0_31 (w : World) : Calls Tryz.prog 120 #[.int .i64 12, .int .i64 31] w (FdDone w ⟨3, 12, 0, 31⟩) := top_any ⟨3, 12, 0, 31⟩ w ⟨by decide, by decide, by decide, by decide, by decide⟩ rfl rfl
theorem fd_3_0_0_12 (w : World) : Calls Tryz.prog 120 #[.int .i64 0, .int .i64 12] w (FdDone w ⟨3, 0, 0, 12⟩) := top_any ⟨3, 0, 0, 12⟩ w ⟨by decide, by decide, by decide, by decide, by decide⟩ rfl rfl
theorem fd_3_12_8_12 (w : World) : Calls Tryz.prog 119 #[.int .i64 3, .int .i64 12, .int .i64 8, .int .i64 12] w (FdDone w ⟨3, 12, 8, 12⟩) := part_any ⟨3, 12, 8, 12⟩ w ⟨by decide, by decide, by decide, by decide, by decide⟩ (by decide)
theorem fd_3_11_1_20 (w : World) : Calls Tryz.prog 119 #[.int .i64 3, .int .i64 11, .int .i64 1, .int .i64 20] w (FdDone w ⟨3, 11, 1, 20⟩) := part_any ⟨3, 11, 1, 20⟩ w ⟨by decide, by decide, by decide, by decide, by decide⟩ (by decide)
theorem fd_3_1_10_21 (w : World) : Calls Tryz.prog 119 #[.int .i64 3, .int .i64 1, .int .i64 10, .int .i64 21] w (FdDone w ⟨3, 1, 10, 21⟩) := part_any ⟨3, 1, 10, 21⟩ w ⟨by decide, by decide, by decide, by decide, by decide⟩ (by decide)
theorem fd_3_20_0_31 (w : World) : Calls Tryz.prog 120 #[.int .i64 20, .int .i64 31] w (FdDone w ⟨3, 20, 0, 31⟩) := top_any ⟨3, 20, 0, 31⟩ w ⟨by decide, by decide, by decide, by decide, by decide⟩ rfl rfl

set_option maxHeartbeats 4000000 in
theorem fields_R (w : World) : Calls Tryz.prog 82 #[.int .u8 82] w (FdsDone w (fdsV 82)) := by
  go_enter Tryz.func82, Tryz.ntmps82
  go_wp2_with (first
    | (go_at_call 119; (with_reducible refine (fd_0_0_5_7 _).mono ?_); intro e w1 hq; obtain ⟨a1, b1, rfl, hh⟩ := hq.out; have H1 := Lib.hid hh; have s1 := hh.fd.st.1; have t1 := hh.fd.st.2; unfold Storable at s1 t1; have z1 := hh.bel.size; clear hq hh)
    | (go_at_call 119; (with_reducible refine (fd_1_0_5_15 _).mono ?_); intro e w2 hq; obtain ⟨a2, b2, rfl, hh⟩ := hq.out; have H2 := Lib.hid hh; have s2 := hh.fd.st.1; have t2 := hh.fd.st.2; unfold Storable at s2 t2; have z2 := hh.bel.size; clear hq hh)
    | (go_at_call 119; (with_reducible refine (fd_2_0_5_20 _).mono ?_); intro e w3 hq; obtain ⟨a3, b3, rfl, hh⟩ := hq.out; have H3 := Lib.hid hh; have s3 := hh.fd.st.1; have t3 := hh.fd.st.2; unfold Storable at s3 t3; have z3 := hh.bel.size; clear hq hh))
  go_ret
  have hf : fdsV 82 = [⟨0, 0, 5, 7⟩, ⟨1, 0, 5, 15⟩, ⟨2, 0, 5, 20⟩] := rfl
  have C3 : Below w3.heap.size w3 ((((w3.alloc (.cells #[.int .i64 0, a1, b1] 148)).alloc (.cells #[.int .i64 1, a2, b2] 148)).alloc (.cells #[.int .i64 2, a3, b3] 148)).alloc (.cells #[.int .i64 0, a1, b1, .int .i64 1, a2, b2, .int .i64 2, a3, b3] 148)) := (((((Below.refl _ _).alloc (Nat.le_refl _) _).alloc (by simp) _).alloc (by simp <;> omega) _)).alloc (by simp <;> omega) _
  have C2 : Below w2.heap.size w2 ((((w3.alloc (.cells #[.int .i64 0, a1, b1] 148)).alloc (.cells #[.int .i64 1, a2, b2] 148)).alloc (.cells #[.int .i64 2, a3, b3] 148)).alloc (.cells #[.int .i64 0, a1, b1, .int .i64 1, a2, b2, .int .i64 2, a3, b3] 148)) := H3.out.bel.trans (C3.mono z3)
  have C1 : Below w1.heap.size w1 ((((w3.alloc (.cells #[.int .i64 0, a1, b1] 148)).alloc (.cells #[.int .i64 1, a2, b2] 148)).alloc (.cells #[.int .i64 2, a3, b3] 148)).alloc (.cells #[.int .i64 0, a1, b1, .int .i64 1, a2, b2, .int .i64 2, a3, b3] 148)) := H2.out.bel.trans (C2.mono z2)
  have C0 : Below w.heap.size w ((((w3.alloc (.cells #[.int .i64 0, a1, b1] 148)).alloc (.cells #[.int .i64 1, a2, b2] 148)).alloc (.cells #[.int .i64 2, a3, b3] 148)).alloc (.cells #[.int .i64 0, a1, b1, .int .i64 1, a2, b2, .int .i64 2, a3, b3] 148)) := H1.out.bel.trans (C1.mono z1)
  refine ⟨_, rfl, .inr ⟨w3.heap.size + 1 + 1 + 1, 3, rfl, Nat.le_refl _, ⟨by omega, by simp⟩, fun i hi => ?_⟩, C0⟩
  rw [hf] at hi ⊢
  rcases i with _ | _ | _ | i
  · exact ⟨a1, b1, (H1.out.fd.below C1 (Nat.le_refl _)).more C1.size (by first | omega | (show w.heap.size ≤ W.heap.size; omega)), by go_simp <;> rfl, by go_simp, by go_simp⟩
  · exact ⟨a2, b2, (H2.out.fd.below C2 (Nat.le_refl _)).more C2.size (by first | omega | (show w.heap.size ≤ W.heap.size; omega)), by go_simp <;> rfl, by go_simp, by go_simp⟩
  · exact ⟨a3, b3, (H3.out.fd.below C3 (Nat.le_refl _)).more C3.size (by first | omega | (show w.heap.size ≤ W.heap.size; omega)), by go_simp <;> rfl, by go_simp, by go_simp⟩
  · simp at hi; omega

set_option maxHeartbeats 4000000 in
theorem fields_I (w : World) : Calls Tryz.prog 82 #[.int .u8 73] w (FdsDone w (fdsV 73)) := by
  go_enter Tryz.func82, Tryz.ntmps82
  go_wp2_with (first
    | (go_at_call 119; (with_reducible refine (fd_0_0_5_7 _).mono ?_); intro e w1 hq; obtain ⟨a1, b1, rfl, hh⟩ := hq.out; have H1 := Lib.hid hh; have s1 := hh.fd.st.1; have t1 := hh.fd.st.2; unfold Storable at s1 t1; have z1 := hh.bel.size; clear hq hh)
    | (go_at_call 119; (with_reducible refine (fd_1_0_5_15 _).mono ?_); intro e w2 hq; obtain ⟨a2, b2, rfl, hh⟩ := hq.out; have H2 := Lib.hid hh; have s2 := hh.fd.st.1; have t2 := hh.fd.st.2; unfold Storable at s2 t2; have z2 := hh.bel.size; clear hq hh)
    | (go_at_call 119; (with_reducible refine (fd_2_0_5_20 _).mono ?_); intro e w3 hq; obtain ⟨a3, b3, rfl, hh⟩ := hq.out; have H3 := Lib.hid hh; have s3 := hh.fd.st.1; have t3 := hh.fd.st.2; unfold Storable at s3 t3; have z3 := hh.bel.size; clear hq hh))
  have hk3 : (((w3.alloc (.cells #[.int .i64 0, a1, b1] 148)).alloc (.cells #[.int .i64 1, a2, b2] 148)).alloc (.cells #[.int .i64 2, a3, b3] 148)).cell? ⟨w3.heap.size, 0, none⟩ = some (.int .i64 0) ∧ (((w3.alloc (.cells #[.int .i64 0, a1, b1] 148)).alloc (.cells #[.int .i64 1, a2, b2] 148)).alloc (.cells #[.int .i64 2, a3, b3] 148)).cell? ⟨w3.heap.size, 1, none⟩ = some (a1) ∧ (((w3.alloc (.cells #[.int .i64 0, a1, b1] 148)).alloc (.cells #[.int .i64 1, a2, b2] 148)).alloc (.cells #[.int .i64 2, a3, b3] 148)).cell? ⟨w3.heap.size, 2, none⟩ = some (b1) ∧ (((w3.alloc (.cells #[.int .i64 0, a1, b1] 148)).alloc (.cells #[.int .i64 1, a2, b2] 148)).alloc (.cells #[.int .i64 2, a3, b3] 148)).cell? ⟨w3.heap.size + 1, 0, none⟩ = some (.int .i64 1) ∧ (((w3.alloc (.cells #[.int .i64 0, a1, b1] 148)).alloc (.cells #[.int .i64 1, a2, b2] 148)).alloc (.cells #[.int .i64 2, a3, b3] 148)).cell? ⟨w3.heap.size + 1, 1, none⟩ = some (a2) ∧ (((w3.alloc (.cells #[.int .i64 0, a1, b1] 148)).alloc (.cells #[.int .i64 1, a2, b2] 148)).alloc (.cells #[.int .i64 2, a3, b3] 148)).cell? ⟨w3.heap.size + 1, 2, none⟩ = some (b2) := ⟨old_cell _ (old_cell _ (new_cell _ _ _ _ _ _ (by simp) rfl)), old_cell _ (old_cell _ (new_cell _ _ _ _ _ _ (by simp) rfl)), old_cell _ (old_cell _ (new_cell _ _ _ _ _ _ (by simp) rfl)), old_cell _ (new_cell _ _ _ _ _ _ (by simp) rfl), old_cell _ (new_cell _ _ _ _ _ _ (by simp) rfl), old_cell _ (new_cell _ _ _ _ _ _ (by simp) rfl)⟩
  have bW : Below w3.heap.size w3 (((w3.alloc (.cells #[.int .i64 0, a1, b1] 148)).alloc (.cells #[.int .i64 1, a2, b2] 148)).alloc (.cells #[.int .i64 2, a3, b3] 148)) := (((Below.refl _ _).alloc (Nat.le_refl _) _).alloc (by simp) _).alloc (by simp <;> omega) _
  have zW : w3.heap.size + 1 + 1 < (((w3.alloc (.cells #[.int .i64 0, a1, b1] 148)).alloc (.cells #[.int .i64 1, a2, b2] 148)).alloc (.cells #[.int .i64 2, a3, b3] 148)).heap.size := by simp
  generalize ((w3.alloc (.cells #[.int .i64 0, a1, b1] 148)).alloc (.cells #[.int .i64 1, a2, b2] 148)).alloc (.cells #[.int .i64 2, a3, b3] 148) = W at hk3 bW zW ⊢
  have HK3 := Lib.hid hk3
  go_region_held3 (fun w' => w'.cell? ⟨w3.heap.size, 0, none⟩ = some (.int .i64 0) ∧ w'.cell? ⟨w3.heap.size, 1, none⟩ = some (a1) ∧ w'.cell? ⟨w3.heap.size, 2, none⟩ = some (b1) ∧ w'.cell? ⟨w3.heap.size + 1, 0, none⟩ = some (.int .i64 1) ∧ w'.cell? ⟨w3.heap.size + 1, 1, none⟩ = some (a2) ∧ w'.cell? ⟨w3.heap.size + 1, 2, none⟩ = some (b2)) (first | go_keep | exact HK4.out | exact HK3.out)
    (first
      | (go_at_call 120; (with_reducible refine (fd_3_0_0_20 _).mono ?_); intro e w4 hq; obtain ⟨a4, b4, rfl, hh⟩ := hq.out; have H4 := Lib.hid hh; have z4 : W.heap.size ≤ w4.heap.size := hh.bel.size; have HK4 := Lib.hid (⟨(hh.bel.cell (p := ⟨w3.heap.size, 0, none⟩) (show w3.heap.size < W.heap.size by omega)).trans HK3.out.1, (hh.bel.cell (p := ⟨w3.heap.size, 1, none⟩) (show w3.heap.size < W.heap.size by omega)).trans HK3.out.2.1, (hh.bel.cell (p := ⟨w3.heap.size, 2, none⟩) (show w3.heap.size < W.heap.size by omega)).trans HK3.out.2.2.1, (hh.bel.cell (p := ⟨w3.heap.size + 1, 0, none⟩) (show w3.heap.size + 1 < W.heap.size by omega)).trans HK3.out.2.2.2.1, (hh.bel.cell (p := ⟨w3.heap.size + 1, 1, none⟩) (show w3.heap.size + 1 < W.heap.size by omega)).trans HK3.out.2.2.2.2.1, (hh.bel.cell (p := ⟨w3.heap.size + 1, 2, none⟩) (show w3.heap.size + 1 < W.heap.size by omega)).trans HK3.out.2.2.2.2.2⟩ : w4.cell? ⟨w3.heap.size, 0, none⟩ = some (.int .i64 0) ∧ w4.cell? ⟨w3.heap.size, 1, none⟩ = some (a1) ∧ w4.cell? ⟨w3.heap.size, 2, none⟩ = some (b1) ∧ w4.cell? ⟨w3.heap.size + 1, 0, none⟩ = some (.int .i64 1) ∧ w4.cell? ⟨w3.heap.size + 1, 1, none⟩ = some (a2) ∧ w4.cell? ⟨w3.heap.size + 1, 2, none⟩ = some (b2)); clear hq hh))
  go_wp2
  go_ret
  have hf : fdsV 73 = [⟨0, 0, 5, 7⟩, ⟨1, 0, 5, 15⟩, ⟨3, 0, 0, 20⟩] := rfl
  have C4 : Below w4.heap.size w4 (w4.alloc (.cells #[.int .i64 0, a1, b1, .int .i64 1, a2, b2, .int .i64 3, a4, b4] 148)) := (Below.refl _ _).alloc (Nat.le_refl _) _
  have C3 : Below w3.heap.size w3 (w4.alloc (.cells #[.int .i64 0, a1, b1, .int .i64 1, a2, b2, .int .i64 3, a4, b4] 148)) := bW.trans ((below_of_drew (H4.out.bel.trans (C4.mono z4))).mono (show _ ≤ W.heap.size by omega))
  have C2 : Below w2.heap.size w2 (w4.alloc (.cells #[.int .i64 0, a1, b1, .int .i64 1, a2, b2, .int .i64 3, a4, b4] 148)) := H3.out.bel.trans (C3.mono z3)
  have C1 : Below w1.heap.size w1 (w4.alloc (.cells #[.int .i64 0, a1, b1, .int .i64 1, a2, b2, .int .i64 3, a4, b4] 148)) := H2.out.bel.trans (C2.mono z2)
  have C0 : Below w.heap.size w (w4.alloc (.cells #[.int .i64 0, a1, b1, .int .i64 1, a2, b2, .int .i64 3, a4, b4] 148)) := H1.out.bel.trans (C1.mono z1)
  refine ⟨_, rfl, .inr ⟨w4.heap.size, 3, rfl, Nat.le_refl _, ⟨by omega, by simp⟩, fun i hi => ?_⟩, C0⟩
  rw [hf] at hi ⊢
  rcases i with _ | _ | _ | i
  · exact ⟨a1, b1, (H1.out.fd.below C1 (Nat.le_refl _)).more C1.size (by first | omega | (show w.heap.size ≤ W.heap.size; omega)), by go_simp <;> rfl, by go_simp, by go_simp⟩
  · exact ⟨a2, b2, (H2.out.fd.below C2 (Nat.le_refl _)).more C2.size (by first | omega | (show w.heap.size ≤ W.heap.size; omega)), by go_simp <;> rfl, by go_simp, by go_simp⟩
  · exact ⟨a4, b4, (H4.out.fd.below C4 (Nat.le_refl _)).more C4.size (by first | omega | (show w.heap.size ≤ W.heap.size; omega)), by go_simp <;> rfl, by go_simp, by go_simp⟩
  · simp at hi; omega

set_option maxHeartbeats 4000000 in
theorem fields_X (w : World) : Calls Tryz.prog 82 #[.int .u8 88] w (FdsDone w (fdsV 88)) := by
  go_enter Tryz.func82, Tryz.ntmps82
  go_wp2_with (first
    | (go_at_call 119; (with_reducible refine (fd_0_0_5_7 _).mono ?_); intro e w1 hq; obtain ⟨a1, b1, rfl, hh⟩ := hq.out; have H1 := Lib.hid hh; have s1 := hh.fd.st.1; have t1 := hh.fd.st.2; unfold Storable at s1 t1; have z1 := hh.bel.size; clear hq hh)
    | (go_at_call 119; (with_reducible refine (fd_1_0_5_15 _).mono ?_); intro e w2 hq; obtain ⟨a2, b2, rfl, hh⟩ := hq.out; have H2 := Lib.hid hh; have s2 := hh.fd.st.1; have t2 := hh.fd.st.2; unfold Storable at s2 t2; have z2 := hh.bel.size; clear hq hh)
    | (go_at_call 119; (with_reducible refine (fd_2_0_5_20 _).mono ?_); intro e w3 hq; obtain ⟨a3, b3, rfl, hh⟩ := hq.out; have H3 := Lib.hid hh; have s3 := hh.fd.st.1; have t3 := hh.fd.st.2; unfold Storable at s3 t3; have z3 := hh.bel.size; clear hq hh))
  have hk3 : (((w3.alloc (.cells #[.int .i64 0, a1, b1] 148)).alloc (.cells #[.int .i64 1, a2, b2] 148)).alloc (.cells #[.int .i64 2, a3, b3] 148)).cell? ⟨w3.heap.size, 0, none⟩ = some (.int .i64 0) ∧ (((w3.alloc (.cells #[.int .i64 0, a1, b1] 148)).alloc (.cells #[.int .i64 1, a2, b2] 148)).alloc (.cells #[.int .i64 2, a3, b3] 148)).cell? ⟨w3.heap.size, 1, none⟩ = some (a1) ∧ (((w3.alloc (.cells #[.int .i64 0, a1, b1] 148)).alloc (.cells #[.int .i64 1, a2, b2] 148)).alloc (.cells #[.int .i64 2, a3, b3] 148)).cell? ⟨w3.heap.size, 2, none⟩ = some (b1) ∧ (((w3.alloc (.cells #[.int .i64 0, a1, b1] 148)).alloc (.cells #[.int .i64 1, a2, b2] 148)).alloc (.cells #[.int .i64 2, a3, b3] 148)).cell? ⟨w3.heap.size + 1, 0, none⟩ = some (.int .i64 1) ∧ (((w3.alloc (.cells #[.int .i64 0, a1, b1] 148)).alloc (.cells #[.int .i64 1, a2, b2] 148)).alloc (.cells #[.int .i64 2, a3, b3] 148)).cell? ⟨w3.heap.size + 1, 1, none⟩ = some (a2) ∧ (((w3.alloc (.cells #[.int .i64 0, a1, b1] 148)).alloc (.cells #[.int .i64 1, a2, b2] 148)).alloc (.cells #[.int .i64 2, a3, b3] 148)).cell? ⟨w3.heap.size + 1, 2, none⟩ = some (b2) := ⟨old_cell _ (old_cell _ (new_cell _ _ _ _ _ _ (by simp) rfl)), old_cell _ (old_cell _ (new_cell _ _ _ _ _ _ (by simp) rfl)), old_cell _ (old_cell _ (new_cell _ _ _ _ _ _ (by simp) rfl)), old_cell _ (new_cell _ _ _ _ _ _ (by simp) rfl), old_cell _ (new_cell _ _ _ _ _ _ (by simp) rfl), old_cell _ (new_cell _ _ _ _ _ _ (by simp) rfl)⟩
  have bW : Below w3.heap.size w3 (((w3.alloc (.cells #[.int .i64 0, a1, b1] 148)).alloc (.cells #[.int .i64 1, a2, b2] 148)).alloc (.cells #[.int .i64 2, a3, b3] 148)) := (((Below.refl _ _).alloc (Nat.le_refl _) _).alloc (by simp) _).alloc (by simp <;> omega) _
  have zW : w3.heap.size + 1 + 1 < (((w3.alloc (.cells #[.int .i64 0, a1, b1] 148)).alloc (.cells #[.int .i64 1, a2, b2] 148)).alloc (.cells #[.int .i64 2, a3, b3] 148)).heap.size := by simp
  generalize ((w3.alloc (.cells #[.int .i64 0, a1, b1] 148)).alloc (.cells #[.int .i64 1, a2, b2] 148)).alloc (.cells #[.int .i64 2, a3, b3] 148) = W at hk3 bW zW ⊢
  have HK3 := Lib.hid hk3
  go_region_held3 (fun w' => w'.cell? ⟨w3.heap.size, 0, none⟩ = some (.int .i64 0) ∧ w'.cell? ⟨w3.heap.size, 1, none⟩ = some (a1) ∧ w'.cell? ⟨w3.heap.size, 2, none⟩ = some (b1) ∧ w'.cell? ⟨w3.heap.size + 1, 0, none⟩ = some (.int .i64 1) ∧ w'.cell? ⟨w3.heap.size + 1, 1, none⟩ = some (a2) ∧ w'.cell? ⟨w3.heap.size + 1, 2, none⟩ = some (b2)) (first | go_keep | exact HK4.out | exact HK3.out)
    (first
      | (go_at_call 119; (with_reducible refine (fd_3_0_6_20 _).mono ?_); intro e w4 hq; obtain ⟨a4, b4, rfl, hh⟩ := hq.out; have H4 := Lib.hid hh; have z4 : W.heap.size ≤ w4.heap.size := hh.bel.size; have HK4 := Lib.hid (⟨(hh.bel.cell (p := ⟨w3.heap.size, 0, none⟩) (show w3.heap.size < W.heap.size by omega)).trans HK3.out.1, (hh.bel.cell (p := ⟨w3.heap.size, 1, none⟩) (show w3.heap.size < W.heap.size by omega)).trans HK3.out.2.1, (hh.bel.cell (p := ⟨w3.heap.size, 2, none⟩) (show w3.heap.size < W.heap.size by omega)).trans HK3.out.2.2.1, (hh.bel.cell (p := ⟨w3.heap.size + 1, 0, none⟩) (show w3.heap.size + 1 < W.heap.size by omega)).trans HK3.out.2.2.2.1, (hh.bel.cell (p := ⟨w3.heap.size + 1, 1, none⟩) (show w3.heap.size + 1 < W.heap.size by omega)).trans HK3.out.2.2.2.2.1, (hh.bel.cell (p := ⟨w3.heap.size + 1, 2, none⟩) (show w3.heap.size + 1 < W.heap.size by omega)).trans HK3.out.2.2.2.2.2⟩ : w4.cell? ⟨w3.heap.size, 0, none⟩ = some (.int .i64 0) ∧ w4.cell? ⟨w3.heap.size, 1, none⟩ = some (a1) ∧ w4.cell? ⟨w3.heap.size, 2, none⟩ = some (b1) ∧ w4.cell? ⟨w3.heap.size + 1, 0, none⟩ = some (.int .i64 1) ∧ w4.cell? ⟨w3.heap.size + 1, 1, none⟩ = some (a2) ∧ w4.cell? ⟨w3.heap.size + 1, 2, none⟩ = some (b2)); clear hq hh))
  go_wp2
  go_ret
  have hf : fdsV 88 = [⟨0, 0, 5, 7⟩, ⟨1, 0, 5, 15⟩, ⟨3, 0, 6, 20⟩] := rfl
  have C4 : Below w4.heap.size w4 (w4.alloc (.cells #[.int .i64 0, a1, b1, .int .i64 1, a2, b2, .int .i64 3, a4, b4] 148)) := (Below.refl _ _).alloc (Nat.le_refl _) _
  have C3 : Below w3.heap.size w3 (w4.alloc (.cells #[.int .i64 0, a1, b1, .int .i64 1, a2, b2, .int .i64 3, a4, b4] 148)) := bW.trans ((below_of_drew (H4.out.bel.trans (C4.mono z4))).mono (show _ ≤ W.heap.size by omega))
  have C2 : Below w2.heap.size w2 (w4.alloc (.cells #[.int .i64 0, a1, b1, .int .i64 1, a2, b2, .int .i64 3, a4, b4] 148)) := H3.out.bel.trans (C3.mono z3)
  have C1 : Below w1.heap.size w1 (w4.alloc (.cells #[.int .i64 0, a1, b1, .int .i64 1, a2, b2, .int .i64 3, a4, b4] 148)) := H2.out.bel.trans (C2.mono z2)
  have C0 : Below w.heap.size w (w4.alloc (.cells #[.int .i64 0, a1, b1, .int .i64 1, a2, b2, .int .i64 3, a4, b4] 148)) := H1.out.bel.trans (C1.mono z1)
  refine ⟨_, rfl, .inr ⟨w4.heap.size, 3, rfl, Nat.le_refl _, ⟨by omega, by simp⟩, fun i hi => ?_⟩, C0⟩
  rw [hf] at hi ⊢
  rcases i with _ | _ | _ | i
  · exact ⟨a1, b1, (H1.out.fd.below C1 (Nat.le_refl _)).more C1.size (by first | omega | (show w.heap.size ≤ W.heap.size; omega)), by go_simp <;> rfl, by go_simp, by go_simp⟩
  · exact ⟨a2, b2, (H2.out.fd.below C2 (Nat.le_refl _)).more C2.size (by first | omega | (show w.heap.size ≤ W.heap.size; omega)), by go_simp <;> rfl, by go_simp, by go_simp⟩
  · exact ⟨a4, b4, (H4.out.fd.below C4 (Nat.le_refl _)).more C4.size (by first | omega | (show w.heap.size ≤ W.heap.size; omega)), by go_simp <;> rfl, by go_simp, by go_simp⟩
  · simp at hi; omega

set_option maxHeartbeats 4000000 in
theorem fields_Y (w : World) : Calls Tryz.prog 82 #[.int .u8 89] w (FdsDone w (fdsV 89)) := by
  go_enter Tryz.func82, Tryz.ntmps82
  go_wp2_with (first
    | (go_at_call 119; (with_reducible refine (fd_0_0_5_7 _).mono ?_); intro e w1 hq; obtain ⟨a1, b1, rfl, hh⟩ := hq.out; have H1 := Lib.hid hh; have s1 := hh.fd.st.1; have t1 := hh.fd.st.2; unfold Storable at s1 t1; have z1 := hh.bel.size; clear hq hh)
    | (go_at_call 119; (with_reducible refine (fd_1_0_5_15 _).mono ?_); intro e w2 hq; obtain ⟨a2, b2, rfl, hh⟩ := hq.out; have H2 := Lib.hid hh; have s2 := hh.fd.st.1; have t2 := hh.fd.st.2; unfold Storable at s2 t2; have z2 := hh.bel.size; clear hq hh)
    | (go_at_call 119; (with_reducible refine (fd_2_0_5_20 _).mono ?_); intro e w3 hq; obtain ⟨a3, b3, rfl, hh⟩ := hq.out; have H3 := Lib.hid hh; have s3 := hh.fd.st.1; have t3 := hh.fd.st.2; unfold Storable at s3 t3; have z3 := hh.bel.size; clear hq hh))
  have hk3 : (((w3.alloc (.cells #[.int .i64 0, a1, b1] 148)).alloc (.cells #[.int .i64 1, a2, b2] 148)).alloc (.cells #[.int .i64 2, a3, b3] 148)).cell? ⟨w3.heap.size, 0, none⟩ = some (.int .i64 0) ∧ (((w3.alloc (.cells #[.int .i64 0, a1, b1] 148)).alloc (.cells #[.int .i64 1, a2, b2] 148)).alloc (.cells #[.int .i64 2, a3, b3] 148)).cell? ⟨w3.heap.size, 1, none⟩ = some (a1) ∧ (((w3.alloc (.cells #[.int .i64 0, a1, b1] 148)).alloc (.cells #[.int .i64 1, a2, b2] 148)).alloc (.cells #[.int .i64 2, a3, b3] 148)).cell? ⟨w3.heap.size, 2, none⟩ = some (b1) ∧ (((w3.alloc (.cells #[.int .i64 0, a1, b1] 148)).alloc (.cells #[.int .i64 1, a2, b2] 148)).alloc (.cells #[.int .i64 2, a3, b3] 148)).cell? ⟨w3.heap.size + 1, 0, none⟩ = some (.int .i64 1) ∧ (((w3.alloc (.cells #[.int .i64 0, a1, b1] 148)).alloc (.cells #[.int .i64 1, a2, b2] 148)).alloc (.cells #[.int .i64 2, a3, b3] 148)).cell? ⟨w3.heap.size + 1, 1, none⟩ = some (a2) ∧ (((w3.alloc (.cells #[.int .i64 0, a1, b1] 148)).alloc (.cells #[.int .i64 1, a2, b2] 148)).alloc (.cells #[.int .i64 2, a3, b3] 148)).cell? ⟨w3.heap.size + 1, 2, none⟩ = some (b2) := ⟨old_cell _ (old_cell _ (new_cell _ _ _ _ _ _ (by simp) rfl)), old_cell _ (old_cell _ (new_cell _ _ _ _ _ _ (by simp) rfl)), old_cell _ (old_cell _ (new_cell _ _ _ _ _ _ (by simp) rfl)), old_cell _ (new_cell _ _ _ _ _ _ (by simp) rfl), old_cell _ (new_cell _ _ _ _ _ _ (by simp) rfl), old_cell _ (new_cell _ _ _ _ _ _ (by simp) rfl)⟩
  have bW : Below w3.heap.size w3 (((w3.alloc (.cells #[.int .i64 0, a1, b1] 148)).alloc (.cells #[.int .i64 1, a2, b2] 148)).alloc (.cells #[.int .i64 2, a3, b3] 148)) := (((Below.refl _ _).alloc (Nat.le_refl _) _).alloc (by simp) _).alloc (by simp <;> omega) _
  have zW : w3.heap.size + 1 + 1 < (((w3.alloc (.cells #[.int .i64 0, a1, b1] 148)).alloc (.cells #[.int .i64 1, a2, b2] 148)).alloc (.cells #[.int .i64 2, a3, b3] 148)).heap.size := by simp
  generalize ((w3.alloc (.cells #[.int .i64 0, a1, b1] 148)).alloc (.cells #[.int .i64 1, a2, b2] 148)).alloc (.cells #[.int .i64 2, a3, b3] 148) = W at hk3 bW zW ⊢
  have HK3 := Lib.hid hk3
  go_region_held3 (fun w' => w'.cell? ⟨w3.heap.size, 0, none⟩ = some (.int .i64 0) ∧ w'.cell? ⟨w3.heap.size, 1, none⟩ = some (a1) ∧ w'.cell? ⟨w3.heap.size, 2, none⟩ = some (b1) ∧ w'.cell? ⟨w3.heap.size + 1, 0, none⟩ = some (.int .i64 1) ∧ w'.cell? ⟨w3.heap.size + 1, 1, none⟩ = some (a2) ∧ w'.cell? ⟨w3.heap.size + 1, 2, none⟩ = some (b2)) (first | go_keep | exact HK4.out | exact HK3.out)
    (first
      | (go_at_call 119; (with_reducible refine (fd_3_0_5_20 _).mono ?_); intro e w4 hq; obtain ⟨a4, b4, rfl, hh⟩ := hq.out; have H4 := Lib.hid hh; have z4 : W.heap.size ≤ w4.heap.size := hh.bel.size; have HK4 := Lib.hid (⟨(hh.bel.cell (p := ⟨w3.heap.size, 0, none⟩) (show w3.heap.size < W.heap.size by omega)).trans HK3.out.1, (hh.bel.cell (p := ⟨w3.heap.size, 1, none⟩) (show w3.heap.size < W.heap.size by omega)).trans HK3.out.2.1, (hh.bel.cell (p := ⟨w3.heap.size, 2, none⟩) (show w3.heap.size < W.heap.size by omega)).trans HK3.out.2.2.1, (hh.bel.cell (p := ⟨w3.heap.size + 1, 0, none⟩) (show w3.heap.size + 1 < W.heap.size by omega)).trans HK3.out.2.2.2.1, (hh.bel.cell (p := ⟨w3.heap.size + 1, 1, none⟩) (show w3.heap.size + 1 < W.heap.size by omega)).trans HK3.out.2.2.2.2.1, (hh.bel.cell (p := ⟨w3.heap.size + 1, 2, none⟩) (show w3.heap.size + 1 < W.heap.size by omega)).trans HK3.out.2.2.2.2.2⟩ : w4.cell? ⟨w3.heap.size, 0, none⟩ = some (.int .i64 0) ∧ w4.cell? ⟨w3.heap.size, 1, none⟩ = some (a1) ∧ w4.cell? ⟨w3.heap.size, 2, none⟩ = some (b1) ∧ w4.cell? ⟨w3.heap.size + 1, 0, none⟩ = some (.int .i64 1) ∧ w4.cell? ⟨w3.heap.size + 1, 1, none⟩ = some (a2) ∧ w4.cell? ⟨w3.heap.size + 1, 2, none⟩ = some (b2)); clear hq hh))
  go_wp2
  go_ret
  have hf : fdsV 89 = [⟨0, 0, 5, 7⟩, ⟨1, 0, 5, 15⟩, ⟨3, 0, 5, 20⟩] := rfl
  have C4 : Below w4.heap.size w4 (w4.alloc (.cells #[.int .i64 0, a1, b1, .int .i64 1, a2, b2, .int .i64 3, a4, b4] 148)) := (Below.refl _ _).alloc (Nat.le_refl _) _
  have C3 : Below w3.heap.size w3 (w4.alloc (.cells #[.int .i64 0, a1, b1, .int .i64 1, a2, b2, .int .i64 3, a4, b4] 148)) := bW.trans ((below_of_drew (H4.out.bel.trans (C4.mono z4))).mono (show _ ≤ W.heap.size by omega))
  have C2 : Below w2.heap.size w2 (w4.alloc (.cells #[.int .i64 0, a1, b1, .int .i64 1, a2, b2, .int .i64 3, a4, b4] 148)) := H3.out.bel.trans (C3.mono z3)
  have C1 : Below w1.heap.size w1 (w4.alloc (.cells #[.int .i64 0, a1, b1, .int .i64 1, a2, b2, .int .i64 3, a4, b4] 148)) := H2.out.bel.trans (C2.mono z2)
  have C0 : Below w.heap.size w (w4.alloc (.cells #[.int .i64 0, a1, b1, .int .i64 1, a2, b2, .int .i64 3, a4, b4] 148)) := H1.out.bel.trans (C1.mono z1)
  refine ⟨_, rfl, .inr ⟨w4.heap.size, 3, rfl, Nat.le_refl _, ⟨by omega, by simp⟩, fun i hi => ?_⟩, C0⟩
  rw [hf] at hi ⊢
  rcases i with _ | _ | _ | i
  · exact ⟨a1, b1, (H1.out.fd.below C1 (Nat.le_refl _)).more C1.size (by first | omega | (show w.heap.size ≤ W.heap.size; omega)), by go_simp <;> rfl, by go_simp, by go_simp⟩
  · exact ⟨a2, b2, (H2.out.fd.below C2 (Nat.le_refl _)).more C2.size (by first | omega | (show w.heap.size ≤ W.heap.size; omega)), by go_simp <;> rfl, by go_simp, by go_simp⟩
  · exact ⟨a4, b4, (H4.out.fd.below C4 (Nat.le_refl _)).more C4.size (by first | omega | (show w.heap.size ≤ W.heap.size; omega)), by go_simp <;> rfl, by go_simp, by go_simp⟩
  · simp at hi; omega

set_option maxHeartbeats 4000000 in
theorem fields_S (w : World) : Calls Tryz.prog 82 #[.int .u8 83] w (FdsDone w (fdsV 83)) := by
  go_enter Tryz.func82, Tryz.ntmps82
  go_wp2_with (first
    | (go_at_call 119; (with_reducible refine (fd_0_0_5_7 _).mono ?_); intro e w1 hq; obtain ⟨a1, b1, rfl, hh⟩ := hq.out; have H1 := Lib.hid hh; have s1 := hh.fd.st.1; have t1 := hh.fd.st.2; unfold Storable at s1 t1; have z1 := hh.bel.size; clear hq hh)
    | (go_at_call 119; (with_reducible refine (fd_1_0_5_15 _).mono ?_); intro e w2 hq; obtain ⟨a2, b2, rfl, hh⟩ := hq.out; have H2 := Lib.hid hh; have s2 := hh.fd.st.1; have t2 := hh.fd.st.2; unfold Storable at s2 t2; have z2 := hh.bel.size; clear hq hh)
    | (go_at_call 119; (with_reducible refine (fd_2_0_5_20 _).mono ?_); intro e w3 hq; obtain ⟨a3, b3, rfl, hh⟩ := hq.out; have H3 := Lib.hid hh; have s3 := hh.fd.st.1; have t3 := hh.fd.st.2; unfold Storable at s3 t3; have z3 := hh.bel.size; clear hq hh))
  have hk3 : (((w3.alloc (.cells #[.int .i64 0, a1, b1] 148)).alloc (.cells #[.int .i64 1, a2, b2] 148)).alloc (.cells #[.int .i64 2, a3, b3] 148)).cell? ⟨w3.heap.size + 1, 0, none⟩ = some (.int .i64 1) ∧ (((w3.alloc (.cells #[.int .i64 0, a1, b1] 148)).alloc (.cells #[.int .i64 1, a2, b2] 148)).alloc (.cells #[.int .i64 2, a3, b3] 148)).cell? ⟨w3.heap.size + 1, 1, none⟩ = some (a2) ∧ (((w3.alloc (.cells #[.int .i64 0, a1, b1] 148)).alloc (.cells #[.int .i64 1, a2, b2] 148)).alloc (.cells #[.int .i64 2, a3, b3] 148)).cell? ⟨w3.heap.size + 1, 2, none⟩ = some (b2) ∧ (((w3.alloc (.cells #[.int .i64 0, a1, b1] 148)).alloc (.cells #[.int .i64 1, a2, b2] 148)).alloc (.cells #[.int .i64 2, a3, b3] 148)).cell? ⟨w3.heap.size + 1 + 1, 0, none⟩ = some (.int .i64 2) ∧ (((w3.alloc (.cells #[.int .i64 0, a1, b1] 148)).alloc (.cells #[.int .i64 1, a2, b2] 148)).alloc (.cells #[.int .i64 2, a3, b3] 148)).cell? ⟨w3.heap.size + 1 + 1, 1, none⟩ = some (a3) ∧ (((w3.alloc (.cells #[.int .i64 0, a1, b1] 148)).alloc (.cells #[.int .i64 1, a2, b2] 148)).alloc (.cells #[.int .i64 2, a3, b3] 148)).cell? ⟨w3.heap.size + 1 + 1, 2, none⟩ = some (b3) := ⟨old_cell _ (new_cell _ _ _ _ _ _ (by simp) rfl), old_cell _ (new_cell _ _ _ _ _ _ (by simp) rfl), old_cell _ (new_cell _ _ _ _ _ _ (by simp) rfl), (new_cell _ _ _ _ _ _ (by simp) rfl), (new_cell _ _ _ _ _ _ (by simp) rfl), (new_cell _ _ _ _ _ _ (by simp) rfl)⟩
  have bW : Below w3.heap.size w3 (((w3.alloc (.cells #[.int .i64 0, a1, b1] 148)).alloc (.cells #[.int .i64 1, a2, b2] 148)).alloc (.cells #[.int .i64 2, a3, b3] 148)) := (((Below.refl _ _).alloc (Nat.le_refl _) _).alloc (by simp) _).alloc (by simp <;> omega) _
  have zW : w3.heap.size + 1 + 1 < (((w3.alloc (.cells #[.int .i64 0, a1, b1] 148)).alloc (.cells #[.int .i64 1, a2, b2] 148)).alloc (.cells #[.int .i64 2, a3, b3] 148)).heap.size := by simp
  generalize ((w3.alloc (.cells #[.int .i64 0, a1, b1] 148)).alloc (.cells #[.int .i64 1, a2, b2] 148)).alloc (.cells #[.int .i64 2, a3, b3] 148) = W at hk3 bW zW ⊢
  have HK3 := Lib.hid hk3
  go_region_held3 (fun w' => w'.cell? ⟨w3.heap.size + 1, 0, none⟩ = some (.int .i64 1) ∧ w'.cell? ⟨w3.heap.size + 1, 1, none⟩ = some (a2) ∧ w'.cell? ⟨w3.heap.size + 1, 2, none⟩ = some (b2) ∧ w'.cell? ⟨w3.heap.size + 1 + 1, 0, none⟩ = some (.int .i64 2) ∧ w'.cell? ⟨w3.heap.size + 1 + 1, 1, none⟩ = some (a3) ∧ w'.cell? ⟨w3.heap.size + 1 + 1, 2, none⟩ = some (b3)) (first | go_keep | exact HK5.out | exact HK4.out | exact HK3.out)
    (first
      | (go_at_call 119; (with_reducible refine (fd_3_0_5_7 _).mono ?_); intro e w4 hq; obtain ⟨a4, b4, rfl, hh⟩ := hq.out; have H4 := Lib.hid hh; have z4 : W.heap.size ≤ w4.heap.size := hh.bel.size; have HK4 := Lib.hid (⟨(hh.bel.cell (p := ⟨w3.heap.size + 1, 0, none⟩) (show w3.heap.size + 1 < W.heap.size by omega)).trans HK3.out.1, (hh.bel.cell (p := ⟨w3.heap.size + 1, 1, none⟩) (show w3.heap.size + 1 < W.heap.size by omega)).trans HK3.out.2.1, (hh.bel.cell (p := ⟨w3.heap.size + 1, 2, none⟩) (show w3.heap.size + 1 < W.heap.size by omega)).trans HK3.out.2.2.1, (hh.bel.cell (p := ⟨w3.heap.size + 1 + 1, 0, none⟩) (show w3.heap.size + 1 + 1 < W.heap.size by omega)).trans HK3.out.2.2.2.1, (hh.bel.cell (p := ⟨w3.heap.size + 1 + 1, 1, none⟩) (show w3.heap.size + 1 + 1 < W.heap.size by omega)).trans HK3.out.2.2.2.2.1, (hh.bel.cell (p := ⟨w3.heap.size + 1 + 1, 2, none⟩) (show w3.heap.size + 1 + 1 < W.heap.size by omega)).trans HK3.out.2.2.2.2.2⟩ : w4.cell? ⟨w3.heap.size + 1, 0, none⟩ = some (.int .i64 1) ∧ w4.cell? ⟨w3.heap.size + 1, 1, none⟩ = some (a2) ∧ w4.cell? ⟨w3.heap.size + 1, 2, none⟩ = some (b2) ∧ w4.cell? ⟨w3.heap.size + 1 + 1, 0, none⟩ = some (.int .i64 2) ∧ w4.cell? ⟨w3.heap.size + 1 + 1, 1, none⟩ = some (a3) ∧ w4.cell? ⟨w3.heap.size + 1 + 1, 2, none⟩ = some (b3)); clear hq hh)
      | (go_at_call 120; (with_reducible refine (fd_3_5_0_25 _).mono ?_); intro e w5 hq; obtain ⟨a5, b5, rfl, hh⟩ := hq.out; have H5 := Lib.hid hh; have z5 : w4.heap.size ≤ w5.heap.size := hh.bel.size; have HK5 := Lib.hid (⟨(hh.bel.cell (p := ⟨w3.heap.size + 1, 0, none⟩) (show w3.heap.size + 1 < w4.heap.size by omega)).trans HK4.out.1, (hh.bel.cell (p := ⟨w3.heap.size + 1, 1, none⟩) (show w3.heap.size + 1 < w4.heap.size by omega)).trans HK4.out.2.1, (hh.bel.cell (p := ⟨w3.heap.size + 1, 2, none⟩) (show w3.heap.size + 1 < w4.heap.size by omega)).trans HK4.out.2.2.1, (hh.bel.cell (p := ⟨w3.heap.size + 1 + 1, 0, none⟩) (show w3.heap.size + 1 + 1 < w4.heap.size by omega)).trans HK4.out.2.2.2.1, (hh.bel.cell (p := ⟨w3.heap.size + 1 + 1, 1, none⟩) (show w3.heap.size + 1 + 1 < w4.heap.size by omega)).trans HK4.out.2.2.2.2.1, (hh.bel.cell (p := ⟨w3.heap.size + 1 + 1, 2, none⟩) (show w3.heap.size + 1 + 1 < w4.heap.size by omega)).trans HK4.out.2.2.2.2.2⟩ : w5.cell? ⟨w3.heap.size + 1, 0, none⟩ = some (.int .i64 1) ∧ w5.cell? ⟨w3.heap.size + 1, 1, none⟩ = some (a2) ∧ w5.cell? ⟨w3.heap.size + 1, 2, none⟩ = some (b2) ∧ w5.cell? ⟨w3.heap.size + 1 + 1, 0, none⟩ = some (.int .i64 2) ∧ w5.cell? ⟨w3.heap.size + 1 + 1, 1, none⟩ = some (a3) ∧ w5.cell? ⟨w3.heap.size + 1 + 1, 2, none⟩ = some (b3)); clear hq hh))
  go_wp2
  go_ret
  have hf : fdsV 83 = [⟨3, 0, 5, 7⟩, ⟨1, 0, 5, 15⟩, ⟨2, 0, 5, 20⟩, ⟨3, 5, 0, 25⟩] := rfl
  have C5 : Below w5.heap.size w5 (w5.alloc (.cells #[.int .i64 3, a4, b4, .int .i64 1, a2, b2, .int .i64 2, a3, b3, .int .i64 3, a5, b5] 148)) := (Below.refl _ _).alloc (Nat.le_refl _) _
  have C4 : Below w4.heap.size w4 (w5.alloc (.cells #[.int .i64 3, a4, b4, .int .i64 1, a2, b2, .int .i64 2, a3, b3, .int .i64 3, a5, b5] 148)) := H5.out.bel.trans (C5.mono z5)
  have C3 : Below w3.heap.size w3 (w5.alloc (.cells #[.int .i64 3, a4, b4, .int .i64 1, a2, b2, .int .i64 2, a3, b3, .int .i64 3, a5, b5] 148)) := bW.trans ((below_of_drew (H4.out.bel.trans (C4.mono z4))).mono (show _ ≤ W.heap.size by omega))
  have C2 : Below w2.heap.size w2 (w5.alloc (.cells #[.int .i64 3, a4, b4, .int .i64 1, a2, b2, .int .i64 2, a3, b3, .int .i64 3, a5, b5] 148)) := H3.out.bel.trans (C3.mono z3)
  have C1 : Below w1.heap.size w1 (w5.alloc (.cells #[.int .i64 3, a4, b4, .int .i64 1, a2, b2, .int .i64 2, a3, b3, .int .i64 3, a5, b5] 148)) := H2.out.bel.trans (C2.mono z2)
  have C0 : Below w.heap.size w (w5.alloc (.cells #[.int .i64 3, a4, b4, .int .i64 1, a2, b2, .int .i64 2, a3, b3, .int .i64 3, a5, b5] 148)) := H1.out.bel.trans (C1.mono z1)
  refine ⟨_, rfl, .inr ⟨w5.heap.size, 4, rfl, Nat.le_refl _, ⟨by omega, by simp⟩, fun i hi => ?_⟩, C0⟩
  rw [hf] at hi ⊢
  rcases i with _ | _ | _ | _ | i
  · exact ⟨a4, b4, (H4.out.fd.below C4 (Nat.le_refl _)).more C4.size (by first | omega | (show w.heap.size ≤ W.heap.size; omega)), by go_simp <;> rfl, by go_simp, by go_simp⟩
  · exact ⟨a2, b2, (H2.out.fd.below C2 (Nat.le_refl _)).more C2.size (by first | omega | (show w.heap.size ≤ W.heap.size; omega)), by go_simp <;> rfl, by go_simp, by go_simp⟩
  · exact ⟨a3, b3, (H3.out.fd.below C3 (Nat.le_refl _)).more C3.size (by first | omega | (show w.heap.size ≤ W.heap.size; omega)), by go_simp <;> rfl, by go_simp, by go_simp⟩
  · exact ⟨a5, b5, (H5.out.fd.below C5 (Nat.le_refl _)).more C5.size (by first | omega | (show w.heap.size ≤ W.heap.size; omega)), by go_simp <;> rfl, by go_simp, by go_simp⟩
  · simp at hi; omega

set_option maxHeartbeats 4000000 in
theorem fields_B (w : World) : Calls Tryz.prog 82 #[.int .u8 66] w (FdsDone w (fdsV 66)) := by
  go_enter Tryz.func82, Tryz.ntmps82
  go_wp2_with (first
    | (go_at_call 119; (with_reducible refine (fd_0_0_5_7 _).mono ?_); intro e w1 hq; obtain ⟨a1, b1, rfl, hh⟩ := hq.out; have H1 := Lib.hid hh; have s1 := hh.fd.st.1; have t1 := hh.fd.st.2; unfold Storable at s1 t1; have z1 := hh.bel.size; clear hq hh)
    | (go_at_call 119; (with_reducible refine (fd_1_0_5_15 _).mono ?_); intro e w2 hq; obtain ⟨a2, b2, rfl, hh⟩ := hq.out; have H2 := Lib.hid hh; have s2 := hh.fd.st.1; have t2 := hh.fd.st.2; unfold Storable at s2 t2; have z2 := hh.bel.size; clear hq hh)
    | (go_at_call 119; (with_reducible refine (fd_2_0_5_20 _).mono ?_); intro e w3 hq; obtain ⟨a3, b3, rfl, hh⟩ := hq.out; have H3 := Lib.hid hh; have s3 := hh.fd.st.1; have t3 := hh.fd.st.2; unfold Storable at s3 t3; have z3 := hh.bel.size; clear hq hh))
  have hk3 : (((w3.alloc (.cells #[.int .i64 0, a1, b1] 148)).alloc (.cells #[.int .i64 1, a2, b2] 148)).alloc (.cells #[.int .i64 2, a3, b3] 148)).cell? ⟨w3.heap.size + 1, 0, none⟩ = some (.int .i64 1) ∧ (((w3.alloc (.cells #[.int .i64 0, a1, b1] 148)).alloc (.cells #[.int .i64 1, a2, b2] 148)).alloc (.cells #[.int .i64 2, a3, b3] 148)).cell? ⟨w3.heap.size + 1, 1, none⟩ = some (a2) ∧ (((w3.alloc (.cells #[.int .i64 0, a1, b1] 148)).alloc (.cells #[.int .i64 1, a2, b2] 148)).alloc (.cells #[.int .i64 2, a3, b3] 148)).cell? ⟨w3.heap.size + 1, 2, none⟩ = some (b2) ∧ (((w3.alloc (.cells #[.int .i64 0, a1, b1] 148)).alloc (.cells #[.int .i64 1, a2, b2] 148)).alloc (.cells #[.int .i64 2, a3, b3] 148)).cell? ⟨w3.heap.size + 1 + 1, 0, none⟩ = some (.int .i64 2) ∧ (((w3.alloc (.cells #[.int .i64 0, a1, b1] 148)).alloc (.cells #[.int .i64 1, a2, b2] 148)).alloc (.cells #[.int .i64 2, a3, b3] 148)).cell? ⟨w3.heap.size + 1 + 1, 1, none⟩ = some (a3) ∧ (((w3.alloc (.cells #[.int .i64 0, a1, b1] 148)).alloc (.cells #[.int .i64 1, a2, b2] 148)).alloc (.cells #[.int .i64 2, a3, b3] 148)).cell? ⟨w3.heap.size + 1 + 1, 2, none⟩ = some (b3) := ⟨old_cell _ (new_cell _ _ _ _ _ _ (by simp) rfl), old_cell _ (new_cell _ _ _ _ _ _ (by simp) rfl), old_cell _ (new_cell _ _ _ _ _ _ (by simp) rfl), (new_cell _ _ _ _ _ _ (by simp) rfl), (new_cell _ _ _ _ _ _ (by simp) rfl), (new_cell _ _ _ _ _ _ (by simp) rfl)⟩
  have bW : Below w3.heap.size w3 (((w3.alloc (.cells #[.int .i64 0, a1, b1] 148)).alloc (.cells #[.int .i64 1, a2, b2] 148)).alloc (.cells #[.int .i64 2, a3, b3] 148)) := (((Below.refl _ _).alloc (Nat.le_refl _) _).alloc (by simp) _).alloc (by simp <;> omega) _
  have zW : w3.heap.size + 1 + 1 < (((w3.alloc (.cells #[.int .i64 0, a1, b1] 148)).alloc (.cells #[.int .i64 1, a2, b2] 148)).alloc (.cells #[.int .i64 2, a3, b3] 148)).heap.size := by simp
  generalize ((w3.alloc (.cells #[.int .i64 0, a1, b1] 148)).alloc (.cells #[.int .i64 1, a2, b2] 148)).alloc (.cells #[.int .i64 2, a3, b3] 148) = W at hk3 bW zW ⊢
  have HK3 := Lib.hid hk3
  go_region_held3 (fun w' => w'.cell? ⟨w3.heap.size + 1, 0, none⟩ = some (.int .i64 1) ∧ w'.cell? ⟨w3.heap.size + 1, 1, none⟩ = some (a2) ∧ w'.cell? ⟨w3.heap.size + 1, 2, none⟩ = some (b2) ∧ w'.cell? ⟨w3.heap.size + 1 + 1, 0, none⟩ = some (.int .i64 2) ∧ w'.cell? ⟨w3.heap.size + 1 + 1, 1, none⟩ = some (a3) ∧ w'.cell? ⟨w3.heap.size + 1 + 1, 2, none⟩ = some (b3)) (first | go_keep | exact HK7.out | exact HK6.out | exact HK5.out | exact HK4.out | exact HK3.out)
    (first
      | (go_at_call 119; (with_reducible refine (fd_3_11_1_7 _).mono ?_); intro e w4 hq; obtain ⟨a4, b4, rfl, hh⟩ := hq.out; have H4 := Lib.hid hh; have z4 : W.heap.size ≤ w4.heap.size := hh.bel.size; have HK4 := Lib.hid (⟨(hh.bel.cell (p := ⟨w3.heap.size + 1, 0, none⟩) (show w3.heap.size + 1 < W.heap.size by omega)).trans HK3.out.1, (hh.bel.cell (p := ⟨w3.heap.size + 1, 1, none⟩) (show w3.heap.size + 1 < W.heap.size by omega)).trans HK3.out.2.1, (hh.bel.cell (p := ⟨w3.heap.size + 1, 2, none⟩) (show w3.heap.size + 1 < W.heap.size by omega)).trans HK3.out.2.2.1, (hh.bel.cell (p := ⟨w3.heap.size + 1 + 1, 0, none⟩) (show w3.heap.size + 1 + 1 < W.heap.size by omega)).trans HK3.out.2.2.2.1, (hh.bel.cell (p := ⟨w3.heap.size + 1 + 1, 1, none⟩) (show w3.heap.size + 1 + 1 < W.heap.size by omega)).trans HK3.out.2.2.2.2.1, (hh.bel.cell (p := ⟨w3.heap.size + 1 + 1, 2, none⟩) (show w3.heap.size + 1 + 1 < W.heap.size by omega)).trans HK3.out.2.2.2.2.2⟩ : w4.cell? ⟨w3.heap.size + 1, 0, none⟩ = some (.int .i64 1) ∧ w4.cell? ⟨w3.heap.size + 1, 1, none⟩ = some (a2) ∧ w4.cell? ⟨w3.heap.size + 1, 2, none⟩ = some (b2) ∧ w4.cell? ⟨w3.heap.size + 1 + 1, 0, none⟩ = some (.int .i64 2) ∧ w4.cell? ⟨w3.heap.size + 1 + 1, 1, none⟩ = some (a3) ∧ w4.cell? ⟨w3.heap.size + 1 + 1, 2, none⟩ = some (b3)); clear hq hh)
      | (go_at_call 119; (with_reducible refine (fd_3_1_4_8 _).mono ?_); intro e w5 hq; obtain ⟨a5, b5, rfl, hh⟩ := hq.out; have H5 := Lib.hid hh; have z5 : w4.heap.size ≤ w5.heap.size := hh.bel.size; have HK5 := Lib.hid (⟨(hh.bel.cell (p := ⟨w3.heap.size + 1, 0, none⟩) (show w3.heap.size + 1 < w4.heap.size by omega)).trans HK4.out.1, (hh.bel.cell (p := ⟨w3.heap.size + 1, 1, none⟩) (show w3.heap.size + 1 < w4.heap.size by omega)).trans HK4.out.2.1, (hh.bel.cell (p := ⟨w3.heap.size + 1, 2, none⟩) (show w3.heap.size + 1 < w4.heap.size by omega)).trans HK4.out.2.2.1, (hh.bel.cell (p := ⟨w3.heap.size + 1 + 1, 0, none⟩) (show w3.heap.size + 1 + 1 < w4.heap.size by omega)).trans HK4.out.2.2.2.1, (hh.bel.cell (p := ⟨w3.heap.size + 1 + 1, 1, none⟩) (show w3.heap.size + 1 + 1 < w4.heap.size by omega)).trans HK4.out.2.2.2.2.1, (hh.bel.cell (p := ⟨w3.heap.size + 1 + 1, 2, none⟩) (show w3.heap.size + 1 + 1 < w4.heap.size by omega)).trans HK4.out.2.2.2.2.2⟩ : w5.cell? ⟨w3.heap.size + 1, 0, none⟩ = some (.int .i64 1) ∧ w5.cell? ⟨w3.heap.size + 1, 1, none⟩ = some (a2) ∧ w5.cell? ⟨w3.heap.size + 1, 2, none⟩ = some (b2) ∧ w5.cell? ⟨w3.heap.size + 1 + 1, 0, none⟩ = some (.int .i64 2) ∧ w5.cell? ⟨w3.heap.size + 1 + 1, 1, none⟩ = some (a3) ∧ w5.cell? ⟨w3.heap.size + 1 + 1, 2, none⟩ = some (b3)); clear hq hh)
      | (go_at_call 119; (with_reducible refine (fd_3_5_6_25 _).mono ?_); intro e w6 hq; obtain ⟨a6, b6, rfl, hh⟩ := hq.out; have H6 := Lib.hid hh; have z6 : w5.heap.size ≤ w6.heap.size := hh.bel.size; have HK6 := Lib.hid (⟨(hh.bel.cell (p := ⟨w3.heap.size + 1, 0, none⟩) (show w3.heap.size + 1 < w5.heap.size by omega)).trans HK5.out.1, (hh.bel.cell (p := ⟨w3.heap.size + 1, 1, none⟩) (show w3.heap.size + 1 < w5.heap.size by omega)).trans HK5.out.2.1, (hh.bel.cell (p := ⟨w3.heap.size + 1, 2, none⟩) (show w3.heap.size + 1 < w5.heap.size by omega)).trans HK5.out.2.2.1, (hh.bel.cell (p := ⟨w3.heap.size + 1 + 1, 0, none⟩) (show w3.heap.size + 1 + 1 < w5.heap.size by omega)).trans HK5.out.2.2.2.1, (hh.bel.cell (p := ⟨w3.heap.size + 1 + 1, 1, none⟩) (show w3.heap.size + 1 + 1 < w5.heap.size by omega)).trans HK5.out.2.2.2.2.1, (hh.bel.cell (p := ⟨w3.heap.size + 1 + 1, 2, none⟩) (show w3.heap.size + 1 + 1 < w5.heap.size by omega)).trans HK5.out.2.2.2.2.2⟩ : w6.cell? ⟨w3.heap.size + 1, 0, none⟩ = some (.int .i64 1) ∧ w6.cell? ⟨w3.heap.size + 1, 1, none⟩ = some (a2) ∧ w6.cell? ⟨w3.heap.size + 1, 2, none⟩ = some (b2) ∧ w6.cell? ⟨w3.heap.size + 1 + 1, 0, none⟩ = some (.int .i64 2) ∧ w6.cell? ⟨w3.heap.size + 1 + 1, 1, none⟩ = some (a3) ∧ w6.cell? ⟨w3.heap.size + 1 + 1, 2, none⟩ = some (b3)); clear hq hh)
      | (go_at_call 120; (with_reducible refine (fd_3_12_0_31 _).mono ?_); intro e w7 hq; obtain ⟨a7, b7, rfl, hh⟩ := hq.out; have H7 := Lib.hid hh; have z7 : w6.heap.size ≤ w7.heap.size := hh.bel.size; have HK7 := Lib.hid (⟨(hh.bel.cell (p := ⟨w3.heap.size + 1, 0, none⟩) (show w3.heap.size + 1 < w6.heap.size by omega)).trans HK6.out.1, (hh.bel.cell (p := ⟨w3.heap.size + 1, 1, none⟩) (show w3.heap.size + 1 < w6.heap.size by omega)).trans HK6.out.2.1, (hh.bel.cell (p := ⟨w3.heap.size + 1, 2, none⟩) (show w3.heap.size + 1 < w6.heap.size by omega)).trans HK6.out.2.2.1, (hh.bel.cell (p := ⟨w3.heap.size + 1 + 1, 0, none⟩) (show w3.heap.size + 1 + 1 < w6.heap.size by omega)).trans HK6.out.2.2.2.1, (hh.bel.cell (p := ⟨w3.heap.size + 1 + 1, 1, none⟩) (show w3.heap.size + 1 + 1 < w6.heap.size by omega)).trans HK6.out.2.2.2.2.1, (hh.bel.cell (p := ⟨w3.heap.size + 1 + 1, 2, none⟩) (show w3.heap.size + 1 + 1 < w6.heap.size by omega)).trans HK6.out.2.2.2.2.2⟩ : w7.cell? ⟨w3.heap.size + 1, 0, none⟩ = some (.int .i64 1) ∧ w7.cell? ⟨w3.heap.size + 1, 1, none⟩ = some (a2) ∧ w7.cell? ⟨w3.heap.size + 1, 2, none⟩ = some (b2) ∧ w7.cell? ⟨w3.heap.size + 1 + 1, 0, none⟩ = some (.int .i64 2) ∧ w7.cell? ⟨w3.heap.size + 1 + 1, 1, none⟩ = some (a3) ∧ w7.cell? ⟨w3.heap.size + 1 + 1, 2, none⟩ = some (b3)); clear hq hh))
  go_wp2
  go_ret
  have hf : fdsV 66 = [⟨3, 11, 1, 7⟩, ⟨3, 1, 4, 8⟩, ⟨1, 0, 5, 15⟩, ⟨2, 0, 5, 20⟩, ⟨3, 5, 6, 25⟩, ⟨3, 12, 0, 31⟩] := rfl
  have C7 : Below w7.heap.size w7 (w7.alloc (.cells #[.int .i64 3, a4, b4, .int .i64 3, a5, b5, .int .i64 1, a2, b2, .int .i64 2, a3, b3, .int .i64 3, a6, b6, .int .i64 3, a7, b7] 148)) := (Below.refl _ _).alloc (Nat.le_refl _) _
  have C6 : Below w6.heap.size w6 (w7.alloc (.cells #[.int .i64 3, a4, b4, .int .i64 3, a5, b5, .int .i64 1, a2, b2, .int .i64 2, a3, b3, .int .i64 3, a6, b6, .int .i64 3, a7, b7] 148)) := H7.out.bel.trans (C7.mono z7)
  have C5 : Below w5.heap.size w5 (w7.alloc (.cells #[.int .i64 3, a4, b4, .int .i64 3, a5, b5, .int .i64 1, a2, b2, .int .i64 2, a3, b3, .int .i64 3, a6, b6, .int .i64 3, a7, b7] 148)) := H6.out.bel.trans (C6.mono z6)
  have C4 : Below w4.heap.size w4 (w7.alloc (.cells #[.int .i64 3, a4, b4, .int .i64 3, a5, b5, .int .i64 1, a2, b2, .int .i64 2, a3, b3, .int .i64 3, a6, b6, .int .i64 3, a7, b7] 148)) := H5.out.bel.trans (C5.mono z5)
  have C3 : Below w3.heap.size w3 (w7.alloc (.cells #[.int .i64 3, a4, b4, .int .i64 3, a5, b5, .int .i64 1, a2, b2, .int .i64 2, a3, b3, .int .i64 3, a6, b6, .int .i64 3, a7, b7] 148)) := bW.trans ((below_of_drew (H4.out.bel.trans (C4.mono z4))).mono (show _ ≤ W.heap.size by omega))
  have C2 : Below w2.heap.size w2 (w7.alloc (.cells #[.int .i64 3, a4, b4, .int .i64 3, a5, b5, .int .i64 1, a2, b2, .int .i64 2, a3, b3, .int .i64 3, a6, b6, .int .i64 3, a7, b7] 148)) := H3.out.bel.trans (C3.mono z3)
  have C1 : Below w1.heap.size w1 (w7.alloc (.cells #[.int .i64 3, a4, b4, .int .i64 3, a5, b5, .int .i64 1, a2, b2, .int .i64 2, a3, b3, .int .i64 3, a6, b6, .int .i64 3, a7, b7] 148)) := H2.out.bel.trans (C2.mono z2)
  have C0 : Below w.heap.size w (w7.alloc (.cells #[.int .i64 3, a4, b4, .int .i64 3, a5, b5, .int .i64 1, a2, b2, .int .i64 2, a3, b3, .int .i64 3, a6, b6, .int .i64 3, a7, b7] 148)) := H1.out.bel.trans (C1.mono z1)
  refine ⟨_, rfl, .inr ⟨w7.heap.size, 6, rfl, Nat.le_refl _, ⟨by omega, by simp⟩, fun i hi => ?_⟩, C0⟩
  rw [hf] at hi ⊢
  rcases i with _ | _ | _ | _ | _ | _ | i
  · exact ⟨a4, b4, (H4.out.fd.below C4 (Nat.le_refl _)).more C4.size (by first | omega | (show w.heap.size ≤ W.heap.size; omega)), by go_simp <;> rfl, by go_simp, by go_simp⟩
  · exact ⟨a5, b5, (H5.out.fd.below C5 (Nat.le_refl _)).more C5.size (by first | omega | (show w.heap.size ≤ W.heap.size; omega)), by go_simp <;> rfl, by go_simp, by go_simp⟩
  · exact ⟨a2, b2, (H2.out.fd.below C2 (Nat.le_refl _)).more C2.size (by first | omega | (show w.heap.size ≤ W.heap.size; omega)), by go_simp <;> rfl, by go_simp, by go_simp⟩
  · exact ⟨a3, b3, (H3.out.fd.below C3 (Nat.le_refl _)).more C3.size (by first | omega | (show w.heap.size ≤ W.heap.size; omega)), by go_simp <;> rfl, by go_simp, by go_simp⟩
  · exact ⟨a6, b6, (H6.out.fd.below C6 (Nat.le_refl _)).more C6.size (by first | omega | (show w.heap.size ≤ W.heap.size; omega)), by go_simp <;> rfl, by go_simp, by go_simp⟩
  · exact ⟨a7, b7, (H7.out.fd.below C7 (Nat.le_refl _)).more C7.size (by first | omega | (show w.heap.size ≤ W.heap.size; omega)), by go_simp <;> rfl, by go_simp, by go_simp⟩
  · simp at hi; omega

set_option maxHeartbeats 4000000 in
theorem fields_U (w : World) : Calls Tryz.prog 82 #[.int .u8 85] w (FdsDone w (fdsV 85)) := by
  go_enter Tryz.func82, Tryz.ntmps82
  go_wp2_with (first
    | (go_at_call 119; (with_reducible refine (fd_0_0_5_7 _).mono ?_); intro e w1 hq; obtain ⟨a1, b1, rfl, hh⟩ := hq.out; have H1 := Lib.hid hh; have s1 := hh.fd.st.1; have t1 := hh.fd.st.2; unfold Storable at s1 t1; have z1 := hh.bel.size; clear hq hh)
    | (go_at_call 119; (with_reducible refine (fd_1_0_5_15 _).mono ?_); intro e w2 hq; obtain ⟨a2, b2, rfl, hh⟩ := hq.out; have H2 := Lib.hid hh; have s2 := hh.fd.st.1; have t2 := hh.fd.st.2; unfold Storable at s2 t2; have z2 := hh.bel.size; clear hq hh)
    | (go_at_call 119; (with_reducible refine (fd_2_0_5_20 _).mono ?_); intro e w3 hq; obtain ⟨a3, b3, rfl, hh⟩ := hq.out; have H3 := Lib.hid hh; have s3 := hh.fd.st.1; have t3 := hh.fd.st.2; unfold Storable at s3 t3; have z3 := hh.bel.size; clear hq hh))
  have hk3 : (((w3.alloc (.cells #[.int .i64 0, a1, b1] 148)).alloc (.cells #[.int .i64 1, a2, b2] 148)).alloc (.cells #[.int .i64 2, a3, b3] 148)).cell? ⟨w3.heap.size, 0, none⟩ = some (.int .i64 0) ∧ (((w3.alloc (.cells #[.int .i64 0, a1, b1] 148)).alloc (.cells #[.int .i64 1, a2, b2] 148)).alloc (.cells #[.int .i64 2, a3, b3] 148)).cell? ⟨w3.heap.size, 1, none⟩ = some (a1) ∧ (((w3.alloc (.cells #[.int .i64 0, a1, b1] 148)).alloc (.cells #[.int .i64 1, a2, b2] 148)).alloc (.cells #[.int .i64 2, a3, b3] 148)).cell? ⟨w3.heap.size, 2, none⟩ = some (b1) := ⟨old_cell _ (old_cell _ (new_cell _ _ _ _ _ _ (by simp) rfl)), old_cell _ (old_cell _ (new_cell _ _ _ _ _ _ (by simp) rfl)), old_cell _ (old_cell _ (new_cell _ _ _ _ _ _ (by simp) rfl))⟩
  have bW : Below w3.heap.size w3 (((w3.alloc (.cells #[.int .i64 0, a1, b1] 148)).alloc (.cells #[.int .i64 1, a2, b2] 148)).alloc (.cells #[.int .i64 2, a3, b3] 148)) := (((Below.refl _ _).alloc (Nat.le_refl _) _).alloc (by simp) _).alloc (by simp <;> omega) _
  have zW : w3.heap.size + 1 + 1 < (((w3.alloc (.cells #[.int .i64 0, a1, b1] 148)).alloc (.cells #[.int .i64 1, a2, b2] 148)).alloc (.cells #[.int .i64 2, a3, b3] 148)).heap.size := by simp
  generalize ((w3.alloc (.cells #[.int .i64 0, a1, b1] 148)).alloc (.cells #[.int .i64 1, a2, b2] 148)).alloc (.cells #[.int .i64 2, a3, b3] 148) = W at hk3 bW zW ⊢
  have HK3 := Lib.hid hk3
  go_region_held3 (fun w' => w'.cell? ⟨w3.heap.size, 0, none⟩ = some (.int .i64 0) ∧ w'.cell? ⟨w3.heap.size, 1, none⟩ = some (a1) ∧ w'.cell? ⟨w3.heap.size, 2, none⟩ = some (b1)) (first | go_keep | exact HK4.out | exact HK3.out)
    (first
      | (go_at_call 120; (with_reducible refine (fd_3_0_0_12 _).mono ?_); intro e w4 hq; obtain ⟨a4, b4, rfl, hh⟩ := hq.out; have H4 := Lib.hid hh; have z4 : W.heap.size ≤ w4.heap.size := hh.bel.size; have HK4 := Lib.hid (⟨(hh.bel.cell (p := ⟨w3.heap.size, 0, none⟩) (show w3.heap.size < W.heap.size by omega)).trans HK3.out.1, (hh.bel.cell (p := ⟨w3.heap.size, 1, none⟩) (show w3.heap.size < W.heap.size by omega)).trans HK3.out.2.1, (hh.bel.cell (p := ⟨w3.heap.size, 2, none⟩) (show w3.heap.size < W.heap.size by omega)).trans HK3.out.2.2⟩ : w4.cell? ⟨w3.heap.size, 0, none⟩ = some (.int .i64 0) ∧ w4.cell? ⟨w3.heap.size, 1, none⟩ = some (a1) ∧ w4.cell? ⟨w3.heap.size, 2, none⟩ = some (b1)); clear hq hh))
  go_wp2
  go_ret
  have hf : fdsV 85 = [⟨0, 0, 5, 7⟩, ⟨3, 0, 0, 12⟩] := rfl
  have C4 : Below w4.heap.size w4 (w4.alloc (.cells #[.int .i64 0, a1, b1, .int .i64 3, a4, b4] 148)) := (Below.refl _ _).alloc (Nat.le_refl _) _
  have C3 : Below w3.heap.size w3 (w4.alloc (.cells #[.int .i64 0, a1, b1, .int .i64 3, a4, b4] 148)) := bW.trans ((below_of_drew (H4.out.bel.trans (C4.mono z4))).mono (show _ ≤ W.heap.size by omega))
  have C2 : Below w2.heap.size w2 (w4.alloc (.cells #[.int .i64 0, a1, b1, .int .i64 3, a4, b4] 148)) := H3.out.bel.trans (C3.mono z3)
  have C1 : Below w1.heap.size w1 (w4.alloc (.cells #[.int .i64 0, a1, b1, .int .i64 3, a4, b4] 148)) := H2.out.bel.trans (C2.mono z2)
  have C0 : Below w.heap.size w (w4.alloc (.cells #[.int .i64 0, a1, b1, .int .i64 3, a4, b4] 148)) := H1.out.bel.trans (C1.mono z1)
  refine ⟨_, rfl, .inr ⟨w4.heap.size, 2, rfl, Nat.le_refl _, ⟨by omega, by simp⟩, fun i hi => ?_⟩, C0⟩
  rw [hf] at hi ⊢
  rcases i with _ | _ | i
  · exact ⟨a1, b1, (H1.out.fd.below C1 (Nat.le_refl _)).more C1.size (by first | omega | (show w.heap.size ≤ W.heap.size; omega)), by go_simp <;> rfl, by go_simp, by go_simp⟩
  · exact ⟨a4, b4, (H4.out.fd.below C4 (Nat.le_refl _)).more C4.size (by first | omega | (show w.heap.size ≤ W.heap.size; omega)), by go_simp <;> rfl, by go_simp, by go_simp⟩
  · simp at hi; omega

set_option maxHeartbeats 4000000 in
theorem fields_J (w : World) : Calls Tryz.prog 82 #[.int .u8 74] w (FdsDone w (fdsV 74)) := by
  go_enter Tryz.func82, Tryz.ntmps82
  go_wp2_with (first
    | (go_at_call 119; (with_reducible refine (fd_0_0_5_7 _).mono ?_); intro e w1 hq; obtain ⟨a1, b1, rfl, hh⟩ := hq.out; have H1 := Lib.hid hh; have s1 := hh.fd.st.1; have t1 := hh.fd.st.2; unfold Storable at s1 t1; have z1 := hh.bel.size; clear hq hh)
    | (go_at_call 119; (with_reducible refine (fd_1_0_5_15 _).mono ?_); intro e w2 hq; obtain ⟨a2, b2, rfl, hh⟩ := hq.out; have H2 := Lib.hid hh; have s2 := hh.fd.st.1; have t2 := hh.fd.st.2; unfold Storable at s2 t2; have z2 := hh.bel.size; clear hq hh)
    | (go_at_call 119; (with_reducible refine (fd_2_0_5_20 _).mono ?_); intro e w3 hq; obtain ⟨a3, b3, rfl, hh⟩ := hq.out; have H3 := Lib.hid hh; have s3 := hh.fd.st.1; have t3 := hh.fd.st.2; unfold Storable at s3 t3; have z3 := hh.bel.size; clear hq hh))
  have hk3 : (((w3.alloc (.cells #[.int .i64 0, a1, b1] 148)).alloc (.cells #[.int .i64 1, a2, b2] 148)).alloc (.cells #[.int .i64 2, a3, b3] 148)).cell? ⟨w3.heap.size, 0, none⟩ = some (.int .i64 0) ∧ (((w3.alloc (.cells #[.int .i64 0, a1, b1] 148)).alloc (.cells #[.int .i64 1, a2, b2] 148)).alloc (.cells #[.int .i64 2, a3, b3] 148)).cell? ⟨w3.heap.size, 1, none⟩ = some (a1) ∧ (((w3.alloc (.cells #[.int .i64 0, a1, b1] 148)).alloc (.cells #[.int .i64 1, a2, b2] 148)).alloc (.cells #[.int .i64 2, a3, b3] 148)).cell? ⟨w3.heap.size, 2, none⟩ = some (b1) := ⟨old_cell _ (old_cell _ (new_cell _ _ _ _ _ _ (by simp) rfl)), old_cell _ (old_cell _ (new_cell _ _ _ _ _ _ (by simp) rfl)), old_cell _ (old_cell _ (new_cell _ _ _ _ _ _ (by simp) rfl))⟩
  have bW : Below w3.heap.size w3 (((w3.alloc (.cells #[.int .i64 0, a1, b1] 148)).alloc (.cells #[.int .i64 1, a2, b2] 148)).alloc (.cells #[.int .i64 2, a3, b3] 148)) := (((Below.refl _ _).alloc (Nat.le_refl _) _).alloc (by simp) _).alloc (by simp <;> omega) _
  have zW : w3.heap.size + 1 + 1 < (((w3.alloc (.cells #[.int .i64 0, a1, b1] 148)).alloc (.cells #[.int .i64 1, a2, b2] 148)).alloc (.cells #[.int .i64 2, a3, b3] 148)).heap.size := by simp
  generalize ((w3.alloc (.cells #[.int .i64 0, a1, b1] 148)).alloc (.cells #[.int .i64 1, a2, b2] 148)).alloc (.cells #[.int .i64 2, a3, b3] 148) = W at hk3 bW zW ⊢
  have HK3 := Lib.hid hk3
  go_region_held3 (fun w' => w'.cell? ⟨w3.heap.size, 0, none⟩ = some (.int .i64 0) ∧ w'.cell? ⟨w3.heap.size, 1, none⟩ = some (a1) ∧ w'.cell? ⟨w3.heap.size, 2, none⟩ = some (b1)) (first | go_keep | exact HK7.out | exact HK6.out | exact HK5.out | exact HK4.out | exact HK3.out)
    (first
      | (go_at_call 119; (with_reducible refine (fd_3_12_8_12 _).mono ?_); intro e w4 hq; obtain ⟨a4, b4, rfl, hh⟩ := hq.out; have H4 := Lib.hid hh; have z4 : W.heap.size ≤ w4.heap.size := hh.bel.size; have HK4 := Lib.hid (⟨(hh.bel.cell (p := ⟨w3.heap.size, 0, none⟩) (show w3.heap.size < W.heap.size by omega)).trans HK3.out.1, (hh.bel.cell (p := ⟨w3.heap.size, 1, none⟩) (show w3.heap.size < W.heap.size by omega)).trans HK3.out.2.1, (hh.bel.cell (p := ⟨w3.heap.size, 2, none⟩) (show w3.heap.size < W.heap.size by omega)).trans HK3.out.2.2⟩ : w4.cell? ⟨w3.heap.size, 0, none⟩ = some (.int .i64 0) ∧ w4.cell? ⟨w3.heap.size, 1, none⟩ = some (a1) ∧ w4.cell? ⟨w3.heap.size, 2, none⟩ = some (b1)); clear hq hh)
      | (go_at_call 119; (with_reducible refine (fd_3_11_1_20 _).mono ?_); intro e w5 hq; obtain ⟨a5, b5, rfl, hh⟩ := hq.out; have H5 := Lib.hid hh; have z5 : w4.heap.size ≤ w5.heap.size := hh.bel.size; have HK5 := Lib.hid (⟨(hh.bel.cell (p := ⟨w3.heap.size, 0, none⟩) (show w3.heap.size < w4.heap.size by omega)).trans HK4.out.1, (hh.bel.cell (p := ⟨w3.heap.size, 1, none⟩) (show w3.heap.size < w4.heap.size by omega)).trans HK4.out.2.1, (hh.bel.cell (p := ⟨w3.heap.size, 2, none⟩) (show w3.heap.size < w4.heap.size by omega)).trans HK4.out.2.2⟩ : w5.cell? ⟨w3.heap.size, 0, none⟩ = some (.int .i64 0) ∧ w5.cell? ⟨w3.heap.size, 1, none⟩ = some (a1) ∧ w5.cell? ⟨w3.heap.size, 2, none⟩ = some (b1)); clear hq hh)
      | (go_at_call 119; (with_reducible refine (fd_3_1_10_21 _).mono ?_); intro e w6 hq; obtain ⟨a6, b6, rfl, hh⟩ := hq.out; have H6 := Lib.hid hh; have z6 : w5.heap.size ≤ w6.heap.size := hh.bel.size; have HK6 := Lib.hid (⟨(hh.bel.cell (p := ⟨w3.heap.size, 0, none⟩) (show w3.heap.size < w5.heap.size by omega)).trans HK5.out.1, (hh.bel.cell (p := ⟨w3.heap.size, 1, none⟩) (show w3.heap.size < w5.heap.size by omega)).trans HK5.out.2.1, (hh.bel.cell (p := ⟨w3.heap.size, 2, none⟩) (show w3.heap.size < w5.heap.size by omega)).trans HK5.out.2.2⟩ : w6.cell? ⟨w3.heap.size, 0, none⟩ = some (.int .i64 0) ∧ w6.cell? ⟨w3.heap.size, 1, none⟩ = some (a1) ∧ w6.cell? ⟨w3.heap.size, 2, none⟩ = some (b1)); clear hq hh)
      | (go_at_call 120; (with_reducible refine (fd_3_20_0_31 _).mono ?_); intro e w7 hq; obtain ⟨a7, b7, rfl, hh⟩ := hq.out; have H7 := Lib.hid hh; have z7 : w6.heap.size ≤ w7.heap.size := hh.bel.size; have HK7 := Lib.hid (⟨(hh.bel.cell (p := ⟨w3.heap.size, 0, none⟩) (show w3.heap.size < w6.heap.size by omega)).trans HK6.out.1, (hh.bel.cell (p := ⟨w3.heap.size, 1, none⟩) (show w3.heap.size < w6.heap.size by omega)).trans HK6.out.2.1, (hh.bel.cell (p := ⟨w3.heap.size, 2, none⟩) (show w3.heap.size < w6.heap.size by omega)).trans HK6.out.2.2⟩ : w7.cell? ⟨w3.heap.size, 0, none⟩ = some (.int .i64 0) ∧ w7.cell? ⟨w3.heap.size, 1, none⟩ = some (a1) ∧ w7.cell? ⟨w3.heap.size, 2, none⟩ = some (b1)); clear hq hh))
  go_wp2
  go_ret
  have hf : fdsV 74 = [⟨0, 0, 5, 7⟩, ⟨3, 12, 8, 12⟩, ⟨3, 11, 1, 20⟩, ⟨3, 1, 10, 21⟩, ⟨3, 20, 0, 31⟩] := rfl
  have C7 : Below w7.heap.size w7 (w7.alloc (.cells #[.int .i64 0, a1, b1, .int .i64 3, a4, b4, .int .i64 3, a5, b5, .int .i64 3, a6, b6, .int .i64 3, a7, b7] 148)) := (Below.refl _ _).alloc (Nat.le_refl _) _
  have C6 : Below w6.heap.size w6 (w7.alloc (.cells #[.int .i64 0, a1, b1, .int .i64 3, a4, b4, .int .i64 3, a5, b5, .int .i64 3, a6, b6, .int .i64 3, a7, b7] 148)) := H7.out.bel.trans (C7.mono z7)
  have C5 : Below w5.heap.size w5 (w7.alloc (.cells #[.int .i64 0, a1, b1, .int .i64 3, a4, b4, .int .i64 3, a5, b5, .int .i64 3, a6, b6, .int .i64 3, a7, b7] 148)) := H6.out.bel.trans (C6.mono z6)
  have C4 : Below w4.heap.size w4 (w7.alloc (.cells #[.int .i64 0, a1, b1, .int .i64 3, a4, b4, .int .i64 3, a5, b5, .int .i64 3, a6, b6, .int .i64 3, a7, b7] 148)) := H5.out.bel.trans (C5.mono z5)
  have C3 : Below w3.heap.size w3 (w7.alloc (.cells #[.int .i64 0, a1, b1, .int .i64 3, a4, b4, .int .i64 3, a5, b5, .int .i64 3, a6, b6, .int .i64 3, a7, b7] 148)) := bW.trans ((below_of_drew (H4.out.bel.trans (C4.mono z4))).mono (show _ ≤ W.heap.size by omega))
  have C2 : Below w2.heap.size w2 (w7.alloc (.cells #[.int .i64 0, a1, b1, .int .i64 3, a4, b4, .int .i64 3, a5, b5, .int .i64 3, a6, b6, .int .i64 3, a7, b7] 148)) := H3.out.bel.trans (C3.mono z3)
  have C1 : Below w1.heap.size w1 (w7.alloc (.cells #[.int .i64 0, a1, b1, .int .i64 3, a4, b4, .int .i64 3, a5, b5, .int .i64 3, a6, b6, .int .i64 3, a7, b7] 148)) := H2.out.bel.trans (C2.mono z2)
  have C0 : Below w.heap.size w (w7.alloc (.cells #[.int .i64 0, a1, b1, .int .i64 3, a4, b4, .int .i64 3, a5, b5, .int .i64 3, a6, b6, .int .i64 3, a7, b7] 148)) := H1.out.bel.trans (C1.mono z1)
  refine ⟨_, rfl, .inr ⟨w7.heap.size, 5, rfl, Nat.le_refl _, ⟨by omega, by simp⟩, fun i hi => ?_⟩, C0⟩
  rw [hf] at hi ⊢
  rcases i with _ | _ | _ | _ | _ | i
  · exact ⟨a1, b1, (H1.out.fd.below C1 (Nat.le_refl _)).more C1.size (by first | omega | (show w.heap.size ≤ W.heap.size; omega)), by go_simp <;> rfl, by go_simp, by go_simp⟩
  · exact ⟨a4, b4, (H4.out.fd.below C4 (Nat.le_refl _)).more C4.size (by first | omega | (show w.heap.size ≤ W.heap.size; omega)), by go_simp <;> rfl, by go_simp, by go_simp⟩
  · exact ⟨a5, b5, (H5.out.fd.below C5 (Nat.le_refl _)).more C5.size (by first | omega | (show w.heap.size ≤ W.heap.size; omega)), by go_simp <;> rfl, by go_simp, by go_simp⟩
  · exact ⟨a6, b6, (H6.out.fd.below C6 (Nat.le_refl _)).more C6.size (by first | omega | (show w.heap.size ≤ W.heap.size; omega)), by go_simp <;> rfl, by go_simp, by go_simp⟩
  · exact ⟨a7, b7, (H7.out.fd.below C7 (Nat.le_refl _)).more C7.size (by first | omega | (show w.heap.size ≤ W.heap.size; omega)), by go_simp <;> rfl, by go_simp, by go_simp⟩
  · simp at hi; omega

theorem fields_E (w : World) : Calls Tryz.prog 82 #[.int .u8 69] w (FdsDone w (fdsV 69)) := by
  go_enter Tryz.func82, Tryz.ntmps82
  go_wp2_with (first
    | (go_at_call 119; (with_reducible refine (fd_0_0_5_7 _).mono ?_); intro e w1 hq; obtain ⟨a1, b1, rfl, hh⟩ := hq.out; have H1 := Lib.hid hh; have s1 := hh.fd.st.1; have t1 := hh.fd.st.2; unfold Storable at s1 t1; have z1 := hh.bel.size; clear hq hh)
    | (go_at_call 119; (with_reducible refine (fd_1_0_5_15 _).mono ?_); intro e w2 hq; obtain ⟨a2, b2, rfl, hh⟩ := hq.out; have H2 := Lib.hid hh; have s2 := hh.fd.st.1; have t2 := hh.fd.st.2; unfold Storable at s2 t2; have z2 := hh.bel.size; clear hq hh)
    | (go_at_call 119; (with_reducible refine (fd_2_0_5_20 _).mono ?_); intro e w3 hq; obtain ⟨a3, b3, rfl, hh⟩ := hq.out; have H3 := Lib.hid hh; have s3 := hh.fd.st.1; have t3 := hh.fd.st.2; unfold Storable at s3 t3; have z3 := hh.bel.size; clear hq hh))
  go_ret
  have C3 : Below w3.heap.size w3 (((w3.alloc (.cells #[.int .i64 0, a1, b1] 148)).alloc (.cells #[.int .i64 1, a2, b2] 148)).alloc (.cells #[.int .i64 2, a3, b3] 148)) := (((Below.refl _ _).alloc (Nat.le_refl _) _).alloc (by simp) _).alloc (by simp <;> omega) _
  exact ⟨_, rfl, .inl ⟨rfl, rfl⟩, H1.out.bel.trans ((H2.out.bel.trans ((H3.out.bel.trans (C3.mono z3)).mono z2)).mono z1)⟩
/-- A form's letter. -/
def RvForm.letter : RvForm → Int
  | .R => 82 | .I => 73 | .X => 88 | .Y => 89 | .S => 83 | .B => 66 | .U => 85 | .J => 74 | .E => 69
theorem fields_any (f : RvForm) (w : World) : Calls Tryz.prog 82 #[.int .u8 f.letter] w (FdsDone w (fdsV f.letter)) := by
  cases f
  · exact fields_R w
  · exact fields_I w
  · exact fields_X w
  · exact fields_Y w
  · exact fields_S w
  · exact fields_B w
  · exact fields_U w
  · exact fields_J w
  · exact fields_E w

end Go.Proofs.YtnaceogkaiodnaaGreat
namespace Go.Proofs.YtnaceogkaiodnaaGreat
open Go.RowKit
set_option linter.unusedVariables false

/-- Four numbers, as a function of their place. -/
def num4 (a b c d : Int) (k : Nat) : Int := if k = 0 then a else if k = 1 then b else if k = 2 then c else d
def joinV (l : List Fd) (g : Nat → Int) : Int := l.foldl (fun acc F => bits .or .u32 acc (F.put (g F.of))) 0
def setN (g : Nat → Int) (k : Nat) (v : Int) (j : Nat) : Int := if j = k then v else g j
def splitV (l : List Fd) (x : Int) : Nat → Int := l.foldl (fun g F => setN g F.of (bits .or .i64 (g F.of) (F.take x))) (fun _ => 0)
theorem take_one {l : List Fd} {k : Nat} (h : k < l.length) : l.take (k + 1) = l.take k ++ [l.getD k .zero] := by
  rw [List.take_succ_eq_append_getElem h]
  simp [List.getD, List.getElem?_eq_getElem h]
theorem joinV_one {l : List Fd} {k : Nat} (h : k < l.length) (g : Nat → Int) : joinV (l.take (k + 1)) g = bits .or .u32 (joinV (l.take k) g) ((l.getD k .zero).put (g (l.getD k .zero).of)) := by
  unfold joinV
  rw [take_one h, List.foldl_append]
  rfl
theorem splitV_one {l : List Fd} {k : Nat} (h : k < l.length) (x : Int) : splitV (l.take (k + 1)) x = setN (splitV (l.take k) x) (l.getD k .zero).of (bits .or .i64 (splitV (l.take k) x (l.getD k .zero).of) ((l.getD k .zero).take x)) := by
  unfold splitV
  rw [take_one h, List.foldl_append]
  rfl
theorem or_bd (a b : Int) : 0 ≤ bits .or .u32 a b ∧ bits .or .u32 a b < 4294967296 := by
  unfold bits
  simp only [IntKind.wrap_u32]
  omega
theorem joinV_bd (l : List Fd) (g : Nat → Int) : 0 ≤ joinV l g ∧ joinV l g < 4294967296 := by
  unfold joinV
  rcases List.eq_nil_or_concat l with rfl | ⟨l', F, rfl⟩
  · simp
  · rw [List.concat_eq_append, List.foldl_append]
    exact or_bd _ _
def InI (n : Int) : Prop := -9223372036854775808 ≤ n ∧ n < 9223372036854775808
theorem ori_bd (a b : Int) : InI (bits .or .i64 a b) := by
  unfold bits InI
  simp only [IntKind.wrap_i64]
  omega
theorem setN_in {g : Nat → Int} (h : ∀ j, InI (g j)) {k : Nat} {v : Int} (hv : InI v) : ∀ j, InI (setN g k v j) := by
  intro j
  unfold setN
  split
  · exact hv
  · exact h j
theorem fold_in {α β : Type} {P : β → Prop} {f : β → α → β} (h : ∀ b a, P b → P (f b a)) : ∀ (l : List α) (b : β), P b → P (l.foldl f b)
  | [], _, hb => hb
  | a :: l, b, hb => fold_in h l (f b a) (h b a hb)
theorem splitV_in (l : List Fd) (x : Int) : ∀ j, InI (splitV l x j) :=
  fold_in (P := fun g : Nat → Int => ∀ j, InI (g j)) (fun g F hg => setN_in hg (ori_bd _ _)) l _ (fun j => by simp [InI])


set_option maxHeartbeats 2000000 in
theorem join_any (A : Nat) (V : Value) (l : List Fd) (n0 n1 n2 n3 : Int) (w : World) (hV : IsFds w A w.heap.size V l) (i0 : InI n0) (i1 : InI n1) (i2 : InI n2) (i3 : InI n3) (hl : l.length ≤ 6) :
    Calls Tryz.prog 137 #[V, .agg #[.int .i64 n0, .int .i64 n1, .int .i64 n2, .int .i64 n3]] w fun e w' => e = .returned (.int .u32 (joinV l (num4 n0 n1 n2 n3))) ∧ Below w.heap.size w w' := by
  rcases hV with ⟨rfl, rfl⟩ | ⟨b, cap, rfl, hcap, ⟨_, hb⟩, hrow⟩
  · go_enter Tryz.func137, Tryz.ntmps137
    go_wp2
    go_loopw [5, 10] (fun x i wr => x = .int .u32 0 ∧ i = .int .i64 0 ∧ wr = w.alloc (.cells #[.int .i64 n0, .int .i64 n1, .int .i64 n2, .int .i64 n3] 130)) (fun _ _ _ => 0)
    case atStart => exact ⟨rfl, rfl, rfl⟩
    case round =>
      obtain ⟨rfl, rfl, rfl⟩ := hrel
      go_wp2
      go_ret
      exact ⟨rfl, (Below.refl _ _).alloc (Nat.le_refl _) _⟩
  · have hn : ∀ j, j < 4 → (w.alloc (.cells #[.int .i64 n0, .int .i64 n1, .int .i64 n2, .int .i64 n3] 130)).cell? ⟨w.heap.size, j, none⟩ = some (.int .i64 (num4 n0 n1 n2 n3 j)) := fun j hj => by
      have : j = 0 ∨ j = 1 ∨ j = 2 ∨ j = 3 := by omega
      rcases this with rfl | rfl | rfl | rfl <;> exact new_cell _ _ _ _ _ _ rfl rfl
    have hg : ∀ j, InI (num4 n0 n1 n2 n3 j) := fun j => by
      unfold num4
      split
      · exact i0
      · split
        · exact i1
        · split
          · exact i2
          · exact i3
    have hw0 : Below w.heap.size w (w.alloc (.cells #[.int .i64 n0, .int .i64 n1, .int .i64 n2, .int .i64 n3] 130)) := (Below.refl _ _).alloc (Nat.le_refl _) _
    have hz0 : (w.alloc (.cells #[.int .i64 n0, .int .i64 n1, .int .i64 n2, .int .i64 n3] 130)).heap.size = w.heap.size + 1 := by simp
    obtain ⟨W0, hW⟩ : ∃ W0, W0 = w.alloc (.cells #[.int .i64 n0, .int .i64 n1, .int .i64 n2, .int .i64 n3] 130) := ⟨_, rfl⟩
    rw [← hW] at hn hw0 hz0
    have HW := Lib.hid hW
    obtain ⟨g, hgg⟩ : ∃ g, g = num4 n0 n1 n2 n3 := ⟨_, rfl⟩
    rw [← hgg] at hn hg ⊢
    have HN := Lib.hid hn
    have HG := Lib.hid hg
    have HROW := Lib.hid hrow
    have HGG := Lib.hid hgg
    have HZ := Lib.hid hz0
    have HB0 := Lib.hid hw0
    obtain ⟨len, hlen⟩ : ∃ len, len = l.length := ⟨_, rfl⟩
    have HL := Lib.hid hlen
    rw [← hlen] at hl hcap ⊢
    clear hn hg hrow hgg hW hz0 hw0 hlen i0 i1 i2 i3
    go_enter Tryz.func137, Tryz.ntmps137
    go_wp2
    rw [← HW.out]
    go_loopw [5, 10] (fun x i wr => ∃ k : Nat, k ≤ len ∧ i = .int .i64 k ∧ x = .int .u32 (joinV (l.take k) g) ∧ Hid (Below W0.heap.size W0 wr)) (fun _ i _ => len - (intOf i).toNat)
    case atStart => exact ⟨0, by omega, rfl, rfl, Lib.hid (Below.refl _ _)⟩
    case round =>
      obtain ⟨k, hk, rfl, rfl, hq⟩ := hrel
      by_cases hlt : k < len
      · obtain ⟨F, hF⟩ : ∃ F, F = l.getD k .zero := ⟨_, rfl⟩
        have hjo := joinV_one (l := l) (k := k) (by rw [← HL.out]; exact hlt) g
        obtain ⟨v1, v2, hfd, c0, c1, c2⟩ := HROW.out k (by rw [← HL.out]; exact hlt)
        rw [← hF] at hjo hfd c0
        have hbw : Below w.heap.size w wr := HB0.out.trans (hq.out.mono HB0.out.size)
        have d0 : wr.cell? ⟨b, k * 3, none⟩ = some (.int .i64 F.of) := (hbw.cell (p := ⟨b, _, none⟩) hb).trans c0
        have d1 : wr.cell? ⟨b, k * 3 + 1, none⟩ = some v1 := (hbw.cell (p := ⟨b, _, none⟩) hb).trans c1
        have d2 : wr.cell? ⟨b, k * 3 + 2, none⟩ = some v2 := (hbw.cell (p := ⟨b, _, none⟩) hb).trans c2
        have hof := hfd.ok.of
        have hof1 : (F.of : Int) < 4 := by omega
        have hnz : w.heap.size < W0.heap.size := by rw [HZ.out]; omega
        have dn : wr.cell? ⟨w.heap.size, F.of, none⟩ = some (.int .i64 (g F.of)) := (hq.out.cell (p := ⟨w.heap.size, F.of, none⟩) hnz).trans (HN.out F.of hof)
        have hgi := HG.out F.of
        have hjb := joinV_bd (l.take k) g
        have hpb := F.put_bd hfd.ok (g F.of)
        have hjb2 := joinV_bd (l.take (k + 1)) g
        have hsz : b < wr.heap.size := Nat.lt_of_lt_of_le hb hbw.size
        have hsz2 : w.heap.size < wr.heap.size := Nat.lt_of_lt_of_le hnz hq.out.size
        obtain ⟨G, hG⟩ : ∃ G, G = g F.of := ⟨_, rfl⟩
        obtain ⟨J, hJ⟩ : ∃ J, J = joinV (l.take k) g := ⟨_, rfl⟩
        obtain ⟨T, hT⟩ : ∃ T, T = F.put G := ⟨_, rfl⟩
        rw [← hG] at hjo dn hgi hpb
        rw [← hJ] at hjo hjb ⊢
        rw [← hT] at hjo hpb
        have HJO := Lib.hid hjo
        have HT := Lib.hid hT
        have HBW := Lib.hid hbw
        have HOK := Lib.hid hfd.ok
        have hhow := hfd.below hbw (Nat.le_refl _)
        clear hF hjo hG hJ hT hfd c0 c1 c2 hbw
        have hgi1 := hgi.1
        have hgi2 := hgi.2
        rcases hhow.how with ⟨h0, pf, pm, pa, l1, l2, l3, rfl, rfl, e1, e2, e3⟩ | ⟨h0, pf, pa, l1, l3, rfl, rfl, e1, e3⟩
        · have hc : ∀ n : Nat, Calls Tryz.prog 138 #[.int .i64 G, .pointer (some ⟨pf, 0, none⟩), .pointer (some ⟨pm, 0, none⟩), .pointer (some ⟨pa, 0, none⟩)] ((wr.alloc (.cells #[.int .i64 F.of, .func (.func 138) #[] #[.pointer (some ⟨pf, 0, none⟩), .pointer (some ⟨pm, 0, none⟩), .pointer (some ⟨pa, 0, none⟩)], .func (.func 139) #[] #[.pointer (some ⟨pa, 0, none⟩), .pointer (some ⟨pm, 0, none⟩), .pointer (some ⟨pf, 0, none⟩)]] 148)).drewN n)
              fun e w' => e = .returned (.int .u32 T) ∧ ∃ m, w' = ((wr.alloc (.cells #[.int .i64 F.of, .func (.func 138) #[] #[.pointer (some ⟨pf, 0, none⟩), .pointer (some ⟨pm, 0, none⟩), .pointer (some ⟨pa, 0, none⟩)], .func (.func 139) #[] #[.pointer (some ⟨pa, 0, none⟩), .pointer (some ⟨pm, 0, none⟩), .pointer (some ⟨pf, 0, none⟩)]] 148)).drewN n).drewN m :=
            fun n => by rw [HT.out]; exact part1_any F _ G pf pm pa HOK.out h0 hgi1 hgi2 (old_cell _ e1) (old_cell _ e2) (old_cell _ e3)
          have HC := Lib.hid hc
          clear hc e1 e2 e3 hgi l1 l2 l3 h0 hhow
          go_wp2
          go_quiet ((go_at_call 138; with_reducible exact Calls.quiet_of (HC.out _)))
          go_wp2
          go_roundw
          case rel => exact ⟨k + 1, by omega, by go_num, by rw [HJO.out], Lib.hid (below_drewN (hq.out.alloc hq.out.size _) _)⟩
          case measure => simp [intOf]; omega
        · have hc : ∀ n : Nat, Calls Tryz.prog 140 #[.int .i64 G, .pointer (some ⟨pf, 0, none⟩), .pointer (some ⟨pa, 0, none⟩)] ((wr.alloc (.cells #[.int .i64 F.of, .func (.func 140) #[] #[.pointer (some ⟨pf, 0, none⟩), .pointer (some ⟨pa, 0, none⟩)], .func (.func 141) #[] #[.pointer (some ⟨pa, 0, none⟩), .pointer (some ⟨pf, 0, none⟩)]] 148)).drewN n)
              fun e w' => e = .returned (.int .u32 T) ∧ ∃ m, w' = ((wr.alloc (.cells #[.int .i64 F.of, .func (.func 140) #[] #[.pointer (some ⟨pf, 0, none⟩), .pointer (some ⟨pa, 0, none⟩)], .func (.func 141) #[] #[.pointer (some ⟨pa, 0, none⟩), .pointer (some ⟨pf, 0, none⟩)]] 148)).drewN n).drewN m :=
            fun n => by rw [HT.out]; exact top1_any F _ G pf pa HOK.out h0 hgi1 hgi2 (old_cell _ e1) (old_cell _ e3)
          have HC := Lib.hid hc
          have H0 := Lib.hid h0
          clear hc e1 e3 hgi l1 l3 h0 hhow
          go_wp2
          go_quiet ((go_at_call 140; with_reducible exact Calls.quiet_of (HC.out _)))
          go_wp2
          go_roundw
          case rel => exact ⟨k + 1, by omega, by go_num, by rw [HJO.out], Lib.hid (below_drewN (hq.out.alloc hq.out.size _) _)⟩
          case measure => simp [intOf]; omega
      · obtain rfl : k = len := by omega
        have hlt2 : List.take k l = l := List.take_of_length_le (by rw [HL.out]; exact Nat.le_refl _)
        rw [hlt2]
        clear hlt2
        go_wp2
        go_ret
        exact ⟨rfl, HB0.out.trans (hq.out.mono HB0.out.size)⟩

end Go.Proofs.YtnaceogkaiodnaaGreat
namespace Go.Proofs.YtnaceogkaiodnaaGreat
open Go.RowKit
set_option linter.unusedVariables false


/-- Four numbers in a block. -/
def NumAt (w : World) (p : Nat) (g : Nat → Int) : Prop := w.heap[p]? = some (.cells #[.int .i64 (g 0), .int .i64 (g 1), .int .i64 (g 2), .int .i64 (g 3)] 130 (0, 0))
theorem NumAt.cell {w : World} {p : Nat} {g : Nat → Int} (h : NumAt w p g) {j : Nat} (hj : j < 4) : w.cell? ⟨p, j, none⟩ = some (.int .i64 (g j)) := by
  rw [cell_of_row _ _ _ _ _ _ h]
  have : j = 0 ∨ j = 1 ∨ j = 2 ∨ j = 3 := by omega
  rcases this with rfl | rfl | rfl | rfl <;> rfl
theorem NumAt.free {w : World} {p : Nat} {g : Nat → Int} (h : NumAt w p g) (j : Nat) : w.frozen? ⟨p, j, none⟩ = false := by
  unfold NumAt at h
  simp [World.frozen?, h]
theorem NumAt.set {w : World} {p : Nat} {g : Nat → Int} (h : NumAt w p g) {j : Nat} (hj : j < 4) (v : Int) : NumAt (w.setCell ⟨p, j, none⟩ (.int .i64 v)) p (setN g j v) := by
  unfold NumAt
  rw [heap_setCell_same w p j _ _ _ h]
  have : j = 0 ∨ j = 1 ∨ j = 2 ∨ j = 3 := by omega
  rcases this with rfl | rfl | rfl | rfl <;> simp [setN]
theorem NumAt.of_block {w w' : World} {p : Nat} {g : Nat → Int} (h : NumAt w p g) (hb : w'.heap[p]? = w.heap[p]?) : NumAt w' p g := by
  unfold NumAt
  rw [hb]
  exact h
theorem NumAt.lt {w : World} {p : Nat} {g : Nat → Int} (h : NumAt w p g) : p < w.heap.size := heap_lt h
def SplitAt (w wr : World) (g : Nat → Int) : Prop := NumAt wr w.heap.size (fun _ => 0) ∧ NumAt wr (w.heap.size + 1) g ∧ Below w.heap.size w wr
theorem split_step {w W1 : World} {S : Nat → Int} {j n : Nat} (v : Int) (hz : NumAt W1 w.heap.size (fun _ => 0)) (hn : NumAt W1 (w.heap.size + 1) S) (hb : Below w.heap.size w W1) (hj : j < 4) :
    SplitAt w ((W1.drewN n).setCell ⟨w.heap.size + 1, j, none⟩ (.int .i64 v)) (setN S j v) :=
  ⟨NumAt.of_block (w := W1.drewN n) (hz.of_block rfl) (heap_setCell_other _ _ _ _ (by show w.heap.size ≠ w.heap.size + 1; omega)), NumAt.set (w := W1.drewN n) (hn.of_block rfl) hj v, (below_drewN hb n).setCell (p := ⟨w.heap.size + 1, j, none⟩) (show w.heap.size ≤ w.heap.size + 1 by omega) _⟩
set_option maxHeartbeats 8000000 in
theorem split_any (A : Nat) (V : Value) (l : List Fd) (x : Int) (w : World) (hV : IsFds w A w.heap.size V l) (hx : 0 ≤ x) (hx' : x < 4294967296) (hl : l.length ≤ 6) :
    Calls Tryz.prog 81 #[V, .int .u32 x] w fun e w' => e = .returned (.agg #[.int .i64 (splitV l x 0), .int .i64 (splitV l x 1), .int .i64 (splitV l x 2), .int .i64 (splitV l x 3)]) ∧ Below w.heap.size w w' := by
  rcases hV with ⟨rfl, rfl⟩ | ⟨b, cap, rfl, hcap, ⟨_, hb⟩, hrow⟩
  · go_enter Tryz.func81, Tryz.ntmps81
    go_wp2
    go_loopw [10] (fun i wr => i = .int .i64 0 ∧ wr = (w.alloc (.cells #[.int .i64 0, .int .i64 0, .int .i64 0, .int .i64 0] 130)).alloc (.cells #[.int .i64 0, .int .i64 0, .int .i64 0, .int .i64 0] 130)) (fun _ _ => 0)
    case atStart => exact ⟨rfl, rfl⟩
    case round =>
      obtain ⟨rfl, rfl⟩ := hrel
      go_wp2
      exact bodyPost_ret (v := .agg #[.int .i64 0, .int .i64 0, .int .i64 0, .int .i64 0]) (by simp [results, Tryz.results81, go_sem]) rfl ⟨rfl, ((Below.refl _ _).alloc (Nat.le_refl _) _).alloc (by simp) _⟩
  · have HROW := Lib.hid hrow
    obtain ⟨len, hlen⟩ : ∃ len, len = l.length := ⟨_, rfl⟩
    have HL := Lib.hid hlen
    rw [← hlen] at hl hcap ⊢
    clear hrow hlen
    go_enter Tryz.func81, Tryz.ntmps81
    go_wp2
    go_loopw [10] (fun i wr => ∃ k : Nat, k ≤ len ∧ i = .int .i64 k ∧ Hid (SplitAt w wr (splitV (l.take k) x))) (fun i _ => len - (intOf i).toNat)
    case atStart =>
      exact ⟨0, by omega, rfl, Lib.hid ⟨NumAt.of_block (w := w.alloc (.cells #[.int .i64 0, .int .i64 0, .int .i64 0, .int .i64 0] 130)) (heap_alloc_new w _) (heap_alloc_old _ _ (by simp)), by
        have := heap_alloc_new (w.alloc (.cells #[.int .i64 0, .int .i64 0, .int .i64 0, .int .i64 0] 130)) (.cells #[.int .i64 0, .int .i64 0, .int .i64 0, .int .i64 0] 130)
        rw [show (w.alloc (.cells #[.int .i64 0, .int .i64 0, .int .i64 0, .int .i64 0] 130)).heap.size = w.heap.size + 1 by simp] at this
        exact this, ((Below.refl _ _).alloc (Nat.le_refl _) _).alloc (by simp) _⟩⟩
    case round =>
      obtain ⟨k, hk, rfl, hq⟩ := hrel
      by_cases hlt : k < len
      · obtain ⟨F, hF⟩ : ∃ F, F = l.getD k .zero := ⟨_, rfl⟩
        have hso := splitV_one (l := l) (k := k) (by rw [← HL.out]; exact hlt) x
        obtain ⟨v1, v2, hfd, c0, c1, c2⟩ := HROW.out k (by rw [← HL.out]; exact hlt)
        obtain ⟨hz, hn, hbw⟩ := hq.out
        rw [← hF] at hso hfd c0
        have d0 : wr.cell? ⟨b, k * 3, none⟩ = some (.int .i64 F.of) := (hbw.cell (p := ⟨b, _, none⟩) hb).trans c0
        have d1 : wr.cell? ⟨b, k * 3 + 1, none⟩ = some v1 := (hbw.cell (p := ⟨b, _, none⟩) hb).trans c1
        have d2 : wr.cell? ⟨b, k * 3 + 2, none⟩ = some v2 := (hbw.cell (p := ⟨b, _, none⟩) hb).trans c2
        have hof := hfd.ok.of
        have hof1 : (F.of : Int) < 4 := by omega
        have hof0 : (0 : Int) ≤ (F.of : Int) := by omega
        obtain ⟨S, hS⟩ : ∃ S, S = splitV (l.take k) x := ⟨_, rfl⟩
        have hin := splitV_in (l.take k) x
        rw [← hS] at hso hn hin
        have hgi := hin F.of
        have htb := F.take_bd hfd.ok x
        obtain ⟨T, hT⟩ : ∃ T, T = F.take x := ⟨_, rfl⟩
        rw [← hT] at hso htb
        have hsz : b < wr.heap.size := Nat.lt_of_lt_of_le hb hbw.size
        have hsz2 : w.heap.size + 1 < wr.heap.size := hn.lt
        have hhow := hfd.below hbw (Nat.le_refl _)
        have HSO := Lib.hid hso
        have HT := Lib.hid hT
        have HBW := Lib.hid hbw
        have HOK := Lib.hid hfd.ok
        have HN := Lib.hid hn
        have HZ := Lib.hid hz
        obtain ⟨G, hG⟩ : ∃ G, G = S F.of := ⟨_, rfl⟩
        rw [← hG] at hgi
        have HG := Lib.hid hG
        have hgi1 : -9223372036854775808 ≤ G := hgi.1
        have hgi2 : G < 9223372036854775808 := hgi.2
        clear hF hso hG hS hT hfd c0 c1 c2 hbw hn hz hq hin hgi
        rcases hhow.how with ⟨h0, pf, pm, pa, l1, l2, l3, rfl, rfl, e1, e2, e3⟩ | ⟨h0, pf, pa, l1, l3, rfl, rfl, e1, e3⟩
        · obtain ⟨C, hC⟩ : ∃ C : Array Value, C = #[.int .i64 F.of, .func (.func 138) #[] #[.pointer (some ⟨pf, 0, none⟩), .pointer (some ⟨pm, 0, none⟩), .pointer (some ⟨pa, 0, none⟩)], .func (.func 139) #[] #[.pointer (some ⟨pa, 0, none⟩), .pointer (some ⟨pm, 0, none⟩), .pointer (some ⟨pf, 0, none⟩)]] := ⟨_, rfl⟩
          have q0 : (wr.alloc (.cells C 148)).cell? ⟨wr.heap.size, 0, none⟩ = some (.int .i64 F.of) := new_cell _ _ _ _ _ _ rfl (by rw [hC]; rfl)
          have q2 : (wr.alloc (.cells C 148)).cell? ⟨wr.heap.size, 2, none⟩ = some (.func (.func 139) #[] #[.pointer (some ⟨pa, 0, none⟩), .pointer (some ⟨pm, 0, none⟩), .pointer (some ⟨pf, 0, none⟩)]) := new_cell _ _ _ _ _ _ rfl (by rw [hC]; rfl)
          have qn : NumAt (wr.alloc (.cells C 148)) (w.heap.size + 1) S := HN.out.of_block (heap_alloc_old _ _ hsz2)
          have qz : NumAt (wr.alloc (.cells C 148)) w.heap.size (fun _ => 0) := HZ.out.of_block (heap_alloc_old _ _ (by omega))
          have qb : Below w.heap.size w (wr.alloc (.cells C 148)) := HBW.out.alloc HBW.out.size _
          have q5 : (wr.alloc (.cells C 148)).cell? ⟨w.heap.size + 1, F.of, none⟩ = some (.int .i64 G) := by rw [HG.out]; exact qn.cell hof
          have q6 : (wr.alloc (.cells C 148)).frozen? ⟨w.heap.size + 1, F.of, none⟩ = false := qn.free _
          have qc := part2_any F (wr.alloc (.cells C 148))  x pf pm pa HOK.out h0 hx hx' (old_cell _ e1) (old_cell _ e2) (old_cell _ e3)
          have E1 := Lib.hid (old_cell (.cells C 148) e1)
          have E2 := Lib.hid (old_cell (.cells C 148) e2)
          have E3 := Lib.hid (old_cell (.cells C 148) e3)
          have QN := Lib.hid qn
          have QZ := Lib.hid qz
          have QB := Lib.hid qb
          have H0 := Lib.hid h0
          clear qc qn qz qb e1 e2 e3 l1 l2 l3 h0 hhow
          have HCC := Lib.hid hC
          clear hC
          go_wp2
          rw [← HCC.out]
          generalize wr.alloc (.cells C 148) = W1 at *
          go_region_with ((go_at_call 139; (with_reducible refine (part2_any F _ x pf pm pa HOK.out H0.out hx hx' ?_ ?_ ?_).mono ?_); exact E1.out; exact E2.out; exact E3.out; rintro e w' ⟨rfl, m, rfl⟩))
          all_goals
            go_wp2
            go_roundw
            case rel => exact ⟨k + 1, by omega, by go_num, Lib.hid (by rw [HSO.out, HT.out, ← HG.out]; exact split_step _ QZ.out QN.out QB.out hof)⟩
            case measure => simp [intOf]; omega
        · obtain ⟨C, hC⟩ : ∃ C : Array Value, C = #[.int .i64 F.of, .func (.func 140) #[] #[.pointer (some ⟨pf, 0, none⟩), .pointer (some ⟨pa, 0, none⟩)], .func (.func 141) #[] #[.pointer (some ⟨pa, 0, none⟩), .pointer (some ⟨pf, 0, none⟩)]] := ⟨_, rfl⟩
          have q0 : (wr.alloc (.cells C 148)).cell? ⟨wr.heap.size, 0, none⟩ = some (.int .i64 F.of) := new_cell _ _ _ _ _ _ rfl (by rw [hC]; rfl)
          have q2 : (wr.alloc (.cells C 148)).cell? ⟨wr.heap.size, 2, none⟩ = some (.func (.func 141) #[] #[.pointer (some ⟨pa, 0, none⟩), .pointer (some ⟨pf, 0, none⟩)]) := new_cell _ _ _ _ _ _ rfl (by rw [hC]; rfl)
          have qn : NumAt (wr.alloc (.cells C 148)) (w.heap.size + 1) S := HN.out.of_block (heap_alloc_old _ _ hsz2)
          have qz : NumAt (wr.alloc (.cells C 148)) w.heap.size (fun _ => 0) := HZ.out.of_block (heap_alloc_old _ _ (by omega))
          have qb : Below w.heap.size w (wr.alloc (.cells C 148)) := HBW.out.alloc HBW.out.size _
          have q5 : (wr.alloc (.cells C 148)).cell? ⟨w.heap.size + 1, F.of, none⟩ = some (.int .i64 G) := by rw [HG.out]; exact qn.cell hof
          have q6 : (wr.alloc (.cells C 148)).frozen? ⟨w.heap.size + 1, F.of, none⟩ = false := qn.free _
          have E1 := Lib.hid (old_cell (.cells C 148) e1)
          have E3 := Lib.hid (old_cell (.cells C 148) e3)
          have QN := Lib.hid qn
          have QZ := Lib.hid qz
          have QB := Lib.hid qb
          have H0 := Lib.hid h0
          clear qn qz qb e1 e3 l1 l3 h0 hhow
          have HCC := Lib.hid hC
          clear hC
          go_wp2
          rw [← HCC.out]
          generalize wr.alloc (.cells C 148) = W1 at *
          go_region_with ((go_at_call 141; (with_reducible refine (top2_any F _ x pf pa HOK.out H0.out hx hx' ?_ ?_).mono ?_); exact E1.out; exact E3.out; rintro e w' ⟨rfl, m, rfl⟩))
          all_goals
            go_wp2
            go_roundw
            case rel => exact ⟨k + 1, by omega, by go_num, Lib.hid (by rw [HSO.out, HT.out, ← HG.out]; exact split_step _ QZ.out QN.out QB.out hof)⟩
            case measure => simp [intOf]; omega
      · obtain rfl : k = len := by omega
        have hlt2 : List.take k l = l := List.take_of_length_le (by rw [HL.out]; exact Nat.le_refl _)
        have hq2 : SplitAt w wr (splitV l x) := by
          have := hq.out
          rw [hlt2] at this
          exact this
        obtain ⟨hz, hn, hbw⟩ := hq2
        clear hlt2 hq
        have n0 : wr.cell? ⟨w.heap.size + 1, 0, none⟩ = some (.int .i64 (splitV l x 0)) := hn.cell (by omega)
        have n1 : wr.cell? ⟨w.heap.size + 1, 1, none⟩ = some (.int .i64 (splitV l x 1)) := hn.cell (by omega)
        have n2 : wr.cell? ⟨w.heap.size + 1, 2, none⟩ = some (.int .i64 (splitV l x 2)) := hn.cell (by omega)
        have n3 : wr.cell? ⟨w.heap.size + 1, 3, none⟩ = some (.int .i64 (splitV l x 3)) := hn.cell (by omega)
        have z0 : wr.cell? ⟨w.heap.size, 0, none⟩ = some (.int .i64 0) := hz.cell (j := 0) (by omega)
        have z1 : wr.cell? ⟨w.heap.size, 1, none⟩ = some (.int .i64 0) := hz.cell (j := 1) (by omega)
        have z2 : wr.cell? ⟨w.heap.size, 2, none⟩ = some (.int .i64 0) := hz.cell (j := 2) (by omega)
        have z3 : wr.cell? ⟨w.heap.size, 3, none⟩ = some (.int .i64 0) := hz.cell (j := 3) (by omega)
        have f0 : wr.frozen? ⟨w.heap.size, 0, none⟩ = false := hz.free _
        have f1 : wr.frozen? ⟨w.heap.size, 1, none⟩ = false := hz.free _
        have f2 : wr.frozen? ⟨w.heap.size, 2, none⟩ = false := hz.free _
        have f3 : wr.frozen? ⟨w.heap.size, 3, none⟩ = false := hz.free _
        have HBW := Lib.hid hbw
        clear hbw hz hn
        go_wp2
        exact bodyPost_ret (v := .agg #[.int .i64 (splitV l x 0), .int .i64 (splitV l x 1), .int .i64 (splitV l x 2), .int .i64 (splitV l x 3)]) (by simp [results, Tryz.results81, go_sem, z0, z1, z2, z3]) rfl ⟨rfl, (((HBW.out.setCell (p := ⟨w.heap.size, 0, none⟩) (Nat.le_refl _) _).setCell (p := ⟨w.heap.size, 1, none⟩) (Nat.le_refl _) _).setCell (p := ⟨w.heap.size, 2, none⟩) (Nat.le_refl _) _).setCell (p := ⟨w.heap.size, 3, none⟩) (Nat.le_refl _) _⟩

end Go.Proofs.YtnaceogkaiodnaaGreat
namespace Go.Proofs.YtnaceogkaiodnaaGreat
open Go.RowKit
set_option linter.unusedVariables false

def rowsM : Array Value := #[(.string ⟨#[109, 117, 108]⟩), .int .u8 82, .int .u8 51, .int .u8 0, .int .u8 1,
  (.string ⟨#[109, 117, 108, 104]⟩), .int .u8 82, .int .u8 51, .int .u8 1, .int .u8 1,
  (.string ⟨#[109, 117, 108, 104, 115, 117]⟩), .int .u8 82, .int .u8 51, .int .u8 2, .int .u8 1,
  (.string ⟨#[109, 117, 108, 104, 117]⟩), .int .u8 82, .int .u8 51, .int .u8 3, .int .u8 1,
  (.string ⟨#[100, 105, 118]⟩), .int .u8 82, .int .u8 51, .int .u8 4, .int .u8 1,
  (.string ⟨#[100, 105, 118, 117]⟩), .int .u8 82, .int .u8 51, .int .u8 5, .int .u8 1,
  (.string ⟨#[114, 101, 109]⟩), .int .u8 82, .int .u8 51, .int .u8 6, .int .u8 1,
  (.string ⟨#[114, 101, 109, 117]⟩), .int .u8 82, .int .u8 51, .int .u8 7, .int .u8 1,
  (.string ⟨#[109, 117, 108, 119]⟩), .int .u8 82, .int .u8 59, .int .u8 0, .int .u8 1,
  (.string ⟨#[100, 105, 118, 119]⟩), .int .u8 82, .int .u8 59, .int .u8 4, .int .u8 1,
  (.string ⟨#[100, 105, 118, 117, 119]⟩), .int .u8 82, .int .u8 59, .int .u8 5, .int .u8 1,
  (.string ⟨#[114, 101, 109, 119]⟩), .int .u8 82, .int .u8 59, .int .u8 6, .int .u8 1,
  (.string ⟨#[114, 101, 109, 117, 119]⟩), .int .u8 82, .int .u8 59, .int .u8 7, .int .u8 1]
def rows0 : Array Value := #[(.string ⟨#[]⟩), .int .u8 0, .int .u8 0, .int .u8 0, .int .u8 0,
  (.string ⟨#[108, 117, 105]⟩), .int .u8 85, .int .u8 55, .int .u8 0, .int .u8 0,
  (.string ⟨#[97, 117, 105, 112, 99]⟩), .int .u8 85, .int .u8 23, .int .u8 0, .int .u8 0,
  (.string ⟨#[106, 97, 108]⟩), .int .u8 74, .int .u8 111, .int .u8 0, .int .u8 0,
  (.string ⟨#[106, 97, 108, 114]⟩), .int .u8 73, .int .u8 103, .int .u8 0, .int .u8 0,
  (.string ⟨#[98, 101, 113]⟩), .int .u8 66, .int .u8 99, .int .u8 0, .int .u8 0,
  (.string ⟨#[98, 110, 101]⟩), .int .u8 66, .int .u8 99, .int .u8 1, .int .u8 0,
  (.string ⟨#[98, 108, 116]⟩), .int .u8 66, .int .u8 99, .int .u8 4, .int .u8 0,
  (.string ⟨#[98, 103, 101]⟩), .int .u8 66, .int .u8 99, .int .u8 5, .int .u8 0,
  (.string ⟨#[98, 108, 116, 117]⟩), .int .u8 66, .int .u8 99, .int .u8 6, .int .u8 0,
  (.string ⟨#[98, 103, 101, 117]⟩), .int .u8 66, .int .u8 99, .int .u8 7, .int .u8 0,
  (.string ⟨#[108, 98]⟩), .int .u8 73, .int .u8 3, .int .u8 0, .int .u8 0,
  (.string ⟨#[108, 104]⟩), .int .u8 73, .int .u8 3, .int .u8 1, .int .u8 0,
  (.string ⟨#[108, 119]⟩), .int .u8 73, .int .u8 3, .int .u8 2, .int .u8 0,
  (.string ⟨#[108, 100]⟩), .int .u8 73, .int .u8 3, .int .u8 3, .int .u8 0,
  (.string ⟨#[108, 98, 117]⟩), .int .u8 73, .int .u8 3, .int .u8 4, .int .u8 0,
  (.string ⟨#[108, 104, 117]⟩), .int .u8 73, .int .u8 3, .int .u8 5, .int .u8 0,
  (.string ⟨#[108, 119, 117]⟩), .int .u8 73, .int .u8 3, .int .u8 6, .int .u8 0,
  (.string ⟨#[115, 98]⟩), .int .u8 83, .int .u8 35, .int .u8 0, .int .u8 0,
  (.string ⟨#[115, 104]⟩), .int .u8 83, .int .u8 35, .int .u8 1, .int .u8 0,
  (.string ⟨#[115, 119]⟩), .int .u8 83, .int .u8 35, .int .u8 2, .int .u8 0,
  (.string ⟨#[115, 100]⟩), .int .u8 83, .int .u8 35, .int .u8 3, .int .u8 0,
  (.string ⟨#[97, 100, 100, 105]⟩), .int .u8 73, .int .u8 19, .int .u8 0, .int .u8 0,
  (.string ⟨#[115, 108, 116, 105]⟩), .int .u8 73, .int .u8 19, .int .u8 2, .int .u8 0,
  (.string ⟨#[115, 108, 116, 105, 117]⟩), .int .u8 73, .int .u8 19, .int .u8 3, .int .u8 0,
  (.string ⟨#[120, 111, 114, 105]⟩), .int .u8 73, .int .u8 19, .int .u8 4, .int .u8 0,
  (.string ⟨#[111, 114, 105]⟩), .int .u8 73, .int .u8 19, .int .u8 6, .int .u8 0,
  (.string ⟨#[97, 110, 100, 105]⟩), .int .u8 73, .int .u8 19, .int .u8 7, .int .u8 0,
  (.string ⟨#[115, 108, 108, 105]⟩), .int .u8 88, .int .u8 19, .int .u8 1, .int .u8 0,
  (.string ⟨#[115, 114, 108, 105]⟩), .int .u8 88, .int .u8 19, .int .u8 5, .int .u8 0,
  (.string ⟨#[115, 114, 97, 105]⟩), .int .u8 88, .int .u8 19, .int .u8 5, .int .u8 16,
  (.string ⟨#[97, 100, 100, 105, 119]⟩), .int .u8 73, .int .u8 27, .int .u8 0, .int .u8 0,
  (.string ⟨#[115, 108, 108, 105, 119]⟩), .int .u8 89, .int .u8 27, .int .u8 1, .int .u8 0,
  (.string ⟨#[115, 114, 108, 105, 119]⟩), .int .u8 89, .int .u8 27, .int .u8 5, .int .u8 0,
  (.string ⟨#[115, 114, 97, 105, 119]⟩), .int .u8 89, .int .u8 27, .int .u8 5, .int .u8 32,
  (.string ⟨#[97, 100, 100]⟩), .int .u8 82, .int .u8 51, .int .u8 0, .int .u8 0,
  (.string ⟨#[115, 117, 98]⟩), .int .u8 82, .int .u8 51, .int .u8 0, .int .u8 32,
  (.string ⟨#[115, 108, 108]⟩), .int .u8 82, .int .u8 51, .int .u8 1, .int .u8 0,
  (.string ⟨#[115, 108, 116]⟩), .int .u8 82, .int .u8 51, .int .u8 2, .int .u8 0,
  (.string ⟨#[115, 108, 116, 117]⟩), .int .u8 82, .int .u8 51, .int .u8 3, .int .u8 0,
  (.string ⟨#[120, 111, 114]⟩), .int .u8 82, .int .u8 51, .int .u8 4, .int .u8 0,
  (.string ⟨#[115, 114, 108]⟩), .int .u8 82, .int .u8 51, .int .u8 5, .int .u8 0,
  (.string ⟨#[115, 114, 97]⟩), .int .u8 82, .int .u8 51, .int .u8 5, .int .u8 32,
  (.string ⟨#[111, 114]⟩), .int .u8 82, .int .u8 51, .int .u8 6, .int .u8 0,
  (.string ⟨#[97, 110, 100]⟩), .int .u8 82, .int .u8 51, .int .u8 7, .int .u8 0,
  (.string ⟨#[97, 100, 100, 119]⟩), .int .u8 82, .int .u8 59, .int .u8 0, .int .u8 0,
  (.string ⟨#[115, 117, 98, 119]⟩), .int .u8 82, .int .u8 59, .int .u8 0, .int .u8 32,
  (.string ⟨#[115, 108, 108, 119]⟩), .int .u8 82, .int .u8 59, .int .u8 1, .int .u8 0,
  (.string ⟨#[115, 114, 108, 119]⟩), .int .u8 82, .int .u8 59, .int .u8 5, .int .u8 0,
  (.string ⟨#[115, 114, 97, 119]⟩), .int .u8 82, .int .u8 59, .int .u8 5, .int .u8 32,
  (.string ⟨#[]⟩), .int .u8 0, .int .u8 0, .int .u8 0, .int .u8 0,
  (.string ⟨#[]⟩), .int .u8 0, .int .u8 0, .int .u8 0, .int .u8 0,
  (.string ⟨#[]⟩), .int .u8 0, .int .u8 0, .int .u8 0, .int .u8 0,
  (.string ⟨#[]⟩), .int .u8 0, .int .u8 0, .int .u8 0, .int .u8 0,
  (.string ⟨#[]⟩), .int .u8 0, .int .u8 0, .int .u8 0, .int .u8 0,
  (.string ⟨#[]⟩), .int .u8 0, .int .u8 0, .int .u8 0, .int .u8 0,
  (.string ⟨#[]⟩), .int .u8 0, .int .u8 0, .int .u8 0, .int .u8 0,
  (.string ⟨#[]⟩), .int .u8 0, .int .u8 0, .int .u8 0, .int .u8 0,
  (.string ⟨#[]⟩), .int .u8 0, .int .u8 0, .int .u8 0, .int .u8 0,
  (.string ⟨#[]⟩), .int .u8 0, .int .u8 0, .int .u8 0, .int .u8 0,
  (.string ⟨#[]⟩), .int .u8 0, .int .u8 0, .int .u8 0, .int .u8 0,
  (.string ⟨#[]⟩), .int .u8 0, .int .u8 0, .int .u8 0, .int .u8 0,
  (.string ⟨#[]⟩), .int .u8 0, .int .u8 0, .int .u8 0, .int .u8 0,
  (.string ⟨#[101, 99, 97, 108, 108]⟩), .int .u8 69, .int .u8 115, .int .u8 0, .int .u8 0]
def rows1 : Array Value := #[(.string ⟨#[]⟩), .int .u8 0, .int .u8 0, .int .u8 0, .int .u8 0,
  (.string ⟨#[108, 117, 105]⟩), .int .u8 85, .int .u8 55, .int .u8 0, .int .u8 0,
  (.string ⟨#[97, 117, 105, 112, 99]⟩), .int .u8 85, .int .u8 23, .int .u8 0, .int .u8 0,
  (.string ⟨#[106, 97, 108]⟩), .int .u8 74, .int .u8 111, .int .u8 0, .int .u8 0,
  (.string ⟨#[106, 97, 108, 114]⟩), .int .u8 73, .int .u8 103, .int .u8 0, .int .u8 0,
  (.string ⟨#[98, 101, 113]⟩), .int .u8 66, .int .u8 99, .int .u8 0, .int .u8 0,
  (.string ⟨#[98, 110, 101]⟩), .int .u8 66, .int .u8 99, .int .u8 1, .int .u8 0,
  (.string ⟨#[98, 108, 116]⟩), .int .u8 66, .int .u8 99, .int .u8 4, .int .u8 0,
  (.string ⟨#[98, 103, 101]⟩), .int .u8 66, .int .u8 99, .int .u8 5, .int .u8 0,
  (.string ⟨#[98, 108, 116, 117]⟩), .int .u8 66, .int .u8 99, .int .u8 6, .int .u8 0,
  (.string ⟨#[98, 103, 101, 117]⟩), .int .u8 66, .int .u8 99, .int .u8 7, .int .u8 0,
  (.string ⟨#[108, 98]⟩), .int .u8 73, .int .u8 3, .int .u8 0, .int .u8 0,
  (.string ⟨#[108, 104]⟩), .int .u8 73, .int .u8 3, .int .u8 1, .int .u8 0,
  (.string ⟨#[108, 119]⟩), .int .u8 73, .int .u8 3, .int .u8 2, .int .u8 0,
  (.string ⟨#[108, 100]⟩), .int .u8 73, .int .u8 3, .int .u8 3, .int .u8 0,
  (.string ⟨#[108, 98, 117]⟩), .int .u8 73, .int .u8 3, .int .u8 4, .int .u8 0,
  (.string ⟨#[108, 104, 117]⟩), .int .u8 73, .int .u8 3, .int .u8 5, .int .u8 0,
  (.string ⟨#[108, 119, 117]⟩), .int .u8 73, .int .u8 3, .int .u8 6, .int .u8 0,
  (.string ⟨#[115, 98]⟩), .int .u8 83, .int .u8 35, .int .u8 0, .int .u8 0,
  (.string ⟨#[115, 104]⟩), .int .u8 83, .int .u8 35, .int .u8 1, .int .u8 0,
  (.string ⟨#[115, 119]⟩), .int .u8 83, .int .u8 35, .int .u8 2, .int .u8 0,
  (.string ⟨#[115, 100]⟩), .int .u8 83, .int .u8 35, .int .u8 3, .int .u8 0,
  (.string ⟨#[97, 100, 100, 105]⟩), .int .u8 73, .int .u8 19, .int .u8 0, .int .u8 0,
  (.string ⟨#[115, 108, 116, 105]⟩), .int .u8 73, .int .u8 19, .int .u8 2, .int .u8 0,
  (.string ⟨#[115, 108, 116, 105, 117]⟩), .int .u8 73, .int .u8 19, .int .u8 3, .int .u8 0,
  (.string ⟨#[120, 111, 114, 105]⟩), .int .u8 73, .int .u8 19, .int .u8 4, .int .u8 0,
  (.string ⟨#[111, 114, 105]⟩), .int .u8 73, .int .u8 19, .int .u8 6, .int .u8 0,
  (.string ⟨#[97, 110, 100, 105]⟩), .int .u8 73, .int .u8 19, .int .u8 7, .int .u8 0,
  (.string ⟨#[115, 108, 108, 105]⟩), .int .u8 88, .int .u8 19, .int .u8 1, .int .u8 0,
  (.string ⟨#[115, 114, 108, 105]⟩), .int .u8 88, .int .u8 19, .int .u8 5, .int .u8 0,
  (.string ⟨#[115, 114, 97, 105]⟩), .int .u8 88, .int .u8 19, .int .u8 5, .int .u8 16,
  (.string ⟨#[97, 100, 100, 105, 119]⟩), .int .u8 73, .int .u8 27, .int .u8 0, .int .u8 0,
  (.string ⟨#[115, 108, 108, 105, 119]⟩), .int .u8 89, .int .u8 27, .int .u8 1, .int .u8 0,
  (.string ⟨#[115, 114, 108, 105, 119]⟩), .int .u8 89, .int .u8 27, .int .u8 5, .int .u8 0,
  (.string ⟨#[115, 114, 97, 105, 119]⟩), .int .u8 89, .int .u8 27, .int .u8 5, .int .u8 32,
  (.string ⟨#[97, 100, 100]⟩), .int .u8 82, .int .u8 51, .int .u8 0, .int .u8 0,
  (.string ⟨#[115, 117, 98]⟩), .int .u8 82, .int .u8 51, .int .u8 0, .int .u8 32,
  (.string ⟨#[115, 108, 108]⟩), .int .u8 82, .int .u8 51, .int .u8 1, .int .u8 0,
  (.string ⟨#[115, 108, 116]⟩), .int .u8 82, .int .u8 51, .int .u8 2, .int .u8 0,
  (.string ⟨#[115, 108, 116, 117]⟩), .int .u8 82, .int .u8 51, .int .u8 3, .int .u8 0,
  (.string ⟨#[120, 111, 114]⟩), .int .u8 82, .int .u8 51, .int .u8 4, .int .u8 0,
  (.string ⟨#[115, 114, 108]⟩), .int .u8 82, .int .u8 51, .int .u8 5, .int .u8 0,
  (.string ⟨#[115, 114, 97]⟩), .int .u8 82, .int .u8 51, .int .u8 5, .int .u8 32,
  (.string ⟨#[111, 114]⟩), .int .u8 82, .int .u8 51, .int .u8 6, .int .u8 0,
  (.string ⟨#[97, 110, 100]⟩), .int .u8 82, .int .u8 51, .int .u8 7, .int .u8 0,
  (.string ⟨#[97, 100, 100, 119]⟩), .int .u8 82, .int .u8 59, .int .u8 0, .int .u8 0,
  (.string ⟨#[115, 117, 98, 119]⟩), .int .u8 82, .int .u8 59, .int .u8 0, .int .u8 32,
  (.string ⟨#[115, 108, 108, 119]⟩), .int .u8 82, .int .u8 59, .int .u8 1, .int .u8 0,
  (.string ⟨#[115, 114, 108, 119]⟩), .int .u8 82, .int .u8 59, .int .u8 5, .int .u8 0,
  (.string ⟨#[115, 114, 97, 119]⟩), .int .u8 82, .int .u8 59, .int .u8 5, .int .u8 32,
  (.string ⟨#[109, 117, 108]⟩), .int .u8 82, .int .u8 51, .int .u8 0, .int .u8 1,
  (.string ⟨#[109, 117, 108, 104]⟩), .int .u8 82, .int .u8 51, .int .u8 1, .int .u8 1,
  (.string ⟨#[109, 117, 108, 104, 115, 117]⟩), .int .u8 82, .int .u8 51, .int .u8 2, .int .u8 1,
  (.string ⟨#[109, 117, 108, 104, 117]⟩), .int .u8 82, .int .u8 51, .int .u8 3, .int .u8 1,
  (.string ⟨#[100, 105, 118]⟩), .int .u8 82, .int .u8 51, .int .u8 4, .int .u8 1,
  (.string ⟨#[100, 105, 118, 117]⟩), .int .u8 82, .int .u8 51, .int .u8 5, .int .u8 1,
  (.string ⟨#[114, 101, 109]⟩), .int .u8 82, .int .u8 51, .int .u8 6, .int .u8 1,
  (.string ⟨#[114, 101, 109, 117]⟩), .int .u8 82, .int .u8 51, .int .u8 7, .int .u8 1,
  (.string ⟨#[109, 117, 108, 119]⟩), .int .u8 82, .int .u8 59, .int .u8 0, .int .u8 1,
  (.string ⟨#[100, 105, 118, 119]⟩), .int .u8 82, .int .u8 59, .int .u8 4, .int .u8 1,
  (.string ⟨#[100, 105, 118, 117, 119]⟩), .int .u8 82, .int .u8 59, .int .u8 5, .int .u8 1,
  (.string ⟨#[114, 101, 109, 119]⟩), .int .u8 82, .int .u8 59, .int .u8 6, .int .u8 1,
  (.string ⟨#[114, 101, 109, 117, 119]⟩), .int .u8 82, .int .u8 59, .int .u8 7, .int .u8 1,
  (.string ⟨#[101, 99, 97, 108, 108]⟩), .int .u8 69, .int .u8 115, .int .u8 0, .int .u8 0]

/-- A list of plain operations, run. -/
def plainRun (P : Program) : List Oper → Act → World → Option (Act × World)
  | [], a, w => some (a, w)
  | o :: rest, a, w =>
    match o.guard with
    | some _ => none
    | none => match (execOp a.eval o).run P w with
      | .ok (.value v) w' => plainRun P rest (a.put o.dst v) w'
      | .ok .skip w' => plainRun P rest (a.put o.dst undef) w'
      | _ => none
theorem plain_list {P : Program} {ops : Array Oper} {Q : Exit → Act → World → Prop} : ∀ (l : List Oper) (a a' : Act) (w w' : World), plainRun P l a w = some (a', w') → Q .normal a' w' → wpList P ops Q l a w
  | [], a, a', w, w', h, hq => by
    unfold plainRun at h
    injection h with h
    injection h with h1 h2
    subst h1 h2
    exact hq
  | o :: rest, a, a', w, w', h, hq => by
    unfold plainRun at h
    unfold wpList
    split at h
    · cases h
    · rename_i hg
      rw [if_pos (by simp [Region.wanted, hg])]
      refine .inl ?_
      unfold Oper.wp
      split at h
      · rename_i v w1 he
        rw [he]
        exact plain_list rest _ a' w1 w' h hq
      · rename_i w1 he
        rw [he]
        exact plain_list rest _ a' w1 w' h hq
      · cases h

def rowA1 : Value := (.agg #[(.string ⟨#[108, 117, 105]⟩), .int .u8 85, .int .u8 55, .int .u8 0, .int .u8 0])
def rowA2 : Value := (.agg #[(.string ⟨#[97, 117, 105, 112, 99]⟩), .int .u8 85, .int .u8 23, .int .u8 0, .int .u8 0])
def rowA3 : Value := (.agg #[(.string ⟨#[106, 97, 108]⟩), .int .u8 74, .int .u8 111, .int .u8 0, .int .u8 0])
def rowA4 : Value := (.agg #[(.string ⟨#[106, 97, 108, 114]⟩), .int .u8 73, .int .u8 103, .int .u8 0, .int .u8 0])
def rowA5 : Value := (.agg #[(.string ⟨#[98, 101, 113]⟩), .int .u8 66, .int .u8 99, .int .u8 0, .int .u8 0])
def rowA6 : Value := (.agg #[(.string ⟨#[98, 110, 101]⟩), .int .u8 66, .int .u8 99, .int .u8 1, .int .u8 0])
def rowA7 : Value := (.agg #[(.string ⟨#[98, 108, 116]⟩), .int .u8 66, .int .u8 99, .int .u8 4, .int .u8 0])
def rowA8 : Value := (.agg #[(.string ⟨#[98, 103, 101]⟩), .int .u8 66, .int .u8 99, .int .u8 5, .int .u8 0])
def rowA9 : Value := (.agg #[(.string ⟨#[98, 108, 116, 117]⟩), .int .u8 66, .int .u8 99, .int .u8 6, .int .u8 0])
def rowA10 : Value := (.agg #[(.string ⟨#[98, 103, 101, 117]⟩), .int .u8 66, .int .u8 99, .int .u8 7, .int .u8 0])
def rowA11 : Value := (.agg #[(.string ⟨#[108, 98]⟩), .int .u8 73, .int .u8 3, .int .u8 0, .int .u8 0])
def rowA12 : Value := (.agg #[(.string ⟨#[108, 104]⟩), .int .u8 73, .int .u8 3, .int .u8 1, .int .u8 0])
def rowA13 : Value := (.agg #[(.string ⟨#[108, 119]⟩), .int .u8 73, .int .u8 3, .int .u8 2, .int .u8 0])
def rowA14 : Value := (.agg #[(.string ⟨#[108, 100]⟩), .int .u8 73, .int .u8 3, .int .u8 3, .int .u8 0])
def rowA15 : Value := (.agg #[(.string ⟨#[108, 98, 117]⟩), .int .u8 73, .int .u8 3, .int .u8 4, .int .u8 0])
def rowA16 : Value := (.agg #[(.string ⟨#[108, 104, 117]⟩), .int .u8 73, .int .u8 3, .int .u8 5, .int .u8 0])
def rowA17 : Value := (.agg #[(.string ⟨#[108, 119, 117]⟩), .int .u8 73, .int .u8 3, .int .u8 6, .int .u8 0])
def rowA18 : Value := (.agg #[(.string ⟨#[115, 98]⟩), .int .u8 83, .int .u8 35, .int .u8 0, .int .u8 0])
def rowA19 : Value := (.agg #[(.string ⟨#[115, 104]⟩), .int .u8 83, .int .u8 35, .int .u8 1, .int .u8 0])
def rowA20 : Value := (.agg #[(.string ⟨#[115, 119]⟩), .int .u8 83, .int .u8 35, .int .u8 2, .int .u8 0])
def rowA21 : Value := (.agg #[(.string ⟨#[115, 100]⟩), .int .u8 83, .int .u8 35, .int .u8 3, .int .u8 0])
def rowA22 : Value := (.agg #[(.string ⟨#[97, 100, 100, 105]⟩), .int .u8 73, .int .u8 19, .int .u8 0, .int .u8 0])
def rowA23 : Value := (.agg #[(.string ⟨#[115, 108, 116, 105]⟩), .int .u8 73, .int .u8 19, .int .u8 2, .int .u8 0])
def rowA24 : Value := (.agg #[(.string ⟨#[115, 108, 116, 105, 117]⟩), .int .u8 73, .int .u8 19, .int .u8 3, .int .u8 0])
def rowA25 : Value := (.agg #[(.string ⟨#[120, 111, 114, 105]⟩), .int .u8 73, .int .u8 19, .int .u8 4, .int .u8 0])
def rowA26 : Value := (.agg #[(.string ⟨#[111, 114, 105]⟩), .int .u8 73, .int .u8 19, .int .u8 6, .int .u8 0])
def rowA27 : Value := (.agg #[(.string ⟨#[97, 110, 100, 105]⟩), .int .u8 73, .int .u8 19, .int .u8 7, .int .u8 0])
def rowA28 : Value := (.agg #[(.string ⟨#[115, 108, 108, 105]⟩), .int .u8 88, .int .u8 19, .int .u8 1, .int .u8 0])
def rowA29 : Value := (.agg #[(.string ⟨#[115, 114, 108, 105]⟩), .int .u8 88, .int .u8 19, .int .u8 5, .int .u8 0])
def rowA30 : Value := (.agg #[(.string ⟨#[115, 114, 97, 105]⟩), .int .u8 88, .int .u8 19, .int .u8 5, .int .u8 16])
def rowA31 : Value := (.agg #[(.string ⟨#[97, 100, 100, 105, 119]⟩), .int .u8 73, .int .u8 27, .int .u8 0, .int .u8 0])
def rowA32 : Value := (.agg #[(.string ⟨#[115, 108, 108, 105, 119]⟩), .int .u8 89, .int .u8 27, .int .u8 1, .int .u8 0])
def rowA33 : Value := (.agg #[(.string ⟨#[115, 114, 108, 105, 119]⟩), .int .u8 89, .int .u8 27, .int .u8 5, .int .u8 0])
def rowA34 : Value := (.agg #[(.string ⟨#[115, 114, 97, 105, 119]⟩), .int .u8 89, .int .u8 27, .int .u8 5, .int .u8 32])
def rowA35 : Value := (.agg #[(.string ⟨#[97, 100, 100]⟩), .int .u8 82, .int .u8 51, .int .u8 0, .int .u8 0])
def rowA36 : Value := (.agg #[(.string ⟨#[115, 117, 98]⟩), .int .u8 82, .int .u8 51, .int .u8 0, .int .u8 32])
def rowA37 : Value := (.agg #[(.string ⟨#[115, 108, 108]⟩), .int .u8 82, .int .u8 51, .int .u8 1, .int .u8 0])
def rowA38 : Value := (.agg #[(.string ⟨#[115, 108, 116]⟩), .int .u8 82, .int .u8 51, .int .u8 2, .int .u8 0])
def rowA39 : Value := (.agg #[(.string ⟨#[115, 108, 116, 117]⟩), .int .u8 82, .int .u8 51, .int .u8 3, .int .u8 0])
def rowA40 : Value := (.agg #[(.string ⟨#[120, 111, 114]⟩), .int .u8 82, .int .u8 51, .int .u8 4, .int .u8 0])
def rowA41 : Value := (.agg #[(.string ⟨#[115, 114, 108]⟩), .int .u8 82, .int .u8 51, .int .u8 5, .int .u8 0])
def rowA42 : Value := (.agg #[(.string ⟨#[115, 114, 97]⟩), .int .u8 82, .int .u8 51, .int .u8 5, .int .u8 32])
def rowA43 : Value := (.agg #[(.string ⟨#[111, 114]⟩), .int .u8 82, .int .u8 51, .int .u8 6, .int .u8 0])
def rowA44 : Value := (.agg #[(.string ⟨#[97, 110, 100]⟩), .int .u8 82, .int .u8 51, .int .u8 7, .int .u8 0])
def rowA45 : Value := (.agg #[(.string ⟨#[97, 100, 100, 119]⟩), .int .u8 82, .int .u8 59, .int .u8 0, .int .u8 0])
def rowA46 : Value := (.agg #[(.string ⟨#[115, 117, 98, 119]⟩), .int .u8 82, .int .u8 59, .int .u8 0, .int .u8 32])
def rowA47 : Value := (.agg #[(.string ⟨#[115, 108, 108, 119]⟩), .int .u8 82, .int .u8 59, .int .u8 1, .int .u8 0])
def rowA48 : Value := (.agg #[(.string ⟨#[115, 114, 108, 119]⟩), .int .u8 82, .int .u8 59, .int .u8 5, .int .u8 0])
def rowA49 : Value := (.agg #[(.string ⟨#[115, 114, 97, 119]⟩), .int .u8 82, .int .u8 59, .int .u8 5, .int .u8 32])
def rowA63 : Value := (.agg #[(.string ⟨#[101, 99, 97, 108, 108]⟩), .int .u8 69, .int .u8 115, .int .u8 0, .int .u8 0])

set_option maxRecDepth 100000 in
theorem rowsM_any (w : World) : Calls Tryz.prog 118 #[] w fun e w' => e = .returned (.slice (some ⟨w.heap.size, 0, none⟩) 13 13) ∧ w.alloc (.cells rowsM 126) = w' := by
  go_enter Tryz.func118, Tryz.ntmps118
  refine wp_seq ?_
  refine wp_region_lit ?_
  refine plain_list _ _ _ _ _ (by kernel_rfl : plainRun Tryz.prog _ _ _ = some ({ tmps := #[(.slice none 0 0), undef, undef, undef, undef, undef, undef, undef, undef, undef, undef, undef, undef, undef, undef], defers := [] }, w)) ?_
  refine wp_seq ?_
  refine wp_region_lit ?_
  refine plain_list _ _ _ _ _ (by kernel_rfl : plainRun Tryz.prog _ _ _ = some ({ tmps := #[(.slice (some ⟨w.heap.size, 0, none⟩) 13 13), (.agg #[(.string ⟨#[109, 117, 108]⟩), .int .u8 82, .int .u8 51, .int .u8 0, .int .u8 1]), (.agg #[(.string ⟨#[109, 117, 108, 104]⟩), .int .u8 82, .int .u8 51, .int .u8 1, .int .u8 1]), (.agg #[(.string ⟨#[109, 117, 108, 104, 115, 117]⟩), .int .u8 82, .int .u8 51, .int .u8 2, .int .u8 1]), (.agg #[(.string ⟨#[109, 117, 108, 104, 117]⟩), .int .u8 82, .int .u8 51, .int .u8 3, .int .u8 1]), (.agg #[(.string ⟨#[100, 105, 118]⟩), .int .u8 82, .int .u8 51, .int .u8 4, .int .u8 1]), (.agg #[(.string ⟨#[100, 105, 118, 117]⟩), .int .u8 82, .int .u8 51, .int .u8 5, .int .u8 1]), (.agg #[(.string ⟨#[114, 101, 109]⟩), .int .u8 82, .int .u8 51, .int .u8 6, .int .u8 1]), (.agg #[(.string ⟨#[114, 101, 109, 117]⟩), .int .u8 82, .int .u8 51, .int .u8 7, .int .u8 1]), (.agg #[(.string ⟨#[109, 117, 108, 119]⟩), .int .u8 82, .int .u8 59, .int .u8 0, .int .u8 1]), (.agg #[(.string ⟨#[100, 105, 118, 119]⟩), .int .u8 82, .int .u8 59, .int .u8 4, .int .u8 1]), (.agg #[(.string ⟨#[100, 105, 118, 117, 119]⟩), .int .u8 82, .int .u8 59, .int .u8 5, .int .u8 1]), (.agg #[(.string ⟨#[114, 101, 109, 119]⟩), .int .u8 82, .int .u8 59, .int .u8 6, .int .u8 1]), (.agg #[(.string ⟨#[114, 101, 109, 117, 119]⟩), .int .u8 82, .int .u8 59, .int .u8 7, .int .u8 1]), (.slice (some ⟨w.heap.size, 0, none⟩) 13 13)], defers := [] }, w.alloc (.cells rowsM 126))) ?_
  go_wp2
  go_ret
  exact ⟨rfl, rfl⟩
section
variable {P : Program} {w : World}
theorem run_copy_wide (dT sT ty elem : TypeId) (g o dLen dCap : Nat) (a : Addr) (sLen sCap : Nat) (cur : Array Value) (t : TypeId) (cs : List Value) (s n : Nat)
    (hu : P.underlying dT = some (.slice elem)) (hs : (P.info? elem).map (·.size) = some s)
    (hg : w.heap[g]? = some (.cells cur t (0, 0))) (hn : n = Nat.min sLen dLen) (hl : cs.length = n * s)
    (hsrc : ∀ j v, cs[j]? = some v → w.cell? (a.add j) = some v) (hfit : o + cs.length ≤ cur.size) (h1 : ∀ v ∈ cs, v.oneCell' = true) :
    (Builtin.copy_ #[dT, sT] ty #[.slice (some ⟨g, o, none⟩) dLen dCap, .slice (some a) sLen sCap]).run P w =
      .ok (goInt n) (w.setRow g (cur.toList.take o ++ cs ++ cur.toList.drop (o + cs.length)).toArray) := by
  have hlo := run_loadCells_list (P := P) w a cs hsrc
  have hst := run_storeCells_at P g o t cs 0 cur w hg (by simpa using hfit) h1
  rw [hl] at hlo
  cases hq : P.info? elem with
  | none => simp [hq] at hs
  | some i =>
    have hi : i.size = s := by simpa [hq] using hs
    simp [Builtin.copy_, run_underlying hu, Builtin.lenOf, Builtin.firstCells, sizeOf, typeInfo, hq, hi, ← hn, hlo, hst]
theorem step_copy_wide {ops : Array Oper} {o : Oper} {a : Act} {K : Act → World → Prop} {Q : Exit → Act → World → Prop} {E : Prop} (hgd : o.guard = none) (d s : Operand) (dT sT : TypeId)
    (ho : o.op = .call { callee := .builtin .copy, args := #[d, s], argTypes := #[dT, sT] }) (elem : TypeId) (sz n : Nat) (hu : P.underlying dT = some (.slice elem)) (hsz : (P.info? elem).map (·.size) = some sz)
    (g off dLen dCap : Nat) (ad : Addr) (sLen sCap : Nat) (hd : a.eval d = .slice (some ⟨g, off, none⟩) dLen dCap) (hs : a.eval s = .slice (some ad) sLen sCap)
    (cur : Array Value) (t : TypeId) (hg : w.heap[g]? = some (.cells cur t (0, 0))) (cs : List Value) (hn : n = Nat.min sLen dLen) (hl : cs.length = n * sz)
    (hsrc : ∀ j v, cs[j]? = some v → w.cell? (ad.add j) = some v) (hfit : off + cs.length ≤ cur.size) (h1 : ∀ v ∈ cs, v.oneCell' = true)
    (h : K (a.put o.dst (goInt n)) (w.setRow g (cur.toList.take off ++ cs ++ cur.toList.drop (off + cs.length)).toArray)) :
    if Region.wanted o (yielded ops a.tmps) = true then Oper.wp P o a w K Q else E := by
  have hw : Region.wanted o (yielded ops a.tmps) = true := by simp [Region.wanted, hgd]
  rw [if_pos hw]
  have hrun := run_copy_wide (P := P) (w := w) dT sT o.type elem g off dLen dCap ad sLen sCap cur t cs sz n hu hsz hg hn hl hsrc hfit h1
  have he : (execOp a.eval o).run P w = .ok (.value (goInt n)) (w.setRow g (cur.toList.take off ++ cs ++ cur.toList.drop (off + cs.length)).toArray) := by
    simp [execOp, ho, resolve, invoke, builtin, hd, hs, hrun, Result.andThen]
  unfold Oper.wp
  rw [he]
  exact h
end
theorem row_new (w : World) (p : Nat) (cs : Array Value) (t : TypeId) (hp : p = w.heap.size) : ∀ j v, cs.toList[j]? = some v → (w.alloc (.cells cs t)).cell? ((⟨p, 0, none⟩ : Addr).add j) = some v := by
  intro j v hv
  have hadd : (⟨p, 0, none⟩ : Addr).add j = ⟨p, j, none⟩ := by unfold Addr.add; split <;> simp_all
  rw [hadd]
  exact new_cell w cs t p j v hp (by simpa using hv)
theorem rows_sum : (rows0.toList.take 250 ++ (rowsM.toList ++ rows0.toList.drop (250 + rowsM.size))).toArray = rows1 := by kernel_rfl
def RowsDone (w : World) (e : Ending) (w' : World) : Prop :=
  e = .returned (.slice (some ⟨w.heap.size, 0, none⟩) 64 64) ∧ w'.heap[w.heap.size]? = some (.cells rows1 126 (0, 0)) ∧ Below w.heap.size w w'
theorem rowsM_size : rowsM.toList.length = 13 * 5 := by kernel_rfl
theorem rows0_size : rows0.size = 320 := by kernel_rfl
theorem rowsM_one : ∀ v ∈ rowsM.toList, v.oneCell' = true := by
  have : rowsM.toList.all (·.oneCell') = true := by kernel_rfl
  exact fun v hv => List.all_eq_true.1 this v hv
set_option maxRecDepth 100000 in
set_option maxHeartbeats 4000000 in
theorem rows_any (w : World) : Calls Tryz.prog 79 #[] w (RowsDone w) := by
  go_enter Tryz.func79, Tryz.ntmps79
  refine wp_seq ?_
  refine wp_region_lit ?_
  refine plain_list _ _ _ _ _ (by kernel_rfl : plainRun Tryz.prog _ _ _ = some ({ tmps := #[(.slice none 0 0), undef, undef, undef, undef, undef, undef, undef, undef, undef, undef, undef, undef, undef, undef, undef, undef, undef, undef, undef, undef, undef, undef, undef, undef, undef, undef, undef, undef, undef, undef, undef, undef, undef, undef, undef, undef, undef, undef, undef, undef, undef, undef, undef, undef, undef, undef, undef, undef, undef, undef, undef, undef, undef, undef, undef, undef, undef], defers := [] }, w)) ?_
  refine wp_seq ?_
  refine wp_region_lit ?_
  refine plain_list _ _ _ _ _ (by kernel_rfl : plainRun Tryz.prog _ _ _ = some ({ tmps := #[(.slice none 0 0), (.slice (some ⟨w.heap.size, 0, none⟩) 64 64), rowA1, rowA2, rowA3, rowA4, rowA5, rowA6, rowA7, rowA8, rowA9, rowA10, rowA11, rowA12, rowA13, rowA14, rowA15, rowA16, rowA17, rowA18, rowA19, rowA20, rowA21, rowA22, rowA23, rowA24, rowA25, rowA26, rowA27, rowA28, rowA29, rowA30, rowA31, rowA32, rowA33, rowA34, rowA35, rowA36, rowA37, rowA38, rowA39, rowA40, rowA41, rowA42, rowA43, rowA44, rowA45, rowA46, rowA47, rowA48, rowA49, rowA63, (.slice (some ⟨w.heap.size, 0, none⟩) 64 64), undef, undef, undef, undef, undef], defers := [] }, w.alloc (.cells rows0 126))) ?_
  have hg0 : (w.alloc (.cells rows0 126)).heap[w.heap.size]? = some (.cells rows0 126 (0, 0)) := heap_alloc_new w _
  have hb0 : Below w.heap.size w (w.alloc (.cells rows0 126)) := (Below.refl _ _).alloc (Nat.le_refl _) _
  have hz0 : (w.alloc (.cells rows0 126)).heap.size = w.heap.size + 1 := by simp
  generalize w.alloc (.cells rows0 126) = W at *
  have HG := Lib.hid hg0
  have HB := Lib.hid hb0
  have HZ := Lib.hid hz0
  clear hg0 hb0 hz0
  have HS := Lib.hid rows_sum
  have hu : (Tryz.prog.info? 126).map (·.size) = some 5 := by kernel_rfl
  have HU := Lib.hid hu
  clear hu
  go_wp2
  go_region_law (first
    | (refine step_copy_wide rfl (.tmp 54) (.tmp 55) 123 123 rfl 126 5 13 Tryz.underlying123 HU.out w.heap.size 250 14 14 ⟨W.heap.size, 0, none⟩ 13 13 rfl rfl rows0 126 ((heap_alloc_old _ _ (show w.heap.size < W.heap.size by rw [HZ.out]; omega)).trans HG.out) rowsM.toList rfl rowsM_size (row_new _ _ _ _ rfl) (by rw [rowsM_size, rows0_size]; decide) rowsM_one ?_)
    | (go_simp; go_at_call 118; (with_reducible refine (rowsM_any _).mono ?_); rintro e w1 ⟨rfl, rfl⟩))
  all_goals
    rw [HS.out]
    go_wp2
    go_ret
    refine ⟨rfl, ?_, ?_⟩
    · exact setRow_heap (W.alloc (.cells rowsM 126)) w.heap.size rows0 rows1 126 _ ((heap_alloc_old _ _ (show w.heap.size < W.heap.size by rw [HZ.out]; omega)).trans HG.out)
    · exact below_setRow (w := (W.alloc (.cells rowsM 126)).drew) (below_drewN (HB.out.alloc HB.out.size _) 1) (Nat.le_refl _) _
end Go.Proofs.YtnaceogkaiodnaaGreat

namespace Go.Proofs.YtnaceogkaiodnaaGreat
open Go.RowKit
set_option linter.unusedVariables false

def namesB : List ByteArray := [⟨#[]⟩, ⟨#[108, 117, 105]⟩, ⟨#[97, 117, 105, 112, 99]⟩, ⟨#[106, 97, 108]⟩, ⟨#[106, 97, 108, 114]⟩, ⟨#[98, 101, 113]⟩, ⟨#[98, 110, 101]⟩, ⟨#[98, 108, 116]⟩, ⟨#[98, 103, 101]⟩, ⟨#[98, 108, 116, 117]⟩, ⟨#[98, 103, 101, 117]⟩, ⟨#[108, 98]⟩, ⟨#[108, 104]⟩, ⟨#[108, 119]⟩, ⟨#[108, 100]⟩, ⟨#[108, 98, 117]⟩, ⟨#[108, 104, 117]⟩, ⟨#[108, 119, 117]⟩, ⟨#[115, 98]⟩, ⟨#[115, 104]⟩, ⟨#[115, 119]⟩, ⟨#[115, 100]⟩, ⟨#[97, 100, 100, 105]⟩, ⟨#[115, 108, 116, 105]⟩, ⟨#[115, 108, 116, 105, 117]⟩, ⟨#[120, 111, 114, 105]⟩, ⟨#[111, 114, 105]⟩, ⟨#[97, 110, 100, 105]⟩, ⟨#[115, 108, 108, 105]⟩, ⟨#[115, 114, 108, 105]⟩, ⟨#[115, 114, 97, 105]⟩, ⟨#[97, 100, 100, 105, 119]⟩, ⟨#[115, 108, 108, 105, 119]⟩, ⟨#[115, 114, 108, 105, 119]⟩, ⟨#[115, 114, 97, 105, 119]⟩, ⟨#[97, 100, 100]⟩, ⟨#[115, 117, 98]⟩, ⟨#[115, 108, 108]⟩, ⟨#[115, 108, 116]⟩, ⟨#[115, 108, 116, 117]⟩, ⟨#[120, 111, 114]⟩, ⟨#[115, 114, 108]⟩, ⟨#[115, 114, 97]⟩, ⟨#[111, 114]⟩, ⟨#[97, 110, 100]⟩, ⟨#[97, 100, 100, 119]⟩, ⟨#[115, 117, 98, 119]⟩, ⟨#[115, 108, 108, 119]⟩, ⟨#[115, 114, 108, 119]⟩, ⟨#[115, 114, 97, 119]⟩, ⟨#[109, 117, 108]⟩, ⟨#[109, 117, 108, 104]⟩, ⟨#[109, 117, 108, 104, 115, 117]⟩, ⟨#[109, 117, 108, 104, 117]⟩, ⟨#[100, 105, 118]⟩, ⟨#[100, 105, 118, 117]⟩, ⟨#[114, 101, 109]⟩, ⟨#[114, 101, 109, 117]⟩, ⟨#[109, 117, 108, 119]⟩, ⟨#[100, 105, 118, 119]⟩, ⟨#[100, 105, 118, 117, 119]⟩, ⟨#[114, 101, 109, 119]⟩, ⟨#[114, 101, 109, 117, 119]⟩, ⟨#[101, 99, 97, 108, 108]⟩]
def nameB (k : Nat) : ByteArray := namesB.getD k ⟨#[]⟩
def letB (k : Nat) : Int := if k = 0 then 0 else (rvRowN k).form.letter
def aB (k : Nat) : Int := if k = 0 then 0 else ((rvRowN k).a : Int)
def bB (k : Nat) : Int := if k = 0 then 0 else ((rvRowN k).b : Int)
def cB (k : Nat) : Int := if k = 0 then 0 else ((rvRowN k).c : Int)
def RowCell (k : Nat) : Prop := rows1[k * 5]? = some (.string (nameB k)) ∧ rows1[k * 5 + 1]? = some (.int .u8 (letB k)) ∧ rows1[k * 5 + 2]? = some (.int .u8 (aB k)) ∧ rows1[k * 5 + 3]? = some (.int .u8 (bB k)) ∧ rows1[k * 5 + 4]? = some (.int .u8 (cB k))
set_option maxRecDepth 100000 in
theorem row_cell : ∀ (k : Nat), k < 64 → RowCell k
  | 0, _ => ⟨by kernel_rfl, by kernel_rfl, by kernel_rfl, by kernel_rfl, by kernel_rfl⟩
  | 1, _ => ⟨by kernel_rfl, by kernel_rfl, by kernel_rfl, by kernel_rfl, by kernel_rfl⟩
  | 2, _ => ⟨by kernel_rfl, by kernel_rfl, by kernel_rfl, by kernel_rfl, by kernel_rfl⟩
  | 3, _ => ⟨by kernel_rfl, by kernel_rfl, by kernel_rfl, by kernel_rfl, by kernel_rfl⟩
  | 4, _ => ⟨by kernel_rfl, by kernel_rfl, by kernel_rfl, by kernel_rfl, by kernel_rfl⟩
  | 5, _ => ⟨by kernel_rfl, by kernel_rfl, by kernel_rfl, by kernel_rfl, by kernel_rfl⟩
  | 6, _ => ⟨by kernel_rfl, by kernel_rfl, by kernel_rfl, by kernel_rfl, by kernel_rfl⟩
  | 7, _ => ⟨by kernel_rfl, by kernel_rfl, by kernel_rfl, by kernel_rfl, by kernel_rfl⟩
  | 8, _ => ⟨by kernel_rfl, by kernel_rfl, by kernel_rfl, by kernel_rfl, by kernel_rfl⟩
  | 9, _ => ⟨by kernel_rfl, by kernel_rfl, by kernel_rfl, by kernel_rfl, by kernel_rfl⟩
  | 10, _ => ⟨by kernel_rfl, by kernel_rfl, by kernel_rfl, by kernel_rfl, by kernel_rfl⟩
  | 11, _ => ⟨by kernel_rfl, by kernel_rfl, by kernel_rfl, by kernel_rfl, by kernel_rfl⟩
  | 12, _ => ⟨by kernel_rfl, by kernel_rfl, by kernel_rfl, by kernel_rfl, by kernel_rfl⟩
  | 13, _ => ⟨by kernel_rfl, by kernel_rfl, by kernel_rfl, by kernel_rfl, by kernel_rfl⟩
  | 14, _ => ⟨by kernel_rfl, by kernel_rfl, by kernel_rfl, by kernel_rfl, by kernel_rfl⟩
  | 15, _ => ⟨by kernel_rfl, by kernel_rfl, by kernel_rfl, by kernel_rfl, by kernel_rfl⟩
  | 16, _ => ⟨by kernel_rfl, by kernel_rfl, by kernel_rfl, by kernel_rfl, by kernel_rfl⟩
  | 17, _ => ⟨by kernel_rfl, by kernel_rfl, by kernel_rfl, by kernel_rfl, by kernel_rfl⟩
  | 18, _ => ⟨by kernel_rfl, by kernel_rfl, by kernel_rfl, by kernel_rfl, by kernel_rfl⟩
  | 19, _ => ⟨by kernel_rfl, by kernel_rfl, by kernel_rfl, by kernel_rfl, by kernel_rfl⟩
  | 20, _ => ⟨by kernel_rfl, by kernel_rfl, by kernel_rfl, by kernel_rfl, by kernel_rfl⟩
  | 21, _ => ⟨by kernel_rfl, by kernel_rfl, by kernel_rfl, by kernel_rfl, by kernel_rfl⟩
  | 22, _ => ⟨by kernel_rfl, by kernel_rfl, by kernel_rfl, by kernel_rfl, by kernel_rfl⟩
  | 23, _ => ⟨by kernel_rfl, by kernel_rfl, by kernel_rfl, by kernel_rfl, by kernel_rfl⟩
  | 24, _ => ⟨by kernel_rfl, by kernel_rfl, by kernel_rfl, by kernel_rfl, by kernel_rfl⟩
  | 25, _ => ⟨by kernel_rfl, by kernel_rfl, by kernel_rfl, by kernel_rfl, by kernel_rfl⟩
  | 26, _ => ⟨by kernel_rfl, by kernel_rfl, by kernel_rfl, by kernel_rfl, by kernel_rfl⟩
  | 27, _ => ⟨by kernel_rfl, by kernel_rfl, by kernel_rfl, by kernel_rfl, by kernel_rfl⟩
  | 28, _ => ⟨by kernel_rfl, by kernel_rfl, by kernel_rfl, by kernel_rfl, by kernel_rfl⟩
  | 29, _ => ⟨by kernel_rfl, by kernel_rfl, by kernel_rfl, by kernel_rfl, by kernel_rfl⟩
  | 30, _ => ⟨by kernel_rfl, by kernel_rfl, by kernel_rfl, by kernel_rfl, by kernel_rfl⟩
  | 31, _ => ⟨by kernel_rfl, by kernel_rfl, by kernel_rfl, by kernel_rfl, by kernel_rfl⟩
  | 32, _ => ⟨by kernel_rfl, by kernel_rfl, by kernel_rfl, by kernel_rfl, by kernel_rfl⟩
  | 33, _ => ⟨by kernel_rfl, by kernel_rfl, by kernel_rfl, by kernel_rfl, by kernel_rfl⟩
  | 34, _ => ⟨by kernel_rfl, by kernel_rfl, by kernel_rfl, by kernel_rfl, by kernel_rfl⟩
  | 35, _ => ⟨by kernel_rfl, by kernel_rfl, by kernel_rfl, by kernel_rfl, by kernel_rfl⟩
  | 36, _ => ⟨by kernel_rfl, by kernel_rfl, by kernel_rfl, by kernel_rfl, by kernel_rfl⟩
  | 37, _ => ⟨by kernel_rfl, by kernel_rfl, by kernel_rfl, by kernel_rfl, by kernel_rfl⟩
  | 38, _ => ⟨by kernel_rfl, by kernel_rfl, by kernel_rfl, by kernel_rfl, by kernel_rfl⟩
  | 39, _ => ⟨by kernel_rfl, by kernel_rfl, by kernel_rfl, by kernel_rfl, by kernel_rfl⟩
  | 40, _ => ⟨by kernel_rfl, by kernel_rfl, by kernel_rfl, by kernel_rfl, by kernel_rfl⟩
  | 41, _ => ⟨by kernel_rfl, by kernel_rfl, by kernel_rfl, by kernel_rfl, by kernel_rfl⟩
  | 42, _ => ⟨by kernel_rfl, by kernel_rfl, by kernel_rfl, by kernel_rfl, by kernel_rfl⟩
  | 43, _ => ⟨by kernel_rfl, by kernel_rfl, by kernel_rfl, by kernel_rfl, by kernel_rfl⟩
  | 44, _ => ⟨by kernel_rfl, by kernel_rfl, by kernel_rfl, by kernel_rfl, by kernel_rfl⟩
  | 45, _ => ⟨by kernel_rfl, by kernel_rfl, by kernel_rfl, by kernel_rfl, by kernel_rfl⟩
  | 46, _ => ⟨by kernel_rfl, by kernel_rfl, by kernel_rfl, by kernel_rfl, by kernel_rfl⟩
  | 47, _ => ⟨by kernel_rfl, by kernel_rfl, by kernel_rfl, by kernel_rfl, by kernel_rfl⟩
  | 48, _ => ⟨by kernel_rfl, by kernel_rfl, by kernel_rfl, by kernel_rfl, by kernel_rfl⟩
  | 49, _ => ⟨by kernel_rfl, by kernel_rfl, by kernel_rfl, by kernel_rfl, by kernel_rfl⟩
  | 50, _ => ⟨by kernel_rfl, by kernel_rfl, by kernel_rfl, by kernel_rfl, by kernel_rfl⟩
  | 51, _ => ⟨by kernel_rfl, by kernel_rfl, by kernel_rfl, by kernel_rfl, by kernel_rfl⟩
  | 52, _ => ⟨by kernel_rfl, by kernel_rfl, by kernel_rfl, by kernel_rfl, by kernel_rfl⟩
  | 53, _ => ⟨by kernel_rfl, by kernel_rfl, by kernel_rfl, by kernel_rfl, by kernel_rfl⟩
  | 54, _ => ⟨by kernel_rfl, by kernel_rfl, by kernel_rfl, by kernel_rfl, by kernel_rfl⟩
  | 55, _ => ⟨by kernel_rfl, by kernel_rfl, by kernel_rfl, by kernel_rfl, by kernel_rfl⟩
  | 56, _ => ⟨by kernel_rfl, by kernel_rfl, by kernel_rfl, by kernel_rfl, by kernel_rfl⟩
  | 57, _ => ⟨by kernel_rfl, by kernel_rfl, by kernel_rfl, by kernel_rfl, by kernel_rfl⟩
  | 58, _ => ⟨by kernel_rfl, by kernel_rfl, by kernel_rfl, by kernel_rfl, by kernel_rfl⟩
  | 59, _ => ⟨by kernel_rfl, by kernel_rfl, by kernel_rfl, by kernel_rfl, by kernel_rfl⟩
  | 60, _ => ⟨by kernel_rfl, by kernel_rfl, by kernel_rfl, by kernel_rfl, by kernel_rfl⟩
  | 61, _ => ⟨by kernel_rfl, by kernel_rfl, by kernel_rfl, by kernel_rfl, by kernel_rfl⟩
  | 62, _ => ⟨by kernel_rfl, by kernel_rfl, by kernel_rfl, by kernel_rfl, by kernel_rfl⟩
  | 63, _ => ⟨by kernel_rfl, by kernel_rfl, by kernel_rfl, by kernel_rfl, by kernel_rfl⟩
  | n + 64, h => absurd h (Nat.not_lt.2 (Nat.le_add_left 64 n))
/-- The value that a row is. -/
def rowVal (k : Nat) : Value := .agg #[.string (nameB k), .int .u8 (letB k), .int .u8 (aB k), .int .u8 (bB k), .int .u8 (cB k)]
/-- The table's cells, in a world. -/
theorem rows_cells {w : World} {g : Nat} (h : w.heap[g]? = some (.cells rows1 126 (0, 0))) {k : Nat} (hk : k < 64) :
    w.cell? ⟨g, k * 5, none⟩ = some (.string (nameB k)) ∧ w.cell? ⟨g, k * 5 + 1, none⟩ = some (.int .u8 (letB k)) ∧ w.cell? ⟨g, k * 5 + 2, none⟩ = some (.int .u8 (aB k)) ∧ w.cell? ⟨g, k * 5 + 3, none⟩ = some (.int .u8 (bB k)) ∧ w.cell? ⟨g, k * 5 + 4, none⟩ = some (.int .u8 (cB k)) := by
  obtain ⟨h0, h1, h2, h3, h4⟩ := row_cell k hk
  exact ⟨(cell_of_row _ _ _ _ _ _ h).trans h0, (cell_of_row _ _ _ _ _ _ h).trans h1, (cell_of_row _ _ _ _ _ _ h).trans h2, (cell_of_row _ _ _ _ _ _ h).trans h3, (cell_of_row _ _ _ _ _ _ h).trans h4⟩


theorem bcell {W w1 : World} (hb : Below W.heap.size W w1) : (∀ b o, b < W.heap.size → w1.cell? ⟨b, o, none⟩ = W.cell? ⟨b, o, none⟩) ∧ (∀ b o, b < W.heap.size → w1.frozen? ⟨b, o, none⟩ = W.frozen? ⟨b, o, none⟩) :=
  ⟨fun b o h => hb.cell (p := ⟨b, o, none⟩) h, fun b o h => hb.frozen (p := ⟨b, o, none⟩) h⟩
def RowOfYes (w : World) (k : Nat) (e : Ending) (w' : World) : Prop := e = .returned (.tuple #[rowVal k, .bool true]) ∧ Below w.heap.size w w'
set_option maxHeartbeats 1000000 in
theorem rowOf_yes (k : Nat) (w : World) (h : 1 ≤ k) (h' : k ≤ 63) : Calls Tryz.prog 136 #[.int .i64 k] w (RowOfYes w k) := by
  have h1 : (1 : Int) ≤ (k : Int) := by omega
  have h2 : (k : Int) ≤ 63 := by omega
  obtain ⟨s0, hs0⟩ : ∃ s0, s0 = nameB k := ⟨_, rfl⟩
  obtain ⟨s1, hs1⟩ : ∃ s1, s1 = letB k := ⟨_, rfl⟩
  obtain ⟨s2, hs2⟩ : ∃ s2, s2 = aB k := ⟨_, rfl⟩
  obtain ⟨s3, hs3⟩ : ∃ s3, s3 = bB k := ⟨_, rfl⟩
  obtain ⟨s4, hs4⟩ : ∃ s4, s4 = cB k := ⟨_, rfl⟩
  have HR := Lib.hid (show rowVal k = .agg #[.string s0, .int .u8 s1, .int .u8 s2, .int .u8 s3, .int .u8 s4] by rw [hs0, hs1, hs2, hs3, hs4]; rfl)
  have HC := Lib.hid (fun (w : World) (g : Nat) h => (rows_cells (w := w) (g := g) h (k := k) (by omega)))
  rw [← hs0, ← hs1, ← hs2, ← hs3, ← hs4] at HC
  clear hs0 hs1 hs2 hs3 hs4
  have HZ := Lib.hid (show ∀ o : Obj, (w.alloc o).heap.size = w.heap.size + 1 from fun o => by simp)
  go_enter Tryz.func136, Tryz.ntmps136
  go_wp2_with (go_at_call 79; (with_reducible refine (rows_any _).mono ?_); rintro e w1 ⟨rfl, hg, hb⟩; rw [HZ.out] at hg; obtain ⟨c0, c1, c2, c3, c4⟩ := HC.out _ _ hg; have HB := Lib.hid hb; have zz := heap_lt hg; obtain ⟨q1, q2⟩ := bcell hb; rw [HZ.out] at q1 q2; clear hg hb)

  have e0 : w1.cell? ⟨w.heap.size, 0, none⟩ = some (.string ⟨#[]⟩) := by rw [q1 _ _ (by omega)]; exact new_cell _ _ _ _ _ _ rfl rfl
  have e1 : w1.cell? ⟨w.heap.size, 1, none⟩ = some (.int .u8 0) := by rw [q1 _ _ (by omega)]; exact new_cell _ _ _ _ _ _ rfl rfl
  have e2 : w1.cell? ⟨w.heap.size, 2, none⟩ = some (.int .u8 0) := by rw [q1 _ _ (by omega)]; exact new_cell _ _ _ _ _ _ rfl rfl
  have e3 : w1.cell? ⟨w.heap.size, 3, none⟩ = some (.int .u8 0) := by rw [q1 _ _ (by omega)]; exact new_cell _ _ _ _ _ _ rfl rfl
  have e4 : w1.cell? ⟨w.heap.size, 4, none⟩ = some (.int .u8 0) := by rw [q1 _ _ (by omega)]; exact new_cell _ _ _ _ _ _ rfl rfl
  exact bodyPost_ret (v := .tuple #[.agg #[.string s0, .int .u8 s1, .int .u8 s2, .int .u8 s3, .int .u8 s4], .bool true]) (by simp [results, Tryz.results136, go_sem, e0, e1, e2, e3, e4]) rfl ⟨by rw [HR.out],
    (((((((Below.refl _ _).alloc (Nat.le_refl _) _).trans (HB.out.mono (by simp))).setCell (p := ⟨w.heap.size, 0, none⟩) (Nat.le_refl _) _).setCell (p := ⟨w.heap.size, 1, none⟩) (Nat.le_refl _) _).setCell (p := ⟨w.heap.size, 2, none⟩) (Nat.le_refl _) _).setCell (p := ⟨w.heap.size, 3, none⟩) (Nat.le_refl _) _).setCell (p := ⟨w.heap.size, 4, none⟩) (Nat.le_refl _) _⟩
/-- The bits that a form's row has for its own, and where they stand. -/
def ownV (f : RvForm) (a b c : Int) : Int :=
  match f with
  | .R | .Y => bits .or .u32 (bits .or .u32 a (b * 4096)) (c * 33554432 % 4294967296)
  | .X => bits .or .u32 (bits .or .u32 a (b * 4096)) (c * 67108864 % 4294967296)
  | _ => bits .or .u32 a (b * 4096)
def maskV : RvForm → Int
  | .U | .J => 127
  | .I | .S | .B => 28799
  | .R | .Y => 4261441663
  | .X => 4227887231
  | .E => 4294967295
def OwnDone (w : World) (o m : Int) (e : Ending) (w' : World) : Prop := e = .returned (.tuple #[.int .u32 o, .int .u32 m]) ∧ Below w.heap.size w w'
theorem own_R (s : ByteArray) (a b c : Int) (w : World) (ha : 0 ≤ a) (ha' : a < 256) (hb : 0 ≤ b) (hb' : b < 256) (hc : 0 ≤ c) (hc' : c < 256) :
    Calls Tryz.prog 80 #[.agg #[.string s, .int .u8 82, .int .u8 a, .int .u8 b, .int .u8 c]] w (OwnDone w (ownV .R a b c) (maskV .R)) := by
  go_enter Tryz.func80, Tryz.ntmps80
  go_wp2
  go_ret2
  exact ⟨ret_int2 (by simp [ownV]) rfl, (Below.refl _ _).alloc (Nat.le_refl _) _⟩
theorem own_I (s : ByteArray) (a b c : Int) (w : World) (ha : 0 ≤ a) (ha' : a < 256) (hb : 0 ≤ b) (hb' : b < 256) (hc : 0 ≤ c) (hc' : c < 256) :
    Calls Tryz.prog 80 #[.agg #[.string s, .int .u8 73, .int .u8 a, .int .u8 b, .int .u8 c]] w (OwnDone w (ownV .I a b c) (maskV .I)) := by
  go_enter Tryz.func80, Tryz.ntmps80
  go_wp2
  go_ret2
  exact ⟨ret_int2 (by simp [ownV]) rfl, (Below.refl _ _).alloc (Nat.le_refl _) _⟩
theorem own_X (s : ByteArray) (a b c : Int) (w : World) (ha : 0 ≤ a) (ha' : a < 256) (hb : 0 ≤ b) (hb' : b < 256) (hc : 0 ≤ c) (hc' : c < 256) :
    Calls Tryz.prog 80 #[.agg #[.string s, .int .u8 88, .int .u8 a, .int .u8 b, .int .u8 c]] w (OwnDone w (ownV .X a b c) (maskV .X)) := by
  go_enter Tryz.func80, Tryz.ntmps80
  go_wp2
  go_ret2
  exact ⟨ret_int2 (by simp [ownV]) rfl, (Below.refl _ _).alloc (Nat.le_refl _) _⟩
theorem own_Y (s : ByteArray) (a b c : Int) (w : World) (ha : 0 ≤ a) (ha' : a < 256) (hb : 0 ≤ b) (hb' : b < 256) (hc : 0 ≤ c) (hc' : c < 256) :
    Calls Tryz.prog 80 #[.agg #[.string s, .int .u8 89, .int .u8 a, .int .u8 b, .int .u8 c]] w (OwnDone w (ownV .Y a b c) (maskV .Y)) := by
  go_enter Tryz.func80, Tryz.ntmps80
  go_wp2
  go_ret2
  exact ⟨ret_int2 (by simp [ownV]) rfl, (Below.refl _ _).alloc (Nat.le_refl _) _⟩
theorem own_S (s : ByteArray) (a b c : Int) (w : World) (ha : 0 ≤ a) (ha' : a < 256) (hb : 0 ≤ b) (hb' : b < 256) (hc : 0 ≤ c) (hc' : c < 256) :
    Calls Tryz.prog 80 #[.agg #[.string s, .int .u8 83, .int .u8 a, .int .u8 b, .int .u8 c]] w (OwnDone w (ownV .S a b c) (maskV .S)) := by
  go_enter Tryz.func80, Tryz.ntmps80
  go_wp2
  go_ret2
  exact ⟨ret_int2 (by simp [ownV]) rfl, (Below.refl _ _).alloc (Nat.le_refl _) _⟩
theorem own_B (s : ByteArray) (a b c : Int) (w : World) (ha : 0 ≤ a) (ha' : a < 256) (hb : 0 ≤ b) (hb' : b < 256) (hc : 0 ≤ c) (hc' : c < 256) :
    Calls Tryz.prog 80 #[.agg #[.string s, .int .u8 66, .int .u8 a, .int .u8 b, .int .u8 c]] w (OwnDone w (ownV .B a b c) (maskV .B)) := by
  go_enter Tryz.func80, Tryz.ntmps80
  go_wp2
  go_ret2
  exact ⟨ret_int2 (by simp [ownV]) rfl, (Below.refl _ _).alloc (Nat.le_refl _) _⟩
theorem own_U (s : ByteArray) (a b c : Int) (w : World) (ha : 0 ≤ a) (ha' : a < 256) (hb : 0 ≤ b) (hb' : b < 256) (hc : 0 ≤ c) (hc' : c < 256) :
    Calls Tryz.prog 80 #[.agg #[.string s, .int .u8 85, .int .u8 a, .int .u8 b, .int .u8 c]] w (OwnDone w (ownV .U a b c) (maskV .U)) := by
  go_enter Tryz.func80, Tryz.ntmps80
  go_wp2
  go_ret2
  exact ⟨ret_int2 (by simp [ownV]) rfl, (Below.refl _ _).alloc (Nat.le_refl _) _⟩
theorem own_J (s : ByteArray) (a b c : Int) (w : World) (ha : 0 ≤ a) (ha' : a < 256) (hb : 0 ≤ b) (hb' : b < 256) (hc : 0 ≤ c) (hc' : c < 256) :
    Calls Tryz.prog 80 #[.agg #[.string s, .int .u8 74, .int .u8 a, .int .u8 b, .int .u8 c]] w (OwnDone w (ownV .J a b c) (maskV .J)) := by
  go_enter Tryz.func80, Tryz.ntmps80
  go_wp2
  go_ret2
  exact ⟨ret_int2 (by simp [ownV]) rfl, (Below.refl _ _).alloc (Nat.le_refl _) _⟩
theorem own_E (s : ByteArray) (a b c : Int) (w : World) (ha : 0 ≤ a) (ha' : a < 256) (hb : 0 ≤ b) (hb' : b < 256) (hc : 0 ≤ c) (hc' : c < 256) :
    Calls Tryz.prog 80 #[.agg #[.string s, .int .u8 69, .int .u8 a, .int .u8 b, .int .u8 c]] w (OwnDone w (ownV .E a b c) (maskV .E)) := by
  go_enter Tryz.func80, Tryz.ntmps80
  go_wp2
  go_ret2
  exact ⟨ret_int2 (by simp [ownV]) rfl, (Below.refl _ _).alloc (Nat.le_refl _) _⟩
theorem own_0 (s : ByteArray) (w : World) : Calls Tryz.prog 80 #[.agg #[.string s, .int .u8 0, .int .u8 0, .int .u8 0, .int .u8 0]] w (OwnDone w 0 4294967295) := by
  go_enter Tryz.func80, Tryz.ntmps80
  go_wp2
  go_ret2
  exact ⟨ret_int2 rfl rfl, (Below.refl _ _).alloc (Nat.le_refl _) _⟩
theorem own_any (f : RvForm) (s : ByteArray) (a b c : Int) (w : World) (ha : 0 ≤ a) (ha' : a < 256) (hb : 0 ≤ b) (hb' : b < 256) (hc : 0 ≤ c) (hc' : c < 256) :
    Calls Tryz.prog 80 #[.agg #[.string s, .int .u8 f.letter, .int .u8 a, .int .u8 b, .int .u8 c]] w (OwnDone w (ownV f a b c) (maskV f)) := by
  cases f
  · exact own_R s a b c w ha ha' hb hb' hc hc'
  · exact own_I s a b c w ha ha' hb hb' hc hc'
  · exact own_X s a b c w ha ha' hb hb' hc hc'
  · exact own_Y s a b c w ha ha' hb hb' hc hc'
  · exact own_S s a b c w ha ha' hb hb' hc hc'
  · exact own_B s a b c w ha ha' hb hb' hc hc'
  · exact own_U s a b c w ha ha' hb hb' hc hc'
  · exact own_J s a b c w ha ha' hb hb' hc hc'
  · exact own_E s a b c w ha ha' hb hb' hc hc'
end Go.Proofs.YtnaceogkaiodnaaGreat

