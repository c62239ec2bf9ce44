/- Plain arithmetic of numbers of 64 bits: what each function of two words is, said over whole numbers, with no Go in sight. No condition but the bounds that each lemma names. -/
import Derived.WalkKit
namespace Go.Proofs.Ytoalncjljchipaa
open Go.RowKit

theorem ret_int {k : IntKind} {a b : Int} (h : a = b) : Ending.returned (.int k a) = .returned (.int k b) := by rw [h]
theorem ret_int2 {k l : IntKind} {a b c d : Int} (h : a = b) (h' : c = d) : Ending.returned (.tuple #[.int k a, .int l c]) = .returned (.tuple #[.int k b, .int l d]) := by rw [h, h']
theorem ret_bool {a b : Bool} (h : a = b) : Ending.returned (.bool a) = .returned (.bool b) := by rw [h]

def sg (a : Int) : Int := if a < 9223372036854775808 then a else a - 18446744073709551616
def low0 (a b : Int) : Int := if a < 9223372036854775808 then 0 else b
def bitV (b : Bool) : Int := if b then 1 else 0
def mulhuV (a b : Int) : Int := a * b / 18446744073709551616
def mulhsuV (a b : Int) : Int := (mulhuV a b - low0 a b) % 18446744073709551616
def mulhV (a b : Int) : Int := ((mulhuV a b - low0 a b) % 18446744073709551616 - low0 b a) % 18446744073709551616
def divV (a b : Int) : Int := if b = 0 then 18446744073709551615 else (sg a).tdiv (sg b) % 18446744073709551616
def divuV (a b : Int) : Int := if b = 0 then 18446744073709551615 else a / b
def remV (a b : Int) : Int := if b = 0 then a else (sg a).tmod (sg b) % 18446744073709551616
def remuV (a b : Int) : Int := if b = 0 then a else a % b
def shlV (a : Int) (n : Nat) : Int := a * 2 ^ n % 18446744073709551616
def shrV (a : Int) (n : Nat) : Int := a / 2 ^ n
def sarV (a : Int) (n : Nat) : Int := sg a / 2 ^ n % 18446744073709551616
def doV (fn a b : Int) : Int :=
  if fn = 1 then (a + b) % 18446744073709551616 else if fn = 2 then (a - b) % 18446744073709551616 else if fn = 3 then a * b % 18446744073709551616
  else if fn = 4 then mulhV a b else if fn = 5 then mulhuV a b else if fn = 6 then mulhsuV a b
  else if fn = 7 then divV a b else if fn = 8 then divuV a b else if fn = 9 then remV a b else if fn = 10 then remuV a b
  else if fn = 11 then bits .and .u64 a b else if fn = 12 then bits .or .u64 a b else if fn = 13 then bits .xor .u64 a b
  else if fn = 14 then shlV a (b % 64).toNat else if fn = 15 then shrV a (b % 64).toNat else if fn = 16 then sarV a (b % 64).toNat
  else if fn = 17 then bitV (decide (sg a < sg b)) else if fn = 18 then bitV (decide (a < b)) else if fn = 19 then bitV (a == b) else if fn = 20 then bitV (!(a == b))
  else 0
def doE (fn : Int) : Int := if 1 ≤ fn ∧ fn ≤ 20 then 0 else 2

theorem doE_in {fn : Int} (h : 1 ≤ fn) (h' : fn ≤ 20) : doE fn = 0 := by unfold doE; rw [if_pos ⟨h, h'⟩]
theorem doE_out {fn : Int} (h : fn < 1 ∨ 20 < fn) : doE fn = 2 := by unfold doE; rw [if_neg (by omega)]
theorem doV_out {fn a b : Int} (h : fn < 1 ∨ 20 < fn) : doV fn a b = 0 := by
  unfold doV
  repeat rw [if_neg (by omega)]

theorem wrap64_sg {a : Int} (h : 0 ≤ a) (h' : a < 18446744073709551616) : wrap64 a = sg a := by
  unfold wrap64 sg
  split <;> omega
theorem sg_bd {a : Int} (h : 0 ≤ a) (h' : a < 18446744073709551616) : -9223372036854775808 ≤ sg a ∧ sg a < 9223372036854775808 := by
  unfold sg
  split <;> omega
theorem sg_mod {a : Int} (h : 0 ≤ a) (h' : a < 18446744073709551616) : sg a % 18446744073709551616 = a := by
  unfold sg
  split <;> omega
theorem sg_zero {a : Int} (h : 0 ≤ a) (h' : a < 18446744073709551616) (h0 : a ≠ 0) : sg a ≠ 0 := by
  unfold sg
  split <;> omega
theorem sg_of_mod {z : Int} (h : -9223372036854775808 ≤ z) (h' : z < 9223372036854775808) : sg (z % 18446744073709551616) = z := by
  unfold sg
  split <;> omega
theorem u64_wrap64 (z : Int) : wrap64 z % 18446744073709551616 = z % 18446744073709551616 := by
  unfold wrap64
  omega

theorem mulhu_bd {a b : Int} (ha : 0 ≤ a) (ha' : a < 18446744073709551616) (hb : 0 ≤ b) (hb' : b < 18446744073709551616) : 0 ≤ mulhuV a b ∧ mulhuV a b < 18446744073709551616 := by
  unfold mulhuV
  have h1 := Int.mul_nonneg ha hb
  have h2 : a * b ≤ 18446744073709551615 * 18446744073709551615 := Int.mul_le_mul (by omega) (by omega) hb (by omega)
  constructor
  · omega
  · omega

theorem ediv_bd {a b : Int} (ha : 0 ≤ a) (hb : 0 < b) : 0 ≤ a / b ∧ a / b ≤ a := ⟨Int.ediv_nonneg ha (by omega), Int.ediv_le_self b ha⟩
theorem emod_bd {a b : Int} (hb : 0 < b) : 0 ≤ a % b ∧ a % b < b := ⟨Int.emod_nonneg a (by omega), Int.emod_lt_of_pos a hb⟩

/-- What the document's way, by sizes and signs, makes of a division. -/
def magV (a : Int) : Int := if a < 9223372036854775808 then a else 18446744073709551616 - a
theorem mag_bd {a : Int} (h : 0 ≤ a) (h' : a < 18446744073709551616) : 0 ≤ magV a ∧ magV a ≤ 9223372036854775808 := by
  unfold magV
  split <;> omega
theorem sg_mag {a : Int} : sg a = if a < 9223372036854775808 then magV a else - magV a := by
  unfold sg magV
  split <;> omega
theorem divV_same {a b : Int} (ha : 0 ≤ a) (ha' : a < 18446744073709551616) (hb : 0 < b) (hb' : b < 18446744073709551616) (hs : (a < 9223372036854775808) = (b < 9223372036854775808)) :
    divV a b = magV a / magV b := by
  have h1 := mag_bd ha ha'
  have h2 := mag_bd (a := b) (by omega) hb'
  have h3 : 0 < magV b := by unfold magV; split <;> omega
  have h4 := ediv_bd h1.1 h3
  unfold divV
  rw [if_neg (by omega), sg_mag, sg_mag]
  by_cases hc : b < 9223372036854775808
  · rw [if_pos hc, if_pos (by rw [hs]; exact hc), Int.tdiv_eq_ediv_of_nonneg h1.1]; omega
  · rw [if_neg hc, if_neg (by rw [hs]; exact hc), Int.neg_tdiv, Int.tdiv_neg, Int.tdiv_eq_ediv_of_nonneg h1.1]; omega
theorem divV_other {a b : Int} (ha : 0 ≤ a) (ha' : a < 18446744073709551616) (hb : 0 < b) (hb' : b < 18446744073709551616) (hs : (a < 9223372036854775808) ≠ (b < 9223372036854775808)) :
    divV a b = (0 - magV a / magV b) % 18446744073709551616 := by
  have h1 := mag_bd ha ha'
  unfold divV
  rw [if_neg (by omega), sg_mag, sg_mag]
  by_cases hc : b < 9223372036854775808
  · have hd : ¬ a < 9223372036854775808 := fun h => hs (by simp [h, hc])
    rw [if_pos hc, if_neg hd, Int.neg_tdiv, Int.tdiv_eq_ediv_of_nonneg h1.1]; omega
  · have hd : a < 9223372036854775808 := by
      apply Classical.byContradiction
      intro h
      exact hs (by simp [h, hc])
    rw [if_neg hc, if_pos hd, Int.tdiv_neg, Int.tdiv_eq_ediv_of_nonneg h1.1]; omega
theorem remV_up {a b : Int} (ha : 0 ≤ a) (ha' : a < 9223372036854775808) (hb : 0 < b) (hb' : b < 18446744073709551616) : remV a b = magV a % magV b := by
  have h1 := mag_bd ha (by omega)
  have h2 := mag_bd (a := b) (by omega) hb'
  have h3 : 0 < magV b := by unfold magV; split <;> omega
  have h4 := emod_bd (a := magV a) h3
  unfold remV
  rw [if_neg (by omega), sg_mag, sg_mag, if_pos ha']
  by_cases hc : b < 9223372036854775808
  · rw [if_pos hc, Int.tmod_eq_emod_of_nonneg h1.1]; omega
  · rw [if_neg hc, Int.tmod_neg, Int.tmod_eq_emod_of_nonneg h1.1]; omega
theorem remV_down {a b : Int} (ha : 9223372036854775808 ≤ a) (ha' : a < 18446744073709551616) (hb : 0 < b) (hb' : b < 18446744073709551616) : remV a b = (0 - magV a % magV b) % 18446744073709551616 := by
  have h1 := mag_bd (a := a) (by omega) (by omega)
  unfold remV
  rw [if_neg (by omega), sg_mag, sg_mag, if_neg (by omega)]
  by_cases hc : b < 9223372036854775808
  · rw [if_pos hc, Int.neg_tmod, Int.tmod_eq_emod_of_nonneg h1.1]; omega
  · rw [if_neg hc, Int.neg_tmod, Int.tmod_neg, Int.tmod_eq_emod_of_nonneg h1.1]; omega
theorem minus_mag {a : Int} (h : 9223372036854775808 ≤ a) (h' : a < 18446744073709551616) : (0 - a) % 18446744073709551616 = magV a := by
  unfold magV
  rw [if_neg (by omega)]
  omega
theorem mag_up {a : Int} (h : a < 9223372036854775808) : magV a = a := by unfold magV; rw [if_pos h]
theorem mag_pos {a : Int} (h : 0 < a) (h' : a < 18446744073709551616) : 0 < magV a := by unfold magV; split <;> omega

theorem divV_bd {a b : Int} : 0 ≤ divV a b ∧ divV a b < 18446744073709551616 := by
  unfold divV
  split
  · omega
  · omega
theorem remV_bd {a b : Int} (ha : 0 ≤ a) (ha' : a < 18446744073709551616) : 0 ≤ remV a b ∧ remV a b < 18446744073709551616 := by
  unfold remV
  split
  · omega
  · omega
theorem divuV_bd {a b : Int} (ha : 0 ≤ a) (ha' : a < 18446744073709551616) (hb : 0 ≤ b) : 0 ≤ divuV a b ∧ divuV a b < 18446744073709551616 := by
  unfold divuV
  split
  · omega
  · have := ediv_bd ha (show 0 < b by omega); omega
theorem remuV_bd {a b : Int} (ha : 0 ≤ a) (ha' : a < 18446744073709551616) (hb : 0 ≤ b) (hb' : b < 18446744073709551616) : 0 ≤ remuV a b ∧ remuV a b < 18446744073709551616 := by
  unfold remuV
  split
  · omega
  · have := emod_bd (a := a) (show 0 < b by omega); omega

theorem pow_pos' (n : Nat) : (0 : Int) < 2 ^ n := Int.pow_pos (by omega)
theorem shrV_zero (a : Int) : shrV a 0 = a := by unfold shrV; simp
theorem shrV_succ (a : Int) (n : Nat) : shrV a (n + 1) = shrV a n / 2 := by
  unfold shrV
  rw [Int.pow_succ, Int.ediv_mul_of_nonneg (by have := pow_pos' n; omega)]
theorem shrV_bd {a : Int} (ha : 0 ≤ a) (n : Nat) : 0 ≤ shrV a n ∧ shrV a n ≤ a := ediv_bd ha (pow_pos' n)
theorem shlV_zero {a : Int} (h : 0 ≤ a) (h' : a < 18446744073709551616) : shlV a 0 = a := by unfold shlV; simp; omega
theorem shlV_succ (a : Int) (n : Nat) : shlV a (n + 1) = shlV a n * 2 % 18446744073709551616 := by
  unfold shlV
  rw [Int.pow_succ, ← Int.mul_assoc]
  generalize a * 2 ^ n = x
  omega
theorem shlV_bd (a : Int) (n : Nat) : 0 ≤ shlV a n ∧ shlV a n < 18446744073709551616 := by unfold shlV; omega
theorem sarV_zero {a : Int} (h : 0 ≤ a) (h' : a < 18446744073709551616) : sarV a 0 = a := by
  unfold sarV
  rw [Int.pow_zero, Int.ediv_one, sg_mod h h']
theorem sg_shr_bd {a : Int} (h : 0 ≤ a) (h' : a < 18446744073709551616) (n : Nat) : -9223372036854775808 ≤ sg a / 2 ^ n ∧ sg a / 2 ^ n < 9223372036854775808 := by
  have hb := sg_bd h h'
  have hp := pow_pos' n
  constructor
  · rw [Int.le_ediv_iff_mul_le hp]
    have : (1 : Int) ≤ 2 ^ n := hp
    have := Int.mul_le_mul_of_nonneg_left this (show (0 : Int) ≤ 9223372036854775808 by omega)
    omega
  · rw [Int.ediv_lt_iff_lt_mul hp]
    have : (1 : Int) ≤ 2 ^ n := hp
    have := Int.mul_le_mul_of_nonneg_left this (show (0 : Int) ≤ 9223372036854775808 by omega)
    omega
theorem sarV_succ {a : Int} (h : 0 ≤ a) (h' : a < 18446744073709551616) (n : Nat) :
    sarV a (n + 1) = sarV a n / 2 + sarV a n / 9223372036854775808 * 9223372036854775808 := by
  have hb := sg_shr_bd h h' n
  unfold sarV
  rw [Int.pow_succ, Int.ediv_mul_of_nonneg (by have := pow_pos' n; omega)]
  generalize sg a / 2 ^ n = z at *
  omega
theorem sarV_bd (a : Int) (n : Nat) : 0 ≤ sarV a n ∧ sarV a n < 18446744073709551616 := by unfold sarV; omega
theorem bitV_bd (b : Bool) : 0 ≤ bitV b ∧ bitV b ≤ 1 := by cases b <;> simp [bitV]

theorem mulhV_bd (a b : Int) : 0 ≤ mulhV a b ∧ mulhV a b < 18446744073709551616 := by unfold mulhV; omega
theorem mulhsuV_bd (a b : Int) : 0 ≤ mulhsuV a b ∧ mulhsuV a b < 18446744073709551616 := by unfold mulhsuV; omega
theorem bits_bd (o : BinOp) (a b : Int) : 0 ≤ bits o .u64 a b ∧ bits o .u64 a b < 18446744073709551616 := by
  unfold bits
  simp only [IntKind.wrap_u64]
  omega

def inW (v : Int) : Prop := 0 ≤ v ∧ v < 18446744073709551616
theorem inW_ite {c : Prop} [Decidable c] {x y : Int} (h : inW x) (h' : inW y) : inW (if c then x else y) := by
  by_cases hc : c
  · rw [if_pos hc]; exact h
  · rw [if_neg hc]; exact h'
theorem inW_bit (b : Bool) : inW (bitV b) := by cases b <;> simp [inW, bitV]
theorem doV_bd {fn a b : Int} (ha : 0 ≤ a) (ha' : a < 18446744073709551616) (hb : 0 ≤ b) (hb' : b < 18446744073709551616) : 0 ≤ doV fn a b ∧ doV fn a b < 18446744073709551616 := by
  show inW (doV fn a b)
  unfold doV
  repeat' (with_reducible refine inW_ite ?_ ?_)
  all_goals first
    | exact mulhV_bd _ _ | exact mulhsuV_bd _ _ | exact bits_bd _ _ _ | exact divV_bd | exact remV_bd ha ha' | exact divuV_bd ha ha' hb | exact remuV_bd ha ha' hb hb' | exact mulhu_bd ha ha' hb hb' | exact shlV_bd _ _ | exact sarV_bd _ _
    | exact inW_bit _ | (have := shrV_bd ha (b % 64).toNat; exact ⟨this.1, by omega⟩) | (unfold inW; omega)

def zextV (a s : Int) : Int := if s = 1 then a % 256 else if s = 2 then a % 65536 else if s = 4 then a % 4294967296 else if s = 8 then a else 0
def sext1 (z top : Int) : Int := if z < top then z else z + 18446744073709551616 - 2 * top
def sextV (a s : Int) : Int := if s = 1 then sext1 (a % 256) 128 else if s = 2 then sext1 (a % 65536) 32768 else if s = 4 then sext1 (a % 4294967296) 2147483648 else if s = 8 then a else 0
def sizedB (s : Int) : Bool := s == 1 || s == 2 || s == 4 || s == 8
theorem sized_cases {s : Int} (h : sizedB s = true) : s = 1 ∨ s = 2 ∨ s = 4 ∨ s = 8 := by simpa [sizedB, or_assoc] using h
theorem sized_not {s : Int} (h : sizedB s = false) : s ≠ 1 ∧ s ≠ 2 ∧ s ≠ 4 ∧ s ≠ 8 := by simpa [sizedB, and_assoc] using h
theorem zextV_not {a s : Int} (h : sizedB s = false) : zextV a s = 0 := by
  have := sized_not h
  unfold zextV
  repeat rw [if_neg (by omega)]
theorem sextV_not {a s : Int} (h : sizedB s = false) : sextV a s = 0 := by
  have := sized_not h
  unfold sextV
  repeat rw [if_neg (by omega)]
theorem zextV_1 (a : Int) : zextV a 1 = a % 256 := by simp [zextV]
theorem zextV_2 (a : Int) : zextV a 2 = a % 65536 := by simp [zextV]
theorem zextV_4 (a : Int) : zextV a 4 = a % 4294967296 := by simp [zextV]
theorem zextV_8 (a : Int) : zextV a 8 = a := by simp [zextV]
theorem sextV_1 (a : Int) : sextV a 1 = sext1 (a % 256) 128 := by simp [sextV]
theorem sextV_2 (a : Int) : sextV a 2 = sext1 (a % 65536) 32768 := by simp [sextV]
theorem sextV_4 (a : Int) : sextV a 4 = sext1 (a % 4294967296) 2147483648 := by simp [sextV]
theorem sextV_8 (a : Int) : sextV a 8 = a := by simp [sextV]
theorem zextV_bd {a s : Int} (h : 0 ≤ a) (h' : a < 18446744073709551616) : 0 ≤ zextV a s ∧ zextV a s < 18446744073709551616 := by
  unfold zextV
  repeat' split
  all_goals omega
theorem sextV_bd {a s : Int} (h : 0 ≤ a) (h' : a < 18446744073709551616) : 0 ≤ sextV a s ∧ sextV a s < 18446744073709551616 := by
  unfold sextV sext1
  repeat' split
  all_goals omega

/-- What the functions of the low halves are: the first and the second number that each takes, and which have them. -/
def halfB (fn : Int) : Bool := fn == 1 || fn == 2 || fn == 3 || fn == 7 || fn == 8 || fn == 9 || fn == 10 || fn == 14 || fn == 15 || fn == 16
def halfX (fn a : Int) : Int := if fn = 7 ∨ fn = 9 ∨ fn = 16 then sextV a 4 else zextV a 4
def halfY (fn b : Int) : Int := if fn = 7 ∨ fn = 9 then sextV b 4 else if fn = 14 ∨ fn = 15 ∨ fn = 16 then b % 32 else zextV b 4
def halfV (fn a b : Int) : Int := if halfB fn = true then sextV (doV fn (halfX fn a) (halfY fn b)) 4 else 0
def halfE (fn : Int) : Int := if halfB fn = true then 0 else 2
theorem half_cases {fn : Int} (h : halfB fn = true) : fn = 1 ∨ fn = 2 ∨ fn = 3 ∨ fn = 7 ∨ fn = 8 ∨ fn = 9 ∨ fn = 10 ∨ fn = 14 ∨ fn = 15 ∨ fn = 16 := by simpa [halfB, or_assoc] using h
theorem half_not {fn : Int} (h : halfB fn = false) : fn ≠ 1 ∧ fn ≠ 2 ∧ fn ≠ 3 ∧ fn ≠ 7 ∧ fn ≠ 8 ∧ fn ≠ 9 ∧ fn ≠ 10 ∧ fn ≠ 14 ∧ fn ≠ 15 ∧ fn ≠ 16 := by simpa [halfB, and_assoc] using h
theorem do_cases {fn : Int} (h : 1 ≤ fn) (h' : fn ≤ 20) : fn = 1 ∨ fn = 2 ∨ fn = 3 ∨ fn = 4 ∨ fn = 5 ∨ fn = 6 ∨ fn = 7 ∨ fn = 8 ∨ fn = 9 ∨ fn = 10 ∨ fn = 11 ∨ fn = 12 ∨ fn = 13 ∨ fn = 14 ∨ fn = 15 ∨ fn = 16 ∨ fn = 17 ∨ fn = 18 ∨ fn = 19 ∨ fn = 20 := by omega

end Go.Proofs.Ytoalncjljchipaa
