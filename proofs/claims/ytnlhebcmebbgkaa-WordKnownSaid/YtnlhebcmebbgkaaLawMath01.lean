/- What the statements on divisions, products and moves come to, over whole numbers, with no Go in sight. -/
import Derived.Test.YtnlhebcmebbgkaaMath01
namespace Go.Proofs.Ytnlhebcmebbgkaa
open Go.RowKit

theorem do7 (x y : Int) : doV 7 x y = divV x y := by simp [doV]
theorem do8 (x y : Int) : doV 8 x y = divuV x y := by simp [doV]
theorem do9 (x y : Int) : doV 9 x y = remV x y := by simp [doV]
theorem do10 (x y : Int) : doV 10 x y = remuV x y := by simp [doV]
theorem divu_back {x y : Int} (hx : 0 ≤ x) (hx' : x < 18446744073709551616) (hy : 0 < y) :
    IntKind.u64.wrap (IntKind.u64.wrap (doV 8 x y * y) + doV 10 x y) = x := by
  rw [do8, do10]
  unfold divuV remuV
  rw [if_neg (by omega), if_neg (by omega)]
  have h := Int.mul_ediv_add_emod x y
  have hc : y * (x / y) = x / y * y := Int.mul_comm _ _
  have h1 := Int.ediv_nonneg hx (by omega : 0 ≤ y)
  have h2 := Int.emod_nonneg x (by omega : y ≠ 0)
  have h3 := Int.mul_nonneg h1 (by omega : 0 ≤ y)
  rw [hc] at h
  simp only [IntKind.wrap_u64]
  generalize x / y * y = p at *
  omega
theorem divu_rest {x y : Int} (hy : 0 < y) : doV 10 x y < y := by
  rw [do10]
  unfold remuV
  rw [if_neg (by omega)]
  exact Int.emod_lt_of_pos x hy
theorem div_back {x y : Int} (hx : 0 ≤ x) (hx' : x < 18446744073709551616) (hy : 0 < y) :
    IntKind.u64.wrap (IntKind.u64.wrap (doV 7 x y * y) + doV 9 x y) = x := by
  rw [do7, do9]
  unfold divV remV
  rw [if_neg (by omega), if_neg (by omega)]
  have h := Int.mul_tdiv_add_tmod (sg x) (sg y)
  generalize (sg x).tdiv (sg y) = p at *
  generalize (sg x).tmod (sg y) = m at *
  have hp : p % 18446744073709551616 * y = p * y - 18446744073709551616 * (p / 18446744073709551616 * y) := by
    rw [Int.emod_def, Int.sub_mul, Int.mul_assoc]
  have hyy : sg y * p = p * y ∨ sg y * p = p * y - 18446744073709551616 * p := by
    unfold sg
    split
    · left; exact Int.mul_comm _ _
    · right; rw [Int.sub_mul, Int.mul_comm y p]
  have hxx : sg x = x ∨ sg x = x - 18446744073709551616 := by
    unfold sg
    split
    · exact .inl rfl
    · exact .inr rfl
  simp only [IntKind.wrap_u64]
  rw [hp]
  generalize p / 18446744073709551616 * y = k at *
  generalize p * y = a at *
  generalize sg y * p = b at *
  omega
/-- The rest of a signed division: how far from 0, and its sign. -/
theorem rem_size {x y : Int} (hx : 0 ≤ x) (hx' : x < 18446744073709551616) (hy : 0 < y) (hy' : y < 18446744073709551616) :
    magV (doV 9 x y) < magV y ∧ (doV 9 x y = 0 ∨ ((9223372036854775808 ≤ doV 9 x y) ↔ (9223372036854775808 ≤ x))) := by
  rw [do9]
  have h2 := mag_bd (a := y) (by omega) hy'
  have h3 := mag_pos hy hy'
  by_cases hc : x < 9223372036854775808
  · rw [remV_up hx hc hy hy']
    have h4 := emod_bd (a := magV x) h3
    generalize magV x % magV y = m at *
    refine ⟨by rw [mag_up (by omega)]; omega, .inr ⟨fun h => by omega, fun h => by omega⟩⟩
  · rw [remV_down (by omega) hx' hy hy']
    have h4 := emod_bd (a := magV x) h3
    generalize magV x % magV y = m at *
    by_cases h0 : m = 0
    · subst h0
      refine ⟨by rw [mag_up (by omega)]; omega, .inl (by omega)⟩
    · have e : (0 - m) % 18446744073709551616 = 18446744073709551616 - m := by omega
      rw [e]
      refine ⟨?_, .inr ⟨fun h => by omega, fun h => by omega⟩⟩
      unfold magV
      rw [if_neg (by omega)]
      have : (if y < 9223372036854775808 then y else 18446744073709551616 - y) = magV y := rfl
      rw [this]
      omega

theorem do3 (x y : Int) : doV 3 x y = x * y % 18446744073709551616 := by simp [doV]
theorem do4 (x y : Int) : doV 4 x y = mulhV x y := by simp [doV]
theorem do5 (x y : Int) : doV 5 x y = mulhuV x y := by simp [doV]
theorem do6 (x y : Int) : doV 6 x y = mulhsuV x y := by simp [doV]
theorem mul_turn (x y : Int) : doV 3 y x = doV 3 x y := by rw [do3, do3, Int.mul_comm]
theorem mulhu_turn (x y : Int) : doV 5 y x = doV 5 x y := by rw [do5, do5]; unfold mulhuV; rw [Int.mul_comm]
theorem mulh_turn (x y : Int) : doV 4 y x = doV 4 x y := by
  rw [do4, do4]
  unfold mulhV mulhuV
  rw [Int.mul_comm y x]
  omega
theorem mul_more (x y : Int) : doV 3 x (y + 1) = IntKind.u64.wrap (doV 3 x y + x) := by
  rw [do3, do3, IntKind.wrap_u64, Int.mul_add, Int.mul_one]
  generalize x * y = p
  omega
theorem mulhu_more {x y : Int} (hx : 0 ≤ x) (hx' : x < 18446744073709551616) (hy : 0 ≤ y) (hy' : y < 18446744073709551615) :
    doV 5 x (y + 1) = IntKind.u64.wrap (doV 5 x y + if IntKind.u64.wrap (doV 3 x y + x) < doV 3 x y then 1 else 0) := by
  have hb := mulhu_bd hx hx' (b := y + 1) (by omega) (by omega)
  rw [do3, do5, do5, IntKind.wrap_u64, IntKind.wrap_u64]
  unfold mulhuV at *
  rw [Int.mul_add, Int.mul_one] at *
  have h0 := Int.mul_nonneg hx hy
  generalize x * y = p at *
  split <;> omega
theorem mulhu_zero (x : Int) : doV 5 x 0 = 0 := by rw [do5]; unfold mulhuV; simp
theorem mulhsu_is {x y : Int} (hx : 0 ≤ x) (hx' : x < 18446744073709551616) (hy : 0 ≤ y) (hy' : y < 18446744073709551616) :
    doV 6 x y = if x < 9223372036854775808 then doV 5 x y else IntKind.u64.wrap (doV 5 x y - y) := by
  have hb := mulhu_bd hx hx' hy hy'
  rw [do6, do5, IntKind.wrap_u64]
  unfold mulhsuV low0
  split
  · omega
  · rfl
theorem mulh_is (x y : Int) :
    doV 4 x y = if y < 9223372036854775808 then doV 6 x y else IntKind.u64.wrap (doV 6 x y - x) := by
  rw [do6, do4, IntKind.wrap_u64]
  unfold mulhV mulhsuV
  generalize mulhuV x y - low0 x y = q
  unfold low0
  split
  · omega
  · rfl
end Go.Proofs.Ytnlhebcmebbgkaa
