/- Bytes and the numbers that they are: plain mathematics. -/
import Derived.Test.YthcefpakjkojgaaPutGet
import Derived.Test.YthcefpakjkojgaaMemF
namespace Go.Proofs.Ythcefpakjkojgaa
open Go.RowKit
set_option linter.unusedVariables false

theorem emod_split (a : Int) {p : Int} (hp : 0 < p) : a % (p * 256) = a % p + a / p % 256 * p := by
  have h1 := Int.mul_ediv_add_emod a p
  have h2 := Int.mul_ediv_add_emod (a / p) 256
  have h3 := Int.emod_nonneg a (by omega : p ≠ 0)
  have h4 := Int.emod_lt_of_pos a hp
  have h5 : 0 ≤ a / p % 256 ∧ a / p % 256 < 256 := by omega
  generalize a % p = r at *
  generalize hq : a / p = q at *
  generalize q % 256 = d at *
  generalize q / 256 = k at *
  have e : a = (r + d * p) + p * 256 * k := by rw [← h1, ← h2]; grind
  have hd : d * p ≤ 255 * p := Int.mul_le_mul_of_nonneg_right (by omega) (by omega)
  have hd0 : 0 ≤ d * p := Int.mul_nonneg h5.1 (by omega)
  rw [e, Int.add_mul_emod_self_left, Int.emod_eq_of_lt (by omega) (by omega)]
theorem numV_bytesV (a : Int) : ∀ n : Nat, numV (bytesV a n) = a % 256 ^ n
  | 0 => by simp [bytesV, numV]
  | n + 1 => by
    rw [bytesV_succ, numV_snoc, numV_bytesV a n, bytesV_len, Int.pow_succ, emod_split a (Int.pow_pos (by omega))]
    rfl
theorem bytesV_cons (a : Int) (n : Nat) : bytesV a (n + 1) = a % 256 :: bytesV (a / 256) n := by
  unfold bytesV
  rw [List.range_succ_eq_map, List.map_cons, List.map_map]
  have h0 : byteV a 0 = a % 256 := by unfold byteV; simp
  rw [h0]
  congr 1
  apply List.map_congr_left
  intro k _
  show byteV a (k + 1) = byteV (a / 256) k
  unfold byteV
  rw [Int.pow_succ, Int.mul_comm, Int.ediv_mul_of_nonneg (by omega)]
theorem bytesV_numV : ∀ xs : List Int, (∀ x ∈ xs, 0 ≤ x ∧ x < 256) → bytesV (numV xs) xs.length = xs
  | [], _ => rfl
  | x :: xs, h => by
    have hx := h x (by simp)
    rw [List.length_cons, bytesV_cons]
    have e1 : numV (x :: xs) % 256 = x := by simp only [numV]; omega
    have e2 : numV (x :: xs) / 256 = numV xs := by simp only [numV]; omega
    rw [e1, e2, bytesV_numV xs (fun y hy => h y (by simp [hy]))]

theorem numV_inj {xs ys : List Int} (hl : xs.length = ys.length) (hx : ∀ x ∈ xs, 0 ≤ x ∧ x < 256) (hy : ∀ x ∈ ys, 0 ≤ x ∧ x < 256) (h : numV xs = numV ys) : xs = ys := by
  rw [← bytesV_numV xs hx, ← bytesV_numV ys hy, h, hl]
theorem layL_part {xs ys : List Int} {a : Nat} (h : a + ys.length ≤ xs.length) : partL (layL xs a ys) a ys.length = ys := by
  have h1 : (xs.take a).length = a := by simp; omega
  unfold partL layL
  simp only [Int.toNat_natCast]
  rw [List.drop_append_of_le_length (by omega), List.drop_of_length_le (by omega), List.nil_append]
  rw [List.take_append_of_le_length (by omega), List.take_of_length_le (by omega)]
theorem layL_self {xs : List Int} {a n : Nat} (h : a + n ≤ xs.length) : layL xs a (partL xs a n) = xs := by
  have hl := partL_len h
  unfold layL
  rw [hl, partL_nat]
  rw [← List.drop_drop, List.take_append_drop, List.take_append_drop]
theorem layL_same {xs ys : List Int} {a : Nat} (h : a + ys.length ≤ xs.length) : (layL xs a ys == xs) = (ys == partL xs a ys.length) := by
  rw [Bool.eq_iff_iff, beq_iff_eq, beq_iff_eq]
  constructor
  · intro e
    rw [← congrArg (fun l => partL l a ys.length) e]
    exact (layL_part h).symm
  · intro e
    have h2 := layL_self h
    rw [← e] at h2
    exact h2
theorem partL_bd {xs : List Int} (h : ∀ x ∈ xs, 0 ≤ x ∧ x < 256) (a n : Int) : ∀ x ∈ partL xs a n, 0 ≤ x ∧ x < 256 :=
  fun x hx => h x (List.mem_of_mem_drop (List.mem_of_mem_take hx))
theorem numV_beq {xs ys : List Int} (hl : xs.length = ys.length) (hx : ∀ x ∈ xs, 0 ≤ x ∧ x < 256) (hy : ∀ x ∈ ys, 0 ≤ x ∧ x < 256) : (xs == ys) = (numV xs == numV ys) := by
  rw [Bool.eq_iff_iff, beq_iff_eq, beq_iff_eq]
  exact ⟨fun h => by rw [h], numV_inj hl hx hy⟩
theorem cutV_num {v : Int} {n : Nat} (hv : 0 ≤ v) (hv' : v < 18446744073709551616) (hs : sizedB n = true) : cutV v n = numV (bytesV v n) := by
  rw [numV_bytesV]
  have hn : n = 1 ∨ n = 2 ∨ n = 4 ∨ n = 8 := by rcases sized_cases hs with h | h | h | h <;> omega
  rcases hn with rfl | rfl | rfl | rfl
  · simp [cutV]
  · simp [cutV]
  · simp [cutV]
  · simp [cutV]
    omega
theorem getD_lay {xs ys : List Int} {a i : Nat} (ha : a + ys.length ≤ xs.length) : (layL xs a ys).getD i 0 = if i < a then xs.getD i 0 else if i < a + ys.length then ys.getD (i - a) 0 else xs.getD i 0 := by
  have h1 : (xs.take a).length = a := by simp; omega
  unfold layL
  simp only [List.getD_eq_getElem?_getD]
  by_cases c1 : i < a
  · rw [if_pos c1, List.getElem?_append_left (by omega), List.getElem?_take, if_pos c1]
  · rw [if_neg c1, List.getElem?_append_right (by omega), h1]
    by_cases c2 : i < a + ys.length
    · rw [if_pos c2, List.getElem?_append_left (by omega)]
    · rw [if_neg c2, List.getElem?_append_right (by omega), List.getElem?_drop]
      congr 2
      omega
theorem getD_part {xs : List Int} {a n i : Nat} (hi : i < n) : (partL xs a n).getD i 0 = xs.getD (a + i) 0 := by
  rw [partL_nat]
  simp [List.getD_eq_getElem?_getD, hi]
end Go.Proofs.Ythcefpakjkojgaa
