/- Bytes and the numbers that they are: plain mathematics. -/
import Derived.Test.YtobbjphpngckgaaPutGet
namespace Go.Proofs.Ytobbjphpngckgaa
open Go.RowKit
set_option linter.unusedVariables false

theorem emod_split (a : Int) {p : Int} (hp : 0 < p) : a % (p * 256) = a % p + a / p % 256 * p := by
  have h1 := Int.mul_ediv_add_emod a p
  have h2 := Int.mul_ediv_add_emod (a / p) 256
  have h3 := Int.emod_nonneg a (by omega : p ≠ 0)
  have h4 := Int.emod_lt_of_pos a hp
  have h5 : 0 ≤ a / p % 256 ∧ a / p % 256 < 256 := by omega
  generalize a % p = r at *
  generalize hq : a / p = q at *
  generalize q % 256 = d at *
  generalize q / 256 = k at *
  have e : a = (r + d * p) + p * 256 * k := by rw [← h1, ← h2]; grind
  have hd : d * p ≤ 255 * p := Int.mul_le_mul_of_nonneg_right (by omega) (by omega)
  have hd0 : 0 ≤ d * p := Int.mul_nonneg h5.1 (by omega)
  rw [e, Int.add_mul_emod_self_left, Int.emod_eq_of_lt (by omega) (by omega)]
theorem numV_bytesV (a : Int) : ∀ n : Nat, numV (bytesV a n) = a % 256 ^ n
  | 0 => by simp [bytesV, numV]
  | n + 1 => by
    rw [bytesV_succ, numV_snoc, numV_bytesV a n, bytesV_len, Int.pow_succ, emod_split a (Int.pow_pos (by omega))]
    rfl
theorem bytesV_cons (a : Int) (n : Nat) : bytesV a (n + 1) = a % 256 :: bytesV (a / 256) n := by
  unfold bytesV
  rw [List.range_succ_eq_map, List.map_cons, List.map_map]
  have h0 : byteV a 0 = a % 256 := by unfold byteV; simp
  rw [h0]
  congr 1
  apply List.map_congr_left
  intro k _
  show byteV a (k + 1) = byteV (a / 256) k
  unfold byteV
  rw [Int.pow_succ, Int.mul_comm, Int.ediv_mul_of_nonneg (by omega)]
theorem bytesV_numV : ∀ xs : List Int, (∀ x ∈ xs, 0 ≤ x ∧ x < 256) → bytesV (numV xs) xs.length = xs
  | [], _ => rfl
  | x :: xs, h => by
    have hx := h x (by simp)
    rw [List.length_cons, bytesV_cons]
    have e1 : numV (x :: xs) % 256 = x := by simp only [numV]; omega
    have e2 : numV (x :: xs) / 256 = numV xs := by simp only [numV]; omega
    rw [e1, e2, bytesV_numV xs (fun y hy => h y (by simp [hy]))]

theorem numV_inj {xs ys : List Int} (hl : xs.length = ys.length) (hx : ∀ x ∈ xs, 0 ≤ x ∧ x < 256) (hy : ∀ x ∈ ys, 0 ≤ x ∧ x < 256) (h : numV xs = numV ys) : xs = ys := by
  rw [← bytesV_numV xs hx, ← bytesV_numV ys hy, h, hl]
end Go.Proofs.Ytobbjphpngckgaa
