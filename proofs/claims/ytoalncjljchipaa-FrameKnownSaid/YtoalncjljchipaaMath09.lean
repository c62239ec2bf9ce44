/- Plain arithmetic of frames: rounding to sixteen, sizes, places, and what pushing and popping make, with no Go in sight. -/
import Derived.WalkKit
import Derived.Test.YtoalncjljchipaaMath01
namespace Go.Proofs.Ytoalncjljchipaa
open Go.RowKit

/-- A number, rounded down and up to a multiple of sixteen. -/
def dnV (n : Int) : Int := n - n % 16
def upV (n : Int) : Int := (n + 15) / 16 * 16
theorem dn_up (n : Int) : dnV (n + 15) = upV n := by unfold dnV upV; omega
theorem dn_mul (n : Int) : dnV n = n / 16 * 16 := by unfold dnV; omega
/-- May a frame have so many registers, and such an area? -/
def fOk (r a : Int) : Bool := decide (0 ≤ r) && decide (r ≤ 64) && decide (0 ≤ a) && decide (a ≤ 4096)
def fsV (r a : Int) : Int := if fOk r a then upV (8 * r + a) else 0
def fsE (r a : Int) : Int := if fOk r a then 0 else 2
theorem fOk_iff {r a : Int} : fOk r a = true ↔ 0 ≤ r ∧ r ≤ 64 ∧ 0 ≤ a ∧ a ≤ 4096 := by
  unfold fOk
  simp only [Bool.and_eq_true, decide_eq_true_eq]
  omega
theorem fs_ok {r a : Int} (h1 : 0 ≤ r) (h2 : r ≤ 64) (h3 : 0 ≤ a) (h4 : a ≤ 4096) : fsV r a = upV (8 * r + a) ∧ fsE r a = 0 := by
  have := fOk_iff.2 ⟨h1, h2, h3, h4⟩
  unfold fsV fsE
  rw [this]
  exact ⟨rfl, rfl⟩
theorem fs_no {r a : Int} (h : r < 0 ∨ 64 < r ∨ a < 0 ∨ 4096 < a) : fsV r a = 0 ∧ fsE r a = 2 := by
  have : fOk r a = false := by
    cases hh : fOk r a with
    | false => rfl
    | true => have := fOk_iff.1 hh; omega
  unfold fsV fsE
  rw [this]
  exact ⟨rfl, rfl⟩
theorem fs_bd (r a : Int) : 0 ≤ fsV r a ∧ fsV r a ≤ 4608 ∧ fsV r a % 16 = 0 := by
  unfold fsV
  split
  · next h => have := fOk_iff.1 h; unfold upV; omega
  · omega
theorem fsE_or (r a : Int) : fsE r a = 0 ∨ fsE r a = 2 := by
  unfold fsE
  split <;> simp
/-- May a frame begin or end there? -/
def edgeV (x : Int) : Bool := decide (x % 16 = 0) && decide (x ≤ 65536)
theorem edge_iff {x : Int} : edgeV x = true ↔ x % 16 = 0 ∧ x ≤ 65536 := by
  unfold edgeV
  simp only [Bool.and_eq_true, decide_eq_true_eq]
/-- What pushing answers, and what popping answers. -/
def pushE (x r a f : Int) : Int := if fsE r a = 0 then (if edgeV x && edgeV f then (if x < f + fsV r a then 8 else 0) else 5) else 2
def pushV (x r a f : Int) : Int := if pushE x r a f = 0 then x - fsV r a else 0
def popE (x r a : Int) : Int := if fsE r a = 0 then (if edgeV x then 0 else 5) else 2
def popV (x r a : Int) : Int := if popE x r a = 0 then x + fsV r a else 0
def floorE (n : Int) : Int := if 0 ≤ n ∧ n ≤ 8192 then 0 else 2
def floorV (n : Int) : Int := if 0 ≤ n ∧ n ≤ 8192 then upV (16 + n) else 0
def topE (n : Int) : Int := if 16 ≤ n ∧ n ≤ 65536 then 0 else 2
def topV (n : Int) : Int := if 16 ≤ n ∧ n ≤ 65536 then dnV n else 0
def slotV (x n : Int) : Int := (x + n * 8) % 18446744073709551616
def areaV (x r n : Int) : Int := (x + r * 8 + n) % 18446744073709551616
end Go.Proofs.Ytoalncjljchipaa
