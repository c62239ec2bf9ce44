/- What twinshaftkit.Pick returns: a number from 0 on that is less than the second one, for any first number and any second one that is above 0 and below a million; memory stays as it was. -/

import Derived.Test.YtfdblmjgpoocpaaGreatS01
import Derived.WalkKit
import Derived.WalkSpells
import Derived.WalkLawsBesides
import Derived.ProofKit
import Derived.Lib.Hide
namespace Go.Proofs.YtfdblmjgpoocpaaGreat
open Go.RowKit
set_option linter.unusedVariables false

/-- The choice that a number says. -/
def pkV (x n : Int) : Int := (x.tmod n + n).tmod n
theorem pk_bd (x : Int) {n : Int} (hn : 0 < n) : 0 ≤ pkV x n ∧ pkV x n < n := by
  unfold pkV
  have h1 : -n < x.tmod n := by
    have := Int.lt_tmod_of_pos x hn
    omega
  have h2 : 0 ≤ x.tmod n + n := by omega
  rw [Int.tmod_eq_emod_of_nonneg h2]
  exact ⟨Int.emod_nonneg _ (by omega), Int.emod_lt_of_pos _ hn⟩
theorem pk_any (x n : Int) (w : World) (hn : 0 < n) (hn' : n ≤ 1000000) :
    Calls Tryz.prog 19 #[.int .i64 x, .int .i64 n] w fun e w' => e = .returned (.int .i64 (pkV x n)) ∧ w = w' := by
  have h1 : -n < x.tmod n := by
    have := Int.lt_tmod_of_pos x hn
    omega
  have h2 : x.tmod n < n := Int.tmod_lt_of_pos x hn
  have e : wrap64 (x.tmod n + n) = x.tmod n + n := by
    generalize x.tmod n = y at h1 h2
    unfold wrap64
    omega
  have E := Lib.hid e
  have n0 : (n == 0) = false := by simpa using (by omega : ¬ n = 0)
  clear e h1 h2
  go_enter Tryz.func19, Tryz.ntmps19
  go_wp2
  go_ret
  exact ⟨ret_int (by rw [E.out]; rfl), rfl⟩
end Go.Proofs.YtfdblmjgpoocpaaGreat
