/- What the functions of package frame return: contracts for any numbers, in whatever memory, which stays as it was. -/
import Derived.Test.YtoalncjljchipaaRows
import Derived.Test.YtoalncjljchipaaMath09
import Derived.WalkKit
import Derived.WalkSpells
import Derived.WalkLawsBesides
import Derived.ProofKit
import Derived.Lib.Hide
namespace Go.Proofs.Ytoalncjljchipaa
open Go.RowKit
set_option linter.unusedVariables false

theorem downI_any (n : Int) (w : World) (h : 0 ≤ n) (h' : n < 9223372036854775808) :
    Calls Try.prog 32 #[.int .i64 n] w fun e w' => e = .returned (.int .i64 (dnV n)) ∧ w = w' := by
  have hm : n.tmod 16 = n % 16 := Int.tmod_eq_emod_of_nonneg h
  have e : wrap64 (n - n % 16) = n - n % 16 := by unfold wrap64; omega
  have Hm := Lib.hid hm
  have E := Lib.hid e
  clear hm e
  go_enter Try.func32, Try.ntmps32
  go_wp2
  go_ret
  exact ⟨ret_int rfl, rfl⟩
theorem downU_any (n : Int) (w : World) (h : 0 ≤ n) (h' : n < 18446744073709551616) :
    Calls Try.prog 29 #[.int .u64 n] w fun e w' => e = .returned (.int .u64 (dnV n)) ∧ w = w' := by
  have e : (n - n % 16) % 18446744073709551616 = n - n % 16 := by omega
  have E := Lib.hid e
  clear e
  go_enter Try.func29, Try.ntmps29
  go_wp2
  go_ret
  exact ⟨ret_int rfl, rfl⟩
end Go.Proofs.Ytoalncjljchipaa
