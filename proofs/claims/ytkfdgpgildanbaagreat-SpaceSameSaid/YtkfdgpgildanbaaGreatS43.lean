import Derived.WalkKit
import Derived.Test.YtkfdgpgildanbaaGreatS01
import Derived.Test.YtkfdgpgildanbaaGreatRows
import Derived.WalkSpells
import Derived.WalkLawsBesides
import Derived.ProofKit
import Derived.Lib.Hide
namespace Go.Proofs.YtkfdgpgildanbaaGreat
open Go.RowKit
def dnV (n : Int) : Int := n - n % 16
def upV (n : Int) : Int := (n + 15) / 16 * 16
theorem dn_up (n : Int) : dnV (n + 15) = upV n := by unfold dnV upV; omega
def fOk (r a : Int) : Bool := decide (0 ≤ r) && decide (r ≤ 64) && decide (0 ≤ a) && decide (a ≤ 4096)
def fsV (r a : Int) : Int := if fOk r a then upV (8 * r + a) else 0
def fsE (r a : Int) : Int := if fOk r a then 0 else 2
theorem fOk_iff {r a : Int} : fOk r a = true ↔ 0 ≤ r ∧ r ≤ 64 ∧ 0 ≤ a ∧ a ≤ 4096 := by
  unfold fOk
  simp only [Bool.and_eq_true, decide_eq_true_eq]
  omega
theorem fs_ok {r a : Int} (h1 : 0 ≤ r) (h2 : r ≤ 64) (h3 : 0 ≤ a) (h4 : a ≤ 4096) : fsV r a = upV (8 * r + a) ∧ fsE r a = 0 := by
  have := fOk_iff.2 ⟨h1, h2, h3, h4⟩
  unfold fsV fsE
  rw [this]
  exact ⟨rfl, rfl⟩
theorem fs_no {r a : Int} (h : r < 0 ∨ 64 < r ∨ a < 0 ∨ 4096 < a) : fsV r a = 0 ∧ fsE r a = 2 := by
  have : fOk r a = false := by
    cases hh : fOk r a with
    | false => rfl
    | true => have := fOk_iff.1 hh; omega
  unfold fsV fsE
  rw [this]
  exact ⟨rfl, rfl⟩
theorem fs_bd (r a : Int) : 0 ≤ fsV r a ∧ fsV r a ≤ 4608 ∧ fsV r a % 16 = 0 := by
  unfold fsV
  split
  · next h => have := fOk_iff.1 h; unfold upV; omega
  · omega
theorem fsE_or (r a : Int) : fsE r a = 0 ∨ fsE r a = 2 := by
  unfold fsE
  split <;> simp
def edgeV (x : Int) : Bool := decide (x % 16 = 0) && decide (x ≤ 65536)
theorem edge_iff {x : Int} : edgeV x = true ↔ x % 16 = 0 ∧ x ≤ 65536 := by
  unfold edgeV
  simp only [Bool.and_eq_true, decide_eq_true_eq]
def pushE (x r a f : Int) : Int := if fsE r a = 0 then (if edgeV x && edgeV f then (if x < f + fsV r a then 8 else 0) else 5) else 2
def pushV (x r a f : Int) : Int := if pushE x r a f = 0 then x - fsV r a else 0
def floorE (n : Int) : Int := if 0 ≤ n ∧ n ≤ 8192 then 0 else 2
def floorV (n : Int) : Int := if 0 ≤ n ∧ n ≤ 8192 then upV (16 + n) else 0
def topE (n : Int) : Int := if 16 ≤ n ∧ n ≤ 65536 then 0 else 2
def topV (n : Int) : Int := if 16 ≤ n ∧ n ≤ 65536 then dnV n else 0
def slotV (x n : Int) : Int := (x + n * 8) % 18446744073709551616
end Go.Proofs.YtkfdgpgildanbaaGreat
namespace Go.Proofs.YtkfdgpgildanbaaGreat
open Go.RowKit
set_option linter.unusedVariables false
theorem downI_any (n : Int) (w : World) (h : 0 ≤ n) (h' : n < 9223372036854775808) :
    Calls Tryz.prog 163 #[.int .i64 n] w fun e w' => e = .returned (.int .i64 (dnV n)) ∧ w = w' := by
  have hm : n.tmod 16 = n % 16 := Int.tmod_eq_emod_of_nonneg h
  have e : wrap64 (n - n % 16) = n - n % 16 := by unfold wrap64; omega
  have Hm := Lib.hid hm
  have E := Lib.hid e
  clear hm e
  go_enter Tryz.func163, Tryz.ntmps163
  go_wp2
  go_ret
  exact ⟨ret_int rfl, rfl⟩
theorem downU_any (n : Int) (w : World) (h : 0 ≤ n) (h' : n < 18446744073709551616) :
    Calls Tryz.prog 162 #[.int .u64 n] w fun e w' => e = .returned (.int .u64 (dnV n)) ∧ w = w' := by
  have e : (n - n % 16) % 18446744073709551616 = n - n % 16 := by omega
  have E := Lib.hid e
  clear e
  go_enter Tryz.func162, Tryz.ntmps162
  go_wp2
  go_ret
  exact ⟨ret_int rfl, rfl⟩
end Go.Proofs.YtkfdgpgildanbaaGreat
namespace Go.Proofs.YtkfdgpgildanbaaGreat
open Go.RowKit
set_option linter.unusedVariables false
theorem upI_any (n : Int) (w : World) (h : 0 ≤ n) (h' : n < 1000000) :
    Calls Tryz.prog 114 #[.int .i64 n] w fun e w' => e = .returned (.int .i64 (upV n)) ∧ w = w' := by
  have HC := Lib.hid (fun w => downI_any (n + 15) w (by omega) (by omega))
  have e : wrap64 (n + 16 - 1) = n + 15 := by unfold wrap64; omega
  have e2 : n + 16 - 1 = n + 15 := by omega
  go_enter Tryz.func114, Tryz.ntmps114
  go_wp2_with (go_at_call 163; (with_reducible refine (HC.out _).mono ?_); rintro e w' ⟨rfl, rfl⟩)
  go_ret
  exact ⟨ret_int (dn_up n), rfl⟩
theorem upU_any (n : Int) (w : World) (h : 0 ≤ n) (h' : n < 1000000) :
    Calls Tryz.prog 113 #[.int .u64 n] w fun e w' => e = .returned (.int .u64 (upV n)) ∧ w = w' := by
  have HC := Lib.hid (fun w => downU_any (n + 15) w (by omega) (by omega))
  have e : wrap64 (n + 16 - 1) = n + 15 := by unfold wrap64; omega
  have e2 : n + 16 - 1 = n + 15 := by omega
  go_enter Tryz.func113, Tryz.ntmps113
  go_wp2_with (go_at_call 162; (with_reducible refine (HC.out _).mono ?_); rintro e w' ⟨rfl, rfl⟩)
  go_ret
  exact ⟨ret_int (dn_up n), rfl⟩
theorem rup_any (n : Int) (w : World) (h : 0 ≤ n) (h' : n < 1000000) :
    Calls Tryz.prog 124 #[.int .i64 n] w fun e w' => e = .returned (.int .i64 (upV n)) ∧ w = w' := by
  have e : (n + 15).tdiv 16 = (n + 15) / 16 := Int.tdiv_eq_ediv_of_nonneg (by omega)
  have e1 : wrap64 ((n + 15) / 16 * 16) = (n + 15) / 16 * 16 := by unfold wrap64; omega
  go_enter Tryz.func124, Tryz.ntmps124
  go_wp2
  go_ret
  exact ⟨ret_int (by unfold upV; omega), rfl⟩
theorem size_any (r a : Int) (w : World) (hr : -9223372036854775808 ≤ r) (hr' : r < 9223372036854775808) (ha : -9223372036854775808 ≤ a) (ha' : a < 9223372036854775808) :
    Calls Tryz.prog 51 #[.int .i64 r, .int .i64 a] w fun e w' => e = .returned (.tuple #[.int .i64 (fsV r a), .int .i64 (fsE r a)]) ∧ w = w' := by
  by_cases h1 : r < 0
  · have HE := Lib.hid (fs_no (r := r) (a := a) (by omega))
    have d0 : decide (r < 0) = true := by simpa using h1
    have HH := Lib.hid hr
    clear h1 hr hr' ha ha'
    go_enter Tryz.func51, Tryz.ntmps51
    go_wp2
    go_ret2
    exact ⟨ret_int2 HE.out.1.symm HE.out.2.symm, rfl⟩
  by_cases h2 : 64 < r
  · have HE := Lib.hid (fs_no (r := r) (a := a) (by omega))
    have d0 : decide (r < 0) = false := by simpa using (by omega : ¬ (r < 0))
    have d1 : decide (64 < r) = true := by simpa using h2
    have HH := Lib.hid hr
    clear h1 h2 hr hr' ha ha'
    go_enter Tryz.func51, Tryz.ntmps51
    go_wp2
    go_ret2
    exact ⟨ret_int2 HE.out.1.symm HE.out.2.symm, rfl⟩
  by_cases h3 : a < 0
  · have HE := Lib.hid (fs_no (r := r) (a := a) (by omega))
    have d0 : decide (r < 0) = false := by simpa using (by omega : ¬ (r < 0))
    have d1 : decide (64 < r) = false := by simpa using (by omega : ¬ (64 < r))
    have d2 : decide (a < 0) = true := by simpa using h3
    have HH := Lib.hid hr
    clear h1 h2 h3 hr hr' ha ha'
    go_enter Tryz.func51, Tryz.ntmps51
    go_wp2
    go_ret2
    exact ⟨ret_int2 HE.out.1.symm HE.out.2.symm, rfl⟩
  by_cases h4 : 4096 < a
  · have HE := Lib.hid (fs_no (r := r) (a := a) (by omega))
    have d0 : decide (r < 0) = false := by simpa using (by omega : ¬ (r < 0))
    have d1 : decide (64 < r) = false := by simpa using (by omega : ¬ (64 < r))
    have d2 : decide (a < 0) = false := by simpa using (by omega : ¬ (a < 0))
    have d3 : decide (4096 < a) = true := by simpa using h4
    have HH := Lib.hid hr
    clear h1 h2 h3 h4 hr hr' ha ha'
    go_enter Tryz.func51, Tryz.ntmps51
    go_wp2
    go_ret2
    exact ⟨ret_int2 HE.out.1.symm HE.out.2.symm, rfl⟩
  have HE := Lib.hid (fs_ok (r := r) (a := a) (by omega) (by omega) (by omega) (by omega))
  have HC := Lib.hid (fun w => upI_any (8 * r + a) w (by omega) (by omega))
  have d0 : decide (r < 0) = false := by simpa using (by omega : ¬ (r < 0))
  have d1 : decide (64 < r) = false := by simpa using (by omega : ¬ (64 < r))
  have d2 : decide (a < 0) = false := by simpa using (by omega : ¬ (a < 0))
  have d3 : decide (4096 < a) = false := by simpa using (by omega : ¬ (4096 < a))
  have e1 : wrap64 (8 * r) = 8 * r := by unfold wrap64; omega
  have e2 : wrap64 (8 * r + a) = 8 * r + a := by unfold wrap64; omega
  go_enter Tryz.func51, Tryz.ntmps51
  go_wp2_with (go_at_call 114; (with_reducible refine (HC.out _).mono ?_); rintro e w' ⟨rfl, rfl⟩)
  go_ret2
  exact ⟨ret_int2 HE.out.1.symm HE.out.2.symm, rfl⟩
theorem rsize_any (r a : Int) (w : World) (hr : -9223372036854775808 ≤ r) (hr' : r < 9223372036854775808) (ha : -9223372036854775808 ≤ a) (ha' : a < 9223372036854775808) :
    Calls Tryz.prog 126 #[.int .i64 r, .int .i64 a] w fun e w' => e = .returned (.tuple #[.int .i64 (fsV r a), .int .i64 (fsE r a)]) ∧ w = w' := by
  by_cases h1 : r < 0
  · have HE := Lib.hid (fs_no (r := r) (a := a) (by omega))
    have d0 : decide (r < 0) = true := by simpa using h1
    have HH := Lib.hid hr
    clear h1 hr hr' ha ha'
    go_enter Tryz.func126, Tryz.ntmps126
    go_wp2
    go_ret2
    exact ⟨ret_int2 HE.out.1.symm HE.out.2.symm, rfl⟩
  by_cases h2 : 64 < r
  · have HE := Lib.hid (fs_no (r := r) (a := a) (by omega))
    have d0 : decide (r < 0) = false := by simpa using (by omega : ¬ (r < 0))
    have d1 : decide (64 < r) = true := by simpa using h2
    have HH := Lib.hid hr
    clear h1 h2 hr hr' ha ha'
    go_enter Tryz.func126, Tryz.ntmps126
    go_wp2
    go_ret2
    exact ⟨ret_int2 HE.out.1.symm HE.out.2.symm, rfl⟩
  by_cases h3 : a < 0
  · have HE := Lib.hid (fs_no (r := r) (a := a) (by omega))
    have d0 : decide (r < 0) = false := by simpa using (by omega : ¬ (r < 0))
    have d1 : decide (64 < r) = false := by simpa using (by omega : ¬ (64 < r))
    have d2 : decide (a < 0) = true := by simpa using h3
    have HH := Lib.hid hr
    clear h1 h2 h3 hr hr' ha ha'
    go_enter Tryz.func126, Tryz.ntmps126
    go_wp2
    go_ret2
    exact ⟨ret_int2 HE.out.1.symm HE.out.2.symm, rfl⟩
  by_cases h4 : 4096 < a
  · have HE := Lib.hid (fs_no (r := r) (a := a) (by omega))
    have d0 : decide (r < 0) = false := by simpa using (by omega : ¬ (r < 0))
    have d1 : decide (64 < r) = false := by simpa using (by omega : ¬ (64 < r))
    have d2 : decide (a < 0) = false := by simpa using (by omega : ¬ (a < 0))
    have d3 : decide (4096 < a) = true := by simpa using h4
    have HH := Lib.hid hr
    clear h1 h2 h3 h4 hr hr' ha ha'
    go_enter Tryz.func126, Tryz.ntmps126
    go_wp2
    go_ret2
    exact ⟨ret_int2 HE.out.1.symm HE.out.2.symm, rfl⟩
  have HE := Lib.hid (fs_ok (r := r) (a := a) (by omega) (by omega) (by omega) (by omega))
  have HC := Lib.hid (fun w => rup_any (8 * r + a) w (by omega) (by omega))
  have d0 : decide (r < 0) = false := by simpa using (by omega : ¬ (r < 0))
  have d1 : decide (64 < r) = false := by simpa using (by omega : ¬ (64 < r))
  have d2 : decide (a < 0) = false := by simpa using (by omega : ¬ (a < 0))
  have d3 : decide (4096 < a) = false := by simpa using (by omega : ¬ (4096 < a))
  have e1 : wrap64 (8 * r) = 8 * r := by unfold wrap64; omega
  have e2 : wrap64 (8 * r + a) = 8 * r + a := by unfold wrap64; omega
  go_enter Tryz.func126, Tryz.ntmps126
  go_wp2_with (go_at_call 124; (with_reducible refine (HC.out _).mono ?_); rintro e w' ⟨rfl, rfl⟩)
  go_ret2
  exact ⟨ret_int2 HE.out.1.symm HE.out.2.symm, rfl⟩
theorem slot_any (x n : Int) (w : World) (hx : 0 ≤ x) (hx' : x < 18446744073709551616) (hn : -9223372036854775808 ≤ n) (hn' : n < 9223372036854775808) :
    Calls Tryz.prog 101 #[.int .u64 x, .int .i64 n] w fun e w' => e = .returned (.int .u64 (slotV x n)) ∧ w = w' := by
  clear hx hx' hn hn'
  go_enter Tryz.func101, Tryz.ntmps101
  go_wp2
  go_ret
  exact ⟨ret_int (by unfold slotV; simp only [IntKind.wrap_u64]; omega), rfl⟩
theorem rslot_any (x n : Int) (w : World) (hx : 0 ≤ x) (hx' : x < 18446744073709551616) (hn : -9223372036854775808 ≤ n) (hn' : n < 9223372036854775808) :
    Calls Tryz.prog 129 #[.int .u64 x, .int .i64 n] w fun e w' => e = .returned (.int .u64 (slotV x n)) ∧ w = w' := by
  clear hx hx' hn hn'
  go_enter Tryz.func129, Tryz.ntmps129
  go_wp2
  go_ret
  exact ⟨ret_int (by unfold slotV; simp only [IntKind.wrap_u64]; omega), rfl⟩
theorem floor_any (n : Int) (w : World) (hn : -9223372036854775808 ≤ n) (hn' : n < 9223372036854775808) :
    Calls Tryz.prog 50 #[.int .i64 n] w fun e w' => e = .returned (.tuple #[.int .u64 (floorV n), .int .i64 (floorE n)]) ∧ w = w' := by
  by_cases h1 : n < 0
  · have HE := Lib.hid (show floorV n = 0 ∧ floorE n = 2 by unfold floorV floorE; rw [if_neg (by omega), if_neg (by omega)]; exact ⟨rfl, rfl⟩)
    have d1 : decide (n < 0) = true := by simpa using h1
    clear h1 hn hn'
    go_enter Tryz.func50, Tryz.ntmps50
    go_wp2
    go_ret2
    exact ⟨ret_int2 HE.out.1.symm HE.out.2.symm, rfl⟩
  by_cases h2 : 8192 < n
  · have HE := Lib.hid (show floorV n = 0 ∧ floorE n = 2 by unfold floorV floorE; rw [if_neg (by omega), if_neg (by omega)]; exact ⟨rfl, rfl⟩)
    have d1 : decide (n < 0) = false := by simpa using h1
    have d2 : decide (8192 < n) = true := by simpa using h2
    clear h1 h2 hn hn'
    go_enter Tryz.func50, Tryz.ntmps50
    go_wp2
    go_ret2
    exact ⟨ret_int2 HE.out.1.symm HE.out.2.symm, rfl⟩
  have HE := Lib.hid (show floorV n = upV (16 + n) ∧ floorE n = 0 by unfold floorV floorE; rw [if_pos (by omega), if_pos (by omega)]; exact ⟨rfl, rfl⟩)
  have d1 : decide (n < 0) = false := by simpa using h1
  have d2 : decide (8192 < n) = false := by simpa using h2
  have d3 : 0 ≤ upV (16 + n) ∧ upV (16 + n) < 100000 := by unfold upV; omega
  have HC := Lib.hid (fun w => upU_any (16 + n) w (by omega) (by omega))
  have e1 : n % 18446744073709551616 = n := by omega
  have e2 : (16 + n) % 18446744073709551616 = 16 + n := by omega
  have e3 : wrap64 (16 + n) = 16 + n := by unfold wrap64; omega
  go_enter Tryz.func50, Tryz.ntmps50
  go_wp2_with (go_at_call 113; (with_reducible refine (HC.out _).mono ?_); rintro e w' ⟨rfl, rfl⟩)
  go_ret2
  exact ⟨ret_int2 (by rw [HE.out.1]) HE.out.2.symm, rfl⟩
theorem rfloor_any (n : Int) (w : World) (hn : -9223372036854775808 ≤ n) (hn' : n < 9223372036854775808) :
    Calls Tryz.prog 61 #[.int .i64 n] w fun e w' => e = .returned (.tuple #[.int .u64 (floorV n), .int .i64 (floorE n)]) ∧ w = w' := by
  by_cases h1 : n < 0
  · have HE := Lib.hid (show floorV n = 0 ∧ floorE n = 2 by unfold floorV floorE; rw [if_neg (by omega), if_neg (by omega)]; exact ⟨rfl, rfl⟩)
    have d1 : decide (n < 0) = true := by simpa using h1
    clear h1 hn hn'
    go_enter Tryz.func61, Tryz.ntmps61
    go_wp2
    go_ret2
    exact ⟨ret_int2 HE.out.1.symm HE.out.2.symm, rfl⟩
  by_cases h2 : 8192 < n
  · have HE := Lib.hid (show floorV n = 0 ∧ floorE n = 2 by unfold floorV floorE; rw [if_neg (by omega), if_neg (by omega)]; exact ⟨rfl, rfl⟩)
    have d1 : decide (n < 0) = false := by simpa using h1
    have d2 : decide (8192 < n) = true := by simpa using h2
    clear h1 h2 hn hn'
    go_enter Tryz.func61, Tryz.ntmps61
    go_wp2
    go_ret2
    exact ⟨ret_int2 HE.out.1.symm HE.out.2.symm, rfl⟩
  have HE := Lib.hid (show floorV n = upV (16 + n) ∧ floorE n = 0 by unfold floorV floorE; rw [if_pos (by omega), if_pos (by omega)]; exact ⟨rfl, rfl⟩)
  have d1 : decide (n < 0) = false := by simpa using h1
  have d2 : decide (8192 < n) = false := by simpa using h2
  have d3 : 0 ≤ upV (16 + n) ∧ upV (16 + n) < 100000 := by unfold upV; omega
  have HC := Lib.hid (fun w => rup_any (16 + n) w (by omega) (by omega))
  have e1 : n % 18446744073709551616 = n := by omega
  have e2 : (16 + n) % 18446744073709551616 = 16 + n := by omega
  have e3 : wrap64 (16 + n) = 16 + n := by unfold wrap64; omega
  go_enter Tryz.func61, Tryz.ntmps61
  go_wp2_with (go_at_call 124; (with_reducible refine (HC.out _).mono ?_); rintro e w' ⟨rfl, rfl⟩)
  go_ret2
  exact ⟨ret_int2 (by rw [HE.out.1]) HE.out.2.symm, rfl⟩
theorem top_any (n : Int) (w : World) (hn : -9223372036854775808 ≤ n) (hn' : n < 9223372036854775808) :
    Calls Tryz.prog 117 #[.int .i64 n] w fun e w' => e = .returned (.tuple #[.int .u64 (topV n), .int .i64 (topE n)]) ∧ w = w' := by
  by_cases h1 : n < 16
  · have HE := Lib.hid (show topV n = 0 ∧ topE n = 2 by unfold topV topE; rw [if_neg (by omega), if_neg (by omega)]; exact ⟨rfl, rfl⟩)
    have d1 : decide (n < 16) = true := by simpa using h1
    clear h1 hn hn'
    go_enter Tryz.func117, Tryz.ntmps117
    go_wp2
    go_ret2
    exact ⟨ret_int2 HE.out.1.symm HE.out.2.symm, rfl⟩
  by_cases h2 : 65536 < n
  · have HE := Lib.hid (show topV n = 0 ∧ topE n = 2 by unfold topV topE; rw [if_neg (by omega), if_neg (by omega)]; exact ⟨rfl, rfl⟩)
    have d1 : decide (n < 16) = false := by simpa using h1
    have d2 : decide (65536 < n) = true := by simpa using h2
    clear h1 h2 hn hn'
    go_enter Tryz.func117, Tryz.ntmps117
    go_wp2
    go_ret2
    exact ⟨ret_int2 HE.out.1.symm HE.out.2.symm, rfl⟩
  have HE := Lib.hid (show topV n = dnV n ∧ topE n = 0 by unfold topV topE; rw [if_pos (by omega), if_pos (by omega)]; exact ⟨rfl, rfl⟩)
  have d1 : decide (n < 16) = false := by simpa using h1
  have d2 : decide (65536 < n) = false := by simpa using h2
  have d3 : 0 ≤ dnV n ∧ dnV n < 100000 := by unfold dnV; omega
  have HC := Lib.hid (fun w => downU_any (n) w (by omega) (by omega))
  have e1 : n % 18446744073709551616 = n := by omega
  have e2 : (16 + n) % 18446744073709551616 = 16 + n := by omega
  have e3 : wrap64 (16 + n) = 16 + n := by unfold wrap64; omega
  go_enter Tryz.func117, Tryz.ntmps117
  go_wp2_with (go_at_call 162; (with_reducible refine (HC.out _).mono ?_); rintro e w' ⟨rfl, rfl⟩)
  go_ret2
  exact ⟨ret_int2 (by rw [HE.out.1]) HE.out.2.symm, rfl⟩
end Go.Proofs.YtkfdgpgildanbaaGreat
namespace Go.Proofs.YtkfdgpgildanbaaGreat
open Go.RowKit
set_option linter.unusedVariables false
theorem edge_any (x : Int) (w : World) (h : 0 ≤ x) (h' : x < 18446744073709551616) :
    Calls Tryz.prog 185 #[.int .u64 x] w fun e w' => e = .returned (.bool (edgeV x)) ∧ w = w' := by
  have HC := Lib.hid (fun w => downU_any x w h h')
  by_cases h1 : x % 16 = 0
  · have e1 : (dnV x == x) = true := by simp only [beq_iff_eq]; unfold dnV; omega
    have HE := Lib.hid (show decide (x ≤ 65536) = edgeV x by unfold edgeV; rw [decide_eq_true h1]; rfl)
    clear h1
    go_enter Tryz.func185, Tryz.ntmps185
    go_wp2_with (go_at_call 162; (with_reducible refine (HC.out _).mono ?_); rintro e w' ⟨rfl, rfl⟩)
    go_ret
    exact ⟨ret_bool HE.out, rfl⟩
  · have e1 : (dnV x == x) = false := by simp only [beq_eq_false_iff_ne]; unfold dnV; omega
    have HE := Lib.hid (show false = edgeV x by unfold edgeV; rw [decide_eq_false h1]; rfl)
    clear h1
    go_enter Tryz.func185, Tryz.ntmps185
    go_wp2_with (go_at_call 162; (with_reducible refine (HC.out _).mono ?_); rintro e w' ⟨rfl, rfl⟩)
    go_ret
    exact ⟨ret_bool HE.out, rfl⟩
theorem redge_any (x : Int) (w : World) (h : 0 ≤ x) (h' : x < 18446744073709551616) :
    Calls Tryz.prog 127 #[.int .u64 x] w fun e w' => e = .returned (.bool (edgeV x)) ∧ w = w' := by
  by_cases h1 : x % 16 = 0
  · have e1 : (x % 16 == 0) = true := by simp only [beq_iff_eq]; exact h1
    have HE := Lib.hid (show decide (x ≤ 65536) = edgeV x by unfold edgeV; rw [decide_eq_true h1]; rfl)
    clear h1
    go_enter Tryz.func127, Tryz.ntmps127
    go_wp2
    go_ret
    exact ⟨ret_bool HE.out, rfl⟩
  · have e1 : (x % 16 == 0) = false := by simp only [beq_eq_false_iff_ne]; exact h1
    have HE := Lib.hid (show false = edgeV x by unfold edgeV; rw [decide_eq_false h1]; rfl)
    clear h1
    go_enter Tryz.func127, Tryz.ntmps127
    go_wp2
    go_ret
    exact ⟨ret_bool HE.out, rfl⟩
set_option maxHeartbeats 1000000 in
theorem push_any (x r a f : Int) (w : World) (h : 0 ≤ x) (h' : x < 18446744073709551616) (hf : 0 ≤ f) (hf' : f < 18446744073709551616) (hr : -9223372036854775808 ≤ r) (hr' : r < 9223372036854775808) (ha : -9223372036854775808 ≤ a) (ha' : a < 9223372036854775808) :
    Calls Tryz.prog 160 #[.int .u64 x, .int .i64 r, .int .i64 a, .int .u64 f] w fun e w' => e = .returned (.tuple #[.int .u64 (pushV x r a f), .int .i64 (pushE x r a f)]) ∧ w = w' := by
  have hs := fun w => size_any r a w hr hr' ha ha'
  have hb := fs_bd r a
  have hd := fun w => edge_any x w h h'
  have hd2 := fun w => edge_any f w hf hf'
  clear hr hr' ha ha'
  have ho := fsE_or r a
  have HV := Lib.hid (show pushV x r a f = if pushE x r a f = 0 then x - fsV r a else 0 from rfl)
  have HE := Lib.hid (show pushE x r a f = if fsE r a = 0 then (if edgeV x && edgeV f then (if x < f + fsV r a then 8 else 0) else 5) else 2 from rfl)
  generalize hz : fsE r a = z at hs ho HE
  generalize hy : fsV r a = y at hs hb HV HE
  have HS := Lib.hid hs
  have HD := Lib.hid hd
  have HD2 := Lib.hid hd2
  have HB := Lib.hid (show (0 ≤ y ∧ y ≤ 4608) ∧ 0 ≤ x ∧ 0 ≤ f from ⟨⟨hb.1, hb.2.1⟩, h, hf⟩)
  clear hs hd hd2 hz hy h h' hf hf' hb
  have hi0 : ∀ w, (Instr.index 212 (.agg #[.int .u64 x, .int .u64 f]) (.int .i64 0)).run Tryz.prog w = .ok (.int .u64 x) w := by intro w; kernel_rfl
  have hi1 : ∀ w, (Instr.index 212 (.agg #[.int .u64 x, .int .u64 f]) (.int .i64 1)).run Tryz.prog w = .ok (.int .u64 f) w := by intro w; kernel_rfl
  rcases ho with rfl | rfl
  · go_enter Tryz.func160, Tryz.ntmps160
    go_wp2
    go_step3
    go_wp2_with (first
        | (go_at_call 51; (with_reducible refine (HS.out _).mono ?_); rintro e w' ⟨rfl, rfl⟩)
        | (go_at_call 185; (with_reducible refine (HD.out _).mono ?_); rintro e w' ⟨rfl, rfl⟩)
        | (go_at_call 185; (with_reducible refine (HD2.out _).mono ?_); rintro e w' ⟨rfl, rfl⟩))
    go_step3
    go_wp2
    go_loopw [11, 13, 26] (fun s11 s13 s26 wr => s11 = .int .i64 0 ∧ wr = w ∧ (s26 = .int .i64 0 ∨ (s26 = .int .i64 1 ∧ edgeV x = true) ∨ (s26 = .int .i64 2 ∧ edgeV x = true ∧ edgeV f = true))) (fun _ _ i _ => 2 - (intOf i).toNat)
    case atStart => exact ⟨rfl, rfl, Or.inl rfl⟩
    case round =>
      obtain ⟨rfl, rfl, hi⟩ := hrel
      rcases hi with rfl | ⟨rfl, hx⟩ | ⟨rfl, hx, hg⟩
      · cases hx : edgeV x with
        | false =>
          have HX := Lib.hid hx
          have HR := Lib.hid (show pushE x r a f = 5 by rw [HE.out, HX.out]; rfl)
          rw [hx] at HD
          clear hx
          go_wp2_with (first
        | (go_at_call 51; (with_reducible refine (HS.out _).mono ?_); rintro e w' ⟨rfl, rfl⟩)
        | (go_at_call 185; (with_reducible refine (HD.out _).mono ?_); rintro e w' ⟨rfl, rfl⟩)
        | (go_at_call 185; (with_reducible refine (HD2.out _).mono ?_); rintro e w' ⟨rfl, rfl⟩))
          try rw [Exit.noGoto_ret]
          go_ret2
          exact ⟨ret_int2 (by rw [HV.out, HR.out]; rfl) HR.out.symm, rfl⟩
        | true =>
          have HX := Lib.hid hx
          rw [hx] at HD
          clear hx
          go_wp2_with (first
        | (go_at_call 51; (with_reducible refine (HS.out _).mono ?_); rintro e w' ⟨rfl, rfl⟩)
        | (go_at_call 185; (with_reducible refine (HD.out _).mono ?_); rintro e w' ⟨rfl, rfl⟩)
        | (go_at_call 185; (with_reducible refine (HD2.out _).mono ?_); rintro e w' ⟨rfl, rfl⟩))
          go_roundw
          case rel => exact ⟨rfl, trivial, by simp⟩
          case measure => simp [intOf]
      · cases hg : edgeV f with
        | false =>
          have HG := Lib.hid hg
          have HR := Lib.hid (show pushE x r a f = 5 by rw [HE.out, hx, HG.out]; rfl)
          rw [hg] at HD2
          clear hx hg
          go_wp2_with (first
        | (go_at_call 51; (with_reducible refine (HS.out _).mono ?_); rintro e w' ⟨rfl, rfl⟩)
        | (go_at_call 185; (with_reducible refine (HD.out _).mono ?_); rintro e w' ⟨rfl, rfl⟩)
        | (go_at_call 185; (with_reducible refine (HD2.out _).mono ?_); rintro e w' ⟨rfl, rfl⟩))
          try rw [Exit.noGoto_ret]
          go_ret2
          exact ⟨ret_int2 (by rw [HV.out, HR.out]; rfl) HR.out.symm, rfl⟩
        | true =>
          have HX := Lib.hid hx
          have HG := Lib.hid hg
          rw [hg] at HD2
          clear hx hg
          go_wp2_with (first
        | (go_at_call 51; (with_reducible refine (HS.out _).mono ?_); rintro e w' ⟨rfl, rfl⟩)
        | (go_at_call 185; (with_reducible refine (HD.out _).mono ?_); rintro e w' ⟨rfl, rfl⟩)
        | (go_at_call 185; (with_reducible refine (HD2.out _).mono ?_); rintro e w' ⟨rfl, rfl⟩))
          go_roundw
          case rel => exact ⟨rfl, trivial, by simp [HX.out]⟩
          case measure => simp [intOf]
      · have hx2 := edge_iff.1 hx
        have hg2 := edge_iff.1 hg
        have hb := HB.out
        have e1 : y % 18446744073709551616 = y := by omega
        have e2 : (f + y) % 18446744073709551616 = f + y := by omega
        have HX := Lib.hid hx
        have HG := Lib.hid hg
        by_cases hl : x < f + y
        · have HR := Lib.hid (show pushE x r a f = 8 by rw [HE.out, HX.out, HG.out]; exact if_pos hl)
          have dl : decide (x < f + y) = true := by simpa using hl
          clear hx hg hl hx2 hg2 hb
          go_wp2_with (first
        | (go_at_call 51; (with_reducible refine (HS.out _).mono ?_); rintro e w' ⟨rfl, rfl⟩)
        | (go_at_call 185; (with_reducible refine (HD.out _).mono ?_); rintro e w' ⟨rfl, rfl⟩)
        | (go_at_call 185; (with_reducible refine (HD2.out _).mono ?_); rintro e w' ⟨rfl, rfl⟩))
          try rw [Exit.noGoto_ret]
          go_ret2
          exact ⟨ret_int2 (by rw [HV.out, HR.out]; rfl) HR.out.symm, rfl⟩
        · have HR := Lib.hid (show pushE x r a f = 0 by rw [HE.out, HX.out, HG.out]; exact if_neg hl)
          have dl : decide (x < f + y) = false := by simpa using hl
          have e3 : (x - y) % 18446744073709551616 = x - y := by omega
          clear hx hg hl hx2 hg2 hb
          go_wp2_with (first
        | (go_at_call 51; (with_reducible refine (HS.out _).mono ?_); rintro e w' ⟨rfl, rfl⟩)
        | (go_at_call 185; (with_reducible refine (HD.out _).mono ?_); rintro e w' ⟨rfl, rfl⟩)
        | (go_at_call 185; (with_reducible refine (HD2.out _).mono ?_); rintro e w' ⟨rfl, rfl⟩))
          try rw [Exit.noGoto_ret]
          go_ret2
          exact ⟨ret_int2 (by rw [HV.out, HR.out]; rfl) HR.out.symm, rfl⟩
  · have HR := Lib.hid (show pushE x r a f = 2 by rw [HE.out]; rfl)
    go_enter Tryz.func160, Tryz.ntmps160
    go_wp2
    go_step3
    go_wp2_with (first
        | (go_at_call 51; (with_reducible refine (HS.out _).mono ?_); rintro e w' ⟨rfl, rfl⟩)
        | (go_at_call 185; (with_reducible refine (HD.out _).mono ?_); rintro e w' ⟨rfl, rfl⟩)
        | (go_at_call 185; (with_reducible refine (HD2.out _).mono ?_); rintro e w' ⟨rfl, rfl⟩))
    go_step3
    go_wp2_with (first
        | (go_at_call 51; (with_reducible refine (HS.out _).mono ?_); rintro e w' ⟨rfl, rfl⟩)
        | (go_at_call 185; (with_reducible refine (HD.out _).mono ?_); rintro e w' ⟨rfl, rfl⟩)
        | (go_at_call 185; (with_reducible refine (HD2.out _).mono ?_); rintro e w' ⟨rfl, rfl⟩))
    try rw [Exit.noGoto_ret]
    go_ret2
    exact ⟨ret_int2 (by rw [HV.out, HR.out]; rfl) HR.out.symm, rfl⟩
set_option maxHeartbeats 1000000 in
theorem rpush_any (x r a f : Int) (w : World) (h : 0 ≤ x) (h' : x < 18446744073709551616) (hf : 0 ≤ f) (hf' : f < 18446744073709551616) (hr : -9223372036854775808 ≤ r) (hr' : r < 9223372036854775808) (ha : -9223372036854775808 ≤ a) (ha' : a < 9223372036854775808) :
    Calls Tryz.prog 64 #[.int .u64 x, .int .i64 r, .int .i64 a, .int .u64 f] w fun e w' => e = .returned (.tuple #[.int .u64 (pushV x r a f), .int .i64 (pushE x r a f)]) ∧ w = w' := by
  have hs := fun w => rsize_any r a w hr hr' ha ha'
  have hb := fs_bd r a
  have hd := fun w => redge_any x w h h'
  have hd2 := fun w => redge_any f w hf hf'
  clear hr hr' ha ha'
  have ho := fsE_or r a
  have HV := Lib.hid (show pushV x r a f = if pushE x r a f = 0 then x - fsV r a else 0 from rfl)
  have HE := Lib.hid (show pushE x r a f = if fsE r a = 0 then (if edgeV x && edgeV f then (if x < f + fsV r a then 8 else 0) else 5) else 2 from rfl)
  generalize hz : fsE r a = z at hs ho HE
  generalize hy : fsV r a = y at hs hb HV HE
  have HS := Lib.hid hs
  have HD := Lib.hid hd
  have HD2 := Lib.hid hd2
  clear hs hd hd2 hz hy
  rcases ho with rfl | rfl
  · cases hx : edgeV x with
    | false =>
      have HX := Lib.hid hx
      have HR := Lib.hid (show pushE x r a f = 5 by rw [HE.out, HX.out]; rfl)
      rw [hx] at HD
      clear hx h h' hf hf' hb
      go_enter Tryz.func64, Tryz.ntmps64
      go_wp2_with (first
        | (go_at_call 126; (with_reducible refine (HS.out _).mono ?_); rintro e w' ⟨rfl, rfl⟩)
        | (go_at_call 127; (with_reducible refine (HD.out _).mono ?_); rintro e w' ⟨rfl, rfl⟩)
        | (go_at_call 127; (with_reducible refine (HD2.out _).mono ?_); rintro e w' ⟨rfl, rfl⟩))
      go_ret2
      exact ⟨ret_int2 (by rw [HV.out, HR.out]; rfl) HR.out.symm, rfl⟩
    | true =>
    cases hg : edgeV f with
    | false =>
      have HX := Lib.hid hx
      have HG := Lib.hid hg
      have HR := Lib.hid (show pushE x r a f = 5 by rw [HE.out, HX.out, HG.out]; rfl)
      rw [hx] at HD
      rw [hg] at HD2
      clear hx hg h h' hf hf' hb
      go_enter Tryz.func64, Tryz.ntmps64
      go_wp2_with (first
        | (go_at_call 126; (with_reducible refine (HS.out _).mono ?_); rintro e w' ⟨rfl, rfl⟩)
        | (go_at_call 127; (with_reducible refine (HD.out _).mono ?_); rintro e w' ⟨rfl, rfl⟩)
        | (go_at_call 127; (with_reducible refine (HD2.out _).mono ?_); rintro e w' ⟨rfl, rfl⟩))
      go_ret2
      exact ⟨ret_int2 (by rw [HV.out, HR.out]; rfl) HR.out.symm, rfl⟩
    | true =>
      have HX := Lib.hid hx
      have HG := Lib.hid hg
      have hx2 := edge_iff.1 hx
      have hg2 := edge_iff.1 hg
      have e1 : y % 18446744073709551616 = y := by omega
      have e2 : (f + y) % 18446744073709551616 = f + y := by omega
      rw [hx] at HD
      rw [hg] at HD2
      by_cases hl : x < f + y
      · have HR := Lib.hid (show pushE x r a f = 8 by rw [HE.out, HX.out, HG.out, if_pos hl]; rfl)
        have dl : decide (x < f + y) = true := by simpa using hl
        clear hx hg h h' hf hf' hb hl hx2 hg2
        go_enter Tryz.func64, Tryz.ntmps64
        go_wp2_with (first
          | (go_at_call 126; (with_reducible refine (HS.out _).mono ?_); rintro e w' ⟨rfl, rfl⟩)
          | (go_at_call 127; (with_reducible refine (HD.out _).mono ?_); rintro e w' ⟨rfl, rfl⟩)
          | (go_at_call 127; (with_reducible refine (HD2.out _).mono ?_); rintro e w' ⟨rfl, rfl⟩))
        go_ret2
        exact ⟨ret_int2 (by rw [HV.out, HR.out]; rfl) HR.out.symm, rfl⟩
      · have HR := Lib.hid (show pushE x r a f = 0 by rw [HE.out, HX.out, HG.out, if_neg hl]; rfl)
        have dl : decide (x < f + y) = false := by simpa using hl
        have e3 : (x - y) % 18446744073709551616 = x - y := by omega
        clear hx hg h h' hf hf' hb hl hx2 hg2
        go_enter Tryz.func64, Tryz.ntmps64
        go_wp2_with (first
          | (go_at_call 126; (with_reducible refine (HS.out _).mono ?_); rintro e w' ⟨rfl, rfl⟩)
          | (go_at_call 127; (with_reducible refine (HD.out _).mono ?_); rintro e w' ⟨rfl, rfl⟩)
          | (go_at_call 127; (with_reducible refine (HD2.out _).mono ?_); rintro e w' ⟨rfl, rfl⟩))
        go_ret2
        exact ⟨ret_int2 (by rw [HV.out, HR.out]; rfl) HR.out.symm, rfl⟩
  · have HR := Lib.hid (show pushE x r a f = 2 by rw [HE.out]; rfl)
    clear h h' hf hf' hb
    go_enter Tryz.func64, Tryz.ntmps64
    go_wp2_with (first
      | (go_at_call 126; (with_reducible refine (HS.out _).mono ?_); rintro e w' ⟨rfl, rfl⟩)
      | (go_at_call 127; (with_reducible refine (HD.out _).mono ?_); rintro e w' ⟨rfl, rfl⟩)
      | (go_at_call 127; (with_reducible refine (HD2.out _).mono ?_); rintro e w' ⟨rfl, rfl⟩))
    go_ret2
    exact ⟨ret_int2 (by rw [HV.out, HR.out]; rfl) HR.out.symm, rfl⟩
end Go.Proofs.YtkfdgpgildanbaaGreat
namespace Go.Proofs.YtkfdgpgildanbaaGreat
open Go.RowKit
set_option linter.unusedVariables false
def pkV (x n : Int) : Int := (x.tmod n + n).tmod n
theorem pk_bd (x : Int) {n : Int} (hn : 0 < n) : 0 ≤ pkV x n ∧ pkV x n < n := by
  unfold pkV
  have h1 : -n < x.tmod n := by
    have := Int.lt_tmod_of_pos x hn
    omega
  have h2 : 0 ≤ x.tmod n + n := by omega
  rw [Int.tmod_eq_emod_of_nonneg h2]
  exact ⟨Int.emod_nonneg _ (by omega), Int.emod_lt_of_pos _ hn⟩
theorem pk_any (x n : Int) (w : World) (hn : 0 < n) (hn' : n ≤ 1000000) :
    Calls Tryz.prog 25 #[.int .i64 x, .int .i64 n] w fun e w' => e = .returned (.int .i64 (pkV x n)) ∧ w = w' := by
  have h1 : -n < x.tmod n := by
    have := Int.lt_tmod_of_pos x hn
    omega
  have h2 : x.tmod n < n := Int.tmod_lt_of_pos x hn
  have e : wrap64 (x.tmod n + n) = x.tmod n + n := by
    generalize x.tmod n = y at h1 h2
    unfold wrap64
    omega
  have E := Lib.hid e
  have n0 : (n == 0) = false := by simpa using (by omega : ¬ n = 0)
  clear e h1 h2
  go_enter Tryz.func25, Tryz.ntmps25
  go_wp2
  go_ret
  exact ⟨ret_int (by rw [E.out]; rfl), rfl⟩
end Go.Proofs.YtkfdgpgildanbaaGreat
