/- What the functions of package frame, and those of the document's own text for it, return: contracts for any numbers, in whatever memory, which stays as it was. -/
import Derived.Test.YtoalncjljchipaaFrame09A
namespace Go.Proofs.Ytoalncjljchipaa
open Go.RowKit
set_option linter.unusedVariables false

theorem upI_any (n : Int) (w : World) (h : 0 ≤ n) (h' : n < 1000000) :
    Calls Try.prog 25 #[.int .i64 n] w fun e w' => e = .returned (.int .i64 (upV n)) ∧ w = w' := by
  have HC := Lib.hid (fun w => downI_any (n + 15) w (by omega) (by omega))
  have e : wrap64 (n + 16 - 1) = n + 15 := by unfold wrap64; omega
  have e2 : n + 16 - 1 = n + 15 := by omega
  go_enter Try.func25, Try.ntmps25
  go_wp2_with (go_at_call 32; (with_reducible refine (HC.out _).mono ?_); rintro e w' ⟨rfl, rfl⟩)
  go_ret
  exact ⟨ret_int (dn_up n), rfl⟩
theorem upU_any (n : Int) (w : World) (h : 0 ≤ n) (h' : n < 1000000) :
    Calls Try.prog 28 #[.int .u64 n] w fun e w' => e = .returned (.int .u64 (upV n)) ∧ w = w' := by
  have HC := Lib.hid (fun w => downU_any (n + 15) w (by omega) (by omega))
  have e : wrap64 (n + 16 - 1) = n + 15 := by unfold wrap64; omega
  have e2 : n + 16 - 1 = n + 15 := by omega
  go_enter Try.func28, Try.ntmps28
  go_wp2_with (go_at_call 29; (with_reducible refine (HC.out _).mono ?_); rintro e w' ⟨rfl, rfl⟩)
  go_ret
  exact ⟨ret_int (dn_up n), rfl⟩
theorem rup_any (n : Int) (w : World) (h : 0 ≤ n) (h' : n < 1000000) :
    Calls Try.prog 26 #[.int .i64 n] w fun e w' => e = .returned (.int .i64 (upV n)) ∧ w = w' := by
  have e : (n + 15).tdiv 16 = (n + 15) / 16 := Int.tdiv_eq_ediv_of_nonneg (by omega)
  have e1 : wrap64 ((n + 15) / 16 * 16) = (n + 15) / 16 * 16 := by unfold wrap64; omega
  go_enter Try.func26, Try.ntmps26
  go_wp2
  go_ret
  exact ⟨ret_int (by unfold upV; omega), rfl⟩

theorem size_any (r a : Int) (w : World) (hr : -9223372036854775808 ≤ r) (hr' : r < 9223372036854775808) (ha : -9223372036854775808 ≤ a) (ha' : a < 9223372036854775808) :
    Calls Try.prog 8 #[.int .i64 r, .int .i64 a] w fun e w' => e = .returned (.tuple #[.int .i64 (fsV r a), .int .i64 (fsE r a)]) ∧ w = w' := by
  by_cases h1 : r < 0
  · have HE := Lib.hid (fs_no (r := r) (a := a) (by omega))
    have d0 : decide (r < 0) = true := by simpa using h1
    have HH := Lib.hid hr
    clear h1 hr hr' ha ha'
    go_enter Try.func8, Try.ntmps8
    go_wp2
    go_ret2
    exact ⟨ret_int2 HE.out.1.symm HE.out.2.symm, rfl⟩
  by_cases h2 : 64 < r
  · have HE := Lib.hid (fs_no (r := r) (a := a) (by omega))
    have d0 : decide (r < 0) = false := by simpa using (by omega : ¬ (r < 0))
    have d1 : decide (64 < r) = true := by simpa using h2
    have HH := Lib.hid hr
    clear h1 h2 hr hr' ha ha'
    go_enter Try.func8, Try.ntmps8
    go_wp2
    go_ret2
    exact ⟨ret_int2 HE.out.1.symm HE.out.2.symm, rfl⟩
  by_cases h3 : a < 0
  · have HE := Lib.hid (fs_no (r := r) (a := a) (by omega))
    have d0 : decide (r < 0) = false := by simpa using (by omega : ¬ (r < 0))
    have d1 : decide (64 < r) = false := by simpa using (by omega : ¬ (64 < r))
    have d2 : decide (a < 0) = true := by simpa using h3
    have HH := Lib.hid hr
    clear h1 h2 h3 hr hr' ha ha'
    go_enter Try.func8, Try.ntmps8
    go_wp2
    go_ret2
    exact ⟨ret_int2 HE.out.1.symm HE.out.2.symm, rfl⟩
  by_cases h4 : 4096 < a
  · have HE := Lib.hid (fs_no (r := r) (a := a) (by omega))
    have d0 : decide (r < 0) = false := by simpa using (by omega : ¬ (r < 0))
    have d1 : decide (64 < r) = false := by simpa using (by omega : ¬ (64 < r))
    have d2 : decide (a < 0) = false := by simpa using (by omega : ¬ (a < 0))
    have d3 : decide (4096 < a) = true := by simpa using h4
    have HH := Lib.hid hr
    clear h1 h2 h3 h4 hr hr' ha ha'
    go_enter Try.func8, Try.ntmps8
    go_wp2
    go_ret2
    exact ⟨ret_int2 HE.out.1.symm HE.out.2.symm, rfl⟩
  have HE := Lib.hid (fs_ok (r := r) (a := a) (by omega) (by omega) (by omega) (by omega))
  have HC := Lib.hid (fun w => upI_any (8 * r + a) w (by omega) (by omega))
  have d0 : decide (r < 0) = false := by simpa using (by omega : ¬ (r < 0))
  have d1 : decide (64 < r) = false := by simpa using (by omega : ¬ (64 < r))
  have d2 : decide (a < 0) = false := by simpa using (by omega : ¬ (a < 0))
  have d3 : decide (4096 < a) = false := by simpa using (by omega : ¬ (4096 < a))
  have e1 : wrap64 (8 * r) = 8 * r := by unfold wrap64; omega
  have e2 : wrap64 (8 * r + a) = 8 * r + a := by unfold wrap64; omega
  go_enter Try.func8, Try.ntmps8
  go_wp2_with (go_at_call 25; (with_reducible refine (HC.out _).mono ?_); rintro e w' ⟨rfl, rfl⟩)
  go_ret2
  exact ⟨ret_int2 HE.out.1.symm HE.out.2.symm, rfl⟩

theorem rsize_any (r a : Int) (w : World) (hr : -9223372036854775808 ≤ r) (hr' : r < 9223372036854775808) (ha : -9223372036854775808 ≤ a) (ha' : a < 9223372036854775808) :
    Calls Try.prog 9 #[.int .i64 r, .int .i64 a] w fun e w' => e = .returned (.tuple #[.int .i64 (fsV r a), .int .i64 (fsE r a)]) ∧ w = w' := by
  by_cases h1 : r < 0
  · have HE := Lib.hid (fs_no (r := r) (a := a) (by omega))
    have d0 : decide (r < 0) = true := by simpa using h1
    have HH := Lib.hid hr
    clear h1 hr hr' ha ha'
    go_enter Try.func9, Try.ntmps9
    go_wp2
    go_ret2
    exact ⟨ret_int2 HE.out.1.symm HE.out.2.symm, rfl⟩
  by_cases h2 : 64 < r
  · have HE := Lib.hid (fs_no (r := r) (a := a) (by omega))
    have d0 : decide (r < 0) = false := by simpa using (by omega : ¬ (r < 0))
    have d1 : decide (64 < r) = true := by simpa using h2
    have HH := Lib.hid hr
    clear h1 h2 hr hr' ha ha'
    go_enter Try.func9, Try.ntmps9
    go_wp2
    go_ret2
    exact ⟨ret_int2 HE.out.1.symm HE.out.2.symm, rfl⟩
  by_cases h3 : a < 0
  · have HE := Lib.hid (fs_no (r := r) (a := a) (by omega))
    have d0 : decide (r < 0) = false := by simpa using (by omega : ¬ (r < 0))
    have d1 : decide (64 < r) = false := by simpa using (by omega : ¬ (64 < r))
    have d2 : decide (a < 0) = true := by simpa using h3
    have HH := Lib.hid hr
    clear h1 h2 h3 hr hr' ha ha'
    go_enter Try.func9, Try.ntmps9
    go_wp2
    go_ret2
    exact ⟨ret_int2 HE.out.1.symm HE.out.2.symm, rfl⟩
  by_cases h4 : 4096 < a
  · have HE := Lib.hid (fs_no (r := r) (a := a) (by omega))
    have d0 : decide (r < 0) = false := by simpa using (by omega : ¬ (r < 0))
    have d1 : decide (64 < r) = false := by simpa using (by omega : ¬ (64 < r))
    have d2 : decide (a < 0) = false := by simpa using (by omega : ¬ (a < 0))
    have d3 : decide (4096 < a) = true := by simpa using h4
    have HH := Lib.hid hr
    clear h1 h2 h3 h4 hr hr' ha ha'
    go_enter Try.func9, Try.ntmps9
    go_wp2
    go_ret2
    exact ⟨ret_int2 HE.out.1.symm HE.out.2.symm, rfl⟩
  have HE := Lib.hid (fs_ok (r := r) (a := a) (by omega) (by omega) (by omega) (by omega))
  have HC := Lib.hid (fun w => rup_any (8 * r + a) w (by omega) (by omega))
  have d0 : decide (r < 0) = false := by simpa using (by omega : ¬ (r < 0))
  have d1 : decide (64 < r) = false := by simpa using (by omega : ¬ (64 < r))
  have d2 : decide (a < 0) = false := by simpa using (by omega : ¬ (a < 0))
  have d3 : decide (4096 < a) = false := by simpa using (by omega : ¬ (4096 < a))
  have e1 : wrap64 (8 * r) = 8 * r := by unfold wrap64; omega
  have e2 : wrap64 (8 * r + a) = 8 * r + a := by unfold wrap64; omega
  go_enter Try.func9, Try.ntmps9
  go_wp2_with (go_at_call 26; (with_reducible refine (HC.out _).mono ?_); rintro e w' ⟨rfl, rfl⟩)
  go_ret2
  exact ⟨ret_int2 HE.out.1.symm HE.out.2.symm, rfl⟩

theorem slot_any (x n : Int) (w : World) (hx : 0 ≤ x) (hx' : x < 18446744073709551616) (hn : -9223372036854775808 ≤ n) (hn' : n < 9223372036854775808) :
    Calls Try.prog 10 #[.int .u64 x, .int .i64 n] w fun e w' => e = .returned (.int .u64 (slotV x n)) ∧ w = w' := by
  clear hx hx' hn hn'
  go_enter Try.func10, Try.ntmps10
  go_wp2
  go_ret
  exact ⟨ret_int (by unfold slotV; simp only [IntKind.wrap_u64]; omega), rfl⟩

theorem rslot_any (x n : Int) (w : World) (hx : 0 ≤ x) (hx' : x < 18446744073709551616) (hn : -9223372036854775808 ≤ n) (hn' : n < 9223372036854775808) :
    Calls Try.prog 11 #[.int .u64 x, .int .i64 n] w fun e w' => e = .returned (.int .u64 (slotV x n)) ∧ w = w' := by
  clear hx hx' hn hn'
  go_enter Try.func11, Try.ntmps11
  go_wp2
  go_ret
  exact ⟨ret_int (by unfold slotV; simp only [IntKind.wrap_u64]; omega), rfl⟩

theorem area_any (x r n : Int) (w : World) (hx : 0 ≤ x) (hx' : x < 18446744073709551616) (hr : -9223372036854775808 ≤ r) (hr' : r < 9223372036854775808) (hn : -9223372036854775808 ≤ n) (hn' : n < 9223372036854775808) :
    Calls Try.prog 12 #[.int .u64 x, .int .i64 r, .int .i64 n] w fun e w' => e = .returned (.int .u64 (areaV x r n)) ∧ w = w' := by
  have HC := Lib.hid (fun w => slot_any x r w hx hx' hr hr')
  clear hx hx' hr hr' hn hn'
  go_enter Try.func12, Try.ntmps12
  go_wp2_with (go_at_call 10; (with_reducible refine (HC.out _).mono ?_); rintro e w' ⟨rfl, rfl⟩)
  go_ret
  exact ⟨ret_int (by unfold slotV areaV; simp only [IntKind.wrap_u64]; omega), rfl⟩
theorem rarea_any (x r n : Int) (w : World) :
    Calls Try.prog 13 #[.int .u64 x, .int .i64 r, .int .i64 n] w fun e w' => e = .returned (.int .u64 (areaV x r n)) ∧ w = w' := by
  go_enter Try.func13, Try.ntmps13
  go_wp2
  go_ret
  exact ⟨ret_int (by unfold areaV; simp only [IntKind.wrap_u64]; omega), rfl⟩

theorem floor_any (n : Int) (w : World) (hn : -9223372036854775808 ≤ n) (hn' : n < 9223372036854775808) :
    Calls Try.prog 15 #[.int .i64 n] w fun e w' => e = .returned (.tuple #[.int .u64 (floorV n), .int .i64 (floorE n)]) ∧ w = w' := by
  by_cases h1 : n < 0
  · have HE := Lib.hid (show floorV n = 0 ∧ floorE n = 2 by unfold floorV floorE; rw [if_neg (by omega), if_neg (by omega)]; exact ⟨rfl, rfl⟩)
    have d1 : decide (n < 0) = true := by simpa using h1
    clear h1 hn hn'
    go_enter Try.func15, Try.ntmps15
    go_wp2
    go_ret2
    exact ⟨ret_int2 HE.out.1.symm HE.out.2.symm, rfl⟩
  by_cases h2 : 8192 < n
  · have HE := Lib.hid (show floorV n = 0 ∧ floorE n = 2 by unfold floorV floorE; rw [if_neg (by omega), if_neg (by omega)]; exact ⟨rfl, rfl⟩)
    have d1 : decide (n < 0) = false := by simpa using h1
    have d2 : decide (8192 < n) = true := by simpa using h2
    clear h1 h2 hn hn'
    go_enter Try.func15, Try.ntmps15
    go_wp2
    go_ret2
    exact ⟨ret_int2 HE.out.1.symm HE.out.2.symm, rfl⟩
  have HE := Lib.hid (show floorV n = upV (16 + n) ∧ floorE n = 0 by unfold floorV floorE; rw [if_pos (by omega), if_pos (by omega)]; exact ⟨rfl, rfl⟩)
  have d1 : decide (n < 0) = false := by simpa using h1
  have d2 : decide (8192 < n) = false := by simpa using h2
  have d3 : 0 ≤ upV (16 + n) ∧ upV (16 + n) < 100000 := by unfold upV; omega
  have HC := Lib.hid (fun w => upU_any (16 + n) w (by omega) (by omega))
  have e1 : n % 18446744073709551616 = n := by omega
  have e2 : (16 + n) % 18446744073709551616 = 16 + n := by omega
  have e3 : wrap64 (16 + n) = 16 + n := by unfold wrap64; omega
  go_enter Try.func15, Try.ntmps15
  go_wp2_with (go_at_call 28; (with_reducible refine (HC.out _).mono ?_); rintro e w' ⟨rfl, rfl⟩)
  go_ret2
  exact ⟨ret_int2 (by rw [HE.out.1]) HE.out.2.symm, rfl⟩

theorem rfloor_any (n : Int) (w : World) (hn : -9223372036854775808 ≤ n) (hn' : n < 9223372036854775808) :
    Calls Try.prog 16 #[.int .i64 n] w fun e w' => e = .returned (.tuple #[.int .u64 (floorV n), .int .i64 (floorE n)]) ∧ w = w' := by
  by_cases h1 : n < 0
  · have HE := Lib.hid (show floorV n = 0 ∧ floorE n = 2 by unfold floorV floorE; rw [if_neg (by omega), if_neg (by omega)]; exact ⟨rfl, rfl⟩)
    have d1 : decide (n < 0) = true := by simpa using h1
    clear h1 hn hn'
    go_enter Try.func16, Try.ntmps16
    go_wp2
    go_ret2
    exact ⟨ret_int2 HE.out.1.symm HE.out.2.symm, rfl⟩
  by_cases h2 : 8192 < n
  · have HE := Lib.hid (show floorV n = 0 ∧ floorE n = 2 by unfold floorV floorE; rw [if_neg (by omega), if_neg (by omega)]; exact ⟨rfl, rfl⟩)
    have d1 : decide (n < 0) = false := by simpa using h1
    have d2 : decide (8192 < n) = true := by simpa using h2
    clear h1 h2 hn hn'
    go_enter Try.func16, Try.ntmps16
    go_wp2
    go_ret2
    exact ⟨ret_int2 HE.out.1.symm HE.out.2.symm, rfl⟩
  have HE := Lib.hid (show floorV n = upV (16 + n) ∧ floorE n = 0 by unfold floorV floorE; rw [if_pos (by omega), if_pos (by omega)]; exact ⟨rfl, rfl⟩)
  have d1 : decide (n < 0) = false := by simpa using h1
  have d2 : decide (8192 < n) = false := by simpa using h2
  have d3 : 0 ≤ upV (16 + n) ∧ upV (16 + n) < 100000 := by unfold upV; omega
  have HC := Lib.hid (fun w => rup_any (16 + n) w (by omega) (by omega))
  have e1 : n % 18446744073709551616 = n := by omega
  have e2 : (16 + n) % 18446744073709551616 = 16 + n := by omega
  have e3 : wrap64 (16 + n) = 16 + n := by unfold wrap64; omega
  go_enter Try.func16, Try.ntmps16
  go_wp2_with (go_at_call 26; (with_reducible refine (HC.out _).mono ?_); rintro e w' ⟨rfl, rfl⟩)
  go_ret2
  exact ⟨ret_int2 (by rw [HE.out.1]) HE.out.2.symm, rfl⟩

theorem top_any (n : Int) (w : World) (hn : -9223372036854775808 ≤ n) (hn' : n < 9223372036854775808) :
    Calls Try.prog 17 #[.int .i64 n] w fun e w' => e = .returned (.tuple #[.int .u64 (topV n), .int .i64 (topE n)]) ∧ w = w' := by
  by_cases h1 : n < 16
  · have HE := Lib.hid (show topV n = 0 ∧ topE n = 2 by unfold topV topE; rw [if_neg (by omega), if_neg (by omega)]; exact ⟨rfl, rfl⟩)
    have d1 : decide (n < 16) = true := by simpa using h1
    clear h1 hn hn'
    go_enter Try.func17, Try.ntmps17
    go_wp2
    go_ret2
    exact ⟨ret_int2 HE.out.1.symm HE.out.2.symm, rfl⟩
  by_cases h2 : 65536 < n
  · have HE := Lib.hid (show topV n = 0 ∧ topE n = 2 by unfold topV topE; rw [if_neg (by omega), if_neg (by omega)]; exact ⟨rfl, rfl⟩)
    have d1 : decide (n < 16) = false := by simpa using h1
    have d2 : decide (65536 < n) = true := by simpa using h2
    clear h1 h2 hn hn'
    go_enter Try.func17, Try.ntmps17
    go_wp2
    go_ret2
    exact ⟨ret_int2 HE.out.1.symm HE.out.2.symm, rfl⟩
  have HE := Lib.hid (show topV n = dnV n ∧ topE n = 0 by unfold topV topE; rw [if_pos (by omega), if_pos (by omega)]; exact ⟨rfl, rfl⟩)
  have d1 : decide (n < 16) = false := by simpa using h1
  have d2 : decide (65536 < n) = false := by simpa using h2
  have d3 : 0 ≤ dnV n ∧ dnV n < 100000 := by unfold dnV; omega
  have HC := Lib.hid (fun w => downU_any (n) w (by omega) (by omega))
  have e1 : n % 18446744073709551616 = n := by omega
  have e2 : (16 + n) % 18446744073709551616 = 16 + n := by omega
  have e3 : wrap64 (16 + n) = 16 + n := by unfold wrap64; omega
  go_enter Try.func17, Try.ntmps17
  go_wp2_with (go_at_call 29; (with_reducible refine (HC.out _).mono ?_); rintro e w' ⟨rfl, rfl⟩)
  go_ret2
  exact ⟨ret_int2 (by rw [HE.out.1]) HE.out.2.symm, rfl⟩

theorem rtop_any (n : Int) (w : World) (hn : -9223372036854775808 ≤ n) (hn' : n < 9223372036854775808) :
    Calls Try.prog 18 #[.int .i64 n] w fun e w' => e = .returned (.tuple #[.int .u64 (topV n), .int .i64 (topE n)]) ∧ w = w' := by
  by_cases h1 : n < 16
  · have HE := Lib.hid (show topV n = 0 ∧ topE n = 2 by unfold topV topE; rw [if_neg (by omega), if_neg (by omega)]; exact ⟨rfl, rfl⟩)
    have d1 : decide (n < 16) = true := by simpa using h1
    clear h1 hn hn'
    go_enter Try.func18, Try.ntmps18
    go_wp2
    go_ret2
    exact ⟨ret_int2 HE.out.1.symm HE.out.2.symm, rfl⟩
  by_cases h2 : 65536 < n
  · have HE := Lib.hid (show topV n = 0 ∧ topE n = 2 by unfold topV topE; rw [if_neg (by omega), if_neg (by omega)]; exact ⟨rfl, rfl⟩)
    have d1 : decide (n < 16) = false := by simpa using h1
    have d2 : decide (65536 < n) = true := by simpa using h2
    clear h1 h2 hn hn'
    go_enter Try.func18, Try.ntmps18
    go_wp2
    go_ret2
    exact ⟨ret_int2 HE.out.1.symm HE.out.2.symm, rfl⟩
  have HE := Lib.hid (show topV n = dnV n ∧ topE n = 0 by unfold topV topE; rw [if_pos (by omega), if_pos (by omega)]; exact ⟨rfl, rfl⟩)
  have d1 : decide (n < 16) = false := by simpa using h1
  have d2 : decide (65536 < n) = false := by simpa using h2
  have d3 : 0 ≤ dnV n ∧ dnV n < 100000 := by unfold dnV; omega
  have e1 : n.tdiv 16 = n / 16 := Int.tdiv_eq_ediv_of_nonneg (by omega)
  have e2 : wrap64 (n / 16 * 16) = n / 16 * 16 := by unfold wrap64; omega
  go_enter Try.func18, Try.ntmps18
  go_wp2
  go_ret2
  exact ⟨ret_int2 (by rw [HE.out.1, dn_mul]) HE.out.2.symm, rfl⟩

end Go.Proofs.Ytoalncjljchipaa