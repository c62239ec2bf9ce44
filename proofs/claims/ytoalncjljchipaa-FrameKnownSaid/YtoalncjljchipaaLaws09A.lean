/- What the helpers of the statements of layer 9 return (sized, pushed, awake), and the statements FrameKnown, FrameTells, FramePushes: true in whatever memory, which stays as it was. -/
import Derived.Test.YtoalncjljchipaaFrame09C
import Derived.Below
namespace Go.Proofs.Ytoalncjljchipaa
open Go.RowKit
set_option linter.unusedVariables false

theorem sized_yes (r a n : Int) (w : World) (hr : -9223372036854775808 ≤ r) (hr' : r < 9223372036854775808) (ha : -9223372036854775808 ≤ a) (ha' : a < 9223372036854775808) (he : fsE r a = 0) (hv : fsV r a = n) :
    Calls Try.prog 27 #[.int .i64 r, .int .i64 a, .int .i64 n] w fun e w' => e = .returned (.bool true) ∧ w = w' := by
  have hc := fun w => size_any r a w hr hr' ha ha'
  rw [he, hv] at hc
  have HC := Lib.hid hc
  clear hc he hv hr hr' ha ha'
  go_enter Try.func27, Try.ntmps27
  go_wp2_with (go_at_call 8; (with_reducible refine (HC.out _).mono ?_); rintro e w' ⟨rfl, rfl⟩)
  go_ret
  exact ⟨rfl, rfl⟩
theorem pushed_yes (x y z : Int) (w : World) (hx : 0 ≤ x) (hx' : x < 18446744073709551616) (hv : pushV x 3 5 32 = y) (he : pushE x 3 5 32 = z) :
    Calls Try.prog 23 #[.int .u64 x, .int .u64 y, .int .i64 z] w fun e w' => e = .returned (.bool true) ∧ w = w' := by
  have hc := fun w => push_any x 3 5 32 w hx hx' (by decide) (by decide) (by decide) (by decide) (by decide) (by decide)
  rw [he, hv] at hc
  have HC := Lib.hid hc
  clear hc he hv hx hx'
  go_enter Try.func23, Try.ntmps23
  go_wp2_with (go_at_call 19; (with_reducible refine (HC.out _).mono ?_); rintro e w' ⟨rfl, rfl⟩)
  go_ret
  exact ⟨rfl, rfl⟩
theorem awake9_any (w : World) : Calls Try.prog 14 #[] w fun e w' => e = .returned (.bool true) ∧ w = w' := by
  have H1 := Lib.hid (fun w => sized_yes 3 5 32 w (by decide) (by decide) (by decide) (by decide) (by decide +kernel) (by decide +kernel))
  have H2 := Lib.hid (fun w => sized_yes 0 0 0 w (by decide) (by decide) (by decide) (by decide) (by decide +kernel) (by decide +kernel))
  have H3 := Lib.hid (fun w => sized_yes 2 16 32 w (by decide) (by decide) (by decide) (by decide) (by decide +kernel) (by decide +kernel))
  have H4 := Lib.hid (fun w => pushed_yes 96 64 0 w (by decide) (by decide) (by decide +kernel) (by decide +kernel))
  have H5 := Lib.hid (fun w => (show slotV 64 2 = 80 by decide +kernel) ▸ slot_any 64 2 w (by decide) (by decide) (by decide) (by decide))
  have H6 := Lib.hid (fun w => (show areaV 64 3 5 = 93 by decide +kernel) ▸ area_any 64 3 5 w (by decide) (by decide) (by decide) (by decide) (by decide) (by decide))
  go_enter Try.func14, Try.ntmps14
  go_wp2_with (first
    | (go_at_call 27; (with_reducible refine (H1.out _).mono ?_); rintro e w' ⟨rfl, rfl⟩)
    | (go_at_call 27; (with_reducible refine (H2.out _).mono ?_); rintro e w' ⟨rfl, rfl⟩)
    | (go_at_call 27; (with_reducible refine (H3.out _).mono ?_); rintro e w' ⟨rfl, rfl⟩)
    | (go_at_call 23; (with_reducible refine (H4.out _).mono ?_); rintro e w' ⟨rfl, rfl⟩)
    | (go_at_call 10; (with_reducible refine (H5.out _).mono ?_); rintro e w' ⟨rfl, rfl⟩)
    | (go_at_call 12; (with_reducible refine (H6.out _).mono ?_); rintro e w' ⟨rfl, rfl⟩))
  go_ret
  exact ⟨rfl, rfl⟩
theorem known9_any (w : World) : Calls Try.prog 5 #[] w fun e w' => e = .returned (.bool true) ∧ w = w' := by
  have HA := Lib.hid (fun w => awake9_any w)
  have H1 := Lib.hid (fun w => (show fsV 65 0 = 0 by decide +kernel) ▸ (show fsE 65 0 = 2 by decide +kernel) ▸ size_any 65 0 w (by decide) (by decide) (by decide) (by decide))
  have H2 := Lib.hid (fun w => (show floorV 0 = 16 by decide +kernel) ▸ (show floorE 0 = 0 by decide +kernel) ▸ floor_any 0 w (by decide) (by decide))
  have H3 := Lib.hid (fun w => (show floorV 1 = 32 by decide +kernel) ▸ (show floorE 1 = 0 by decide +kernel) ▸ floor_any 1 w (by decide) (by decide))
  have H4 := Lib.hid (fun w => (show topV 100 = 96 by decide +kernel) ▸ (show topE 100 = 0 by decide +kernel) ▸ top_any 100 w (by decide) (by decide))
  have H5 := Lib.hid (fun w => (show topV 15 = 0 by decide +kernel) ▸ (show topE 15 = 2 by decide +kernel) ▸ top_any 15 w (by decide) (by decide))
  have H6 := Lib.hid (fun w => (show popV 64 3 5 = 96 by decide +kernel) ▸ (show popE 64 3 5 = 0 by decide +kernel) ▸ pop_any 64 3 5 w (by decide) (by decide) (by decide) (by decide) (by decide) (by decide))
  have P1 := Lib.hid (fun w => pushed_yes 64 32 0 w (by decide) (by decide) (by decide +kernel) (by decide +kernel))
  have P2 := Lib.hid (fun w => pushed_yes 48 0 8 w (by decide) (by decide) (by decide +kernel) (by decide +kernel))
  have P3 := Lib.hid (fun w => pushed_yes 40 0 5 w (by decide) (by decide) (by decide +kernel) (by decide +kernel))
  go_enter Try.func5, Try.ntmps5
  go_wp2_with (first
    | (go_at_call 14; (with_reducible refine (HA.out _).mono ?_); rintro e w' ⟨rfl, rfl⟩)
    | (go_at_call 8; (with_reducible refine (H1.out _).mono ?_); rintro e w' ⟨rfl, rfl⟩)
    | (go_at_call 15; (with_reducible refine (H2.out _).mono ?_); rintro e w' ⟨rfl, rfl⟩)
    | (go_at_call 15; (with_reducible refine (H3.out _).mono ?_); rintro e w' ⟨rfl, rfl⟩)
    | (go_at_call 17; (with_reducible refine (H4.out _).mono ?_); rintro e w' ⟨rfl, rfl⟩)
    | (go_at_call 17; (with_reducible refine (H5.out _).mono ?_); rintro e w' ⟨rfl, rfl⟩)
    | (go_at_call 21; (with_reducible refine (H6.out _).mono ?_); rintro e w' ⟨rfl, rfl⟩)
    | (go_at_call 23; (with_reducible refine (P1.out _).mono ?_); rintro e w' ⟨rfl, rfl⟩)
    | (go_at_call 23; (with_reducible refine (P2.out _).mono ?_); rintro e w' ⟨rfl, rfl⟩)
    | (go_at_call 23; (with_reducible refine (P3.out _).mono ?_); rintro e w' ⟨rfl, rfl⟩))
  go_ret
  exact ⟨rfl, rfl⟩
theorem tells9_any (x r a n : Int) (w : World) (hx : 0 ≤ x) (hx' : x < 18446744073709551616) (hr : -9223372036854775808 ≤ r) (hr' : r < 9223372036854775808) (ha : -9223372036854775808 ≤ a) (ha' : a < 9223372036854775808) (hn : -9223372036854775808 ≤ n) (hn' : n < 9223372036854775808) :
    Calls Try.prog 3 #[.int .u64 x, .int .i64 r, .int .i64 a, .int .i64 n] w fun e w' => e = .returned (.bool true) ∧ Below w.heap.size w w' := by
  have HA := Lib.hid (fun w => awake9_any w)
  have h1 := fun w => size_any r a w hr hr' ha ha'
  have h2 := fun w => rsize_any r a w hr hr' ha ha'
  have h3 := fun w => slot_any x n w hx hx' hn hn'
  have h4 := fun w => rslot_any x n w hx hx' hn hn'
  have h5 := fun w => area_any x r n w hx hx' hr hr' hn hn'
  have h6 := fun w => rarea_any x r n w
  clear hr hr' ha ha' hn hn' hx hx'
  generalize fsV r a = v1 at h1 h2
  generalize fsE r a = v2 at h1 h2
  generalize slotV x n = v3 at h3 h4
  generalize areaV x r n = v4 at h5 h6
  have H1 := Lib.hid h1
  have H2 := Lib.hid h2
  have H3 := Lib.hid h3
  have H4 := Lib.hid h4
  have H5 := Lib.hid h5
  have H6 := Lib.hid h6
  clear h1 h2 h3 h4 h5 h6
  go_enter Try.func3, Try.ntmps3
  go_wp2_with (first
    | (go_at_call 14; (with_reducible refine (HA.out _).mono ?_); rintro e w' ⟨rfl, rfl⟩)
    | (go_at_call 8; (with_reducible refine (H1.out _).mono ?_); rintro e w' ⟨rfl, rfl⟩)
    | (go_at_call 9; (with_reducible refine (H2.out _).mono ?_); rintro e w' ⟨rfl, rfl⟩)
    | (go_at_call 10; (with_reducible refine (H3.out _).mono ?_); rintro e w' ⟨rfl, rfl⟩)
    | (go_at_call 11; (with_reducible refine (H4.out _).mono ?_); rintro e w' ⟨rfl, rfl⟩)
    | (go_at_call 12; (with_reducible refine (H5.out _).mono ?_); rintro e w' ⟨rfl, rfl⟩)
    | (go_at_call 13; (with_reducible refine (H6.out _).mono ?_); rintro e w' ⟨rfl, rfl⟩))
  go_ret
  exact ⟨rfl, Below.refl _ _⟩
theorem pushes9_any (x r a f n : Int) (w : World) (hx : 0 ≤ x) (hx' : x < 18446744073709551616) (hr : -9223372036854775808 ≤ r) (hr' : r < 9223372036854775808) (ha : -9223372036854775808 ≤ a) (ha' : a < 9223372036854775808) (hf : 0 ≤ f) (hf' : f < 18446744073709551616) (hn : -9223372036854775808 ≤ n) (hn' : n < 9223372036854775808) :
    Calls Try.prog 4 #[.int .u64 x, .int .i64 r, .int .i64 a, .int .u64 f, .int .i64 n] w fun e w' => e = .returned (.bool true) ∧ Below w.heap.size w w' := by
  have HA := Lib.hid (fun w => awake9_any w)
  have h1 := fun w => floor_any n w hn hn'
  have h2 := fun w => rfloor_any n w hn hn'
  have h3 := fun w => top_any n w hn hn'
  have h4 := fun w => rtop_any n w hn hn'
  have h5 := fun w => push_any x r a f w hx hx' hf hf' hr hr' ha ha'
  have h6 := fun w => rpush_any x r a f w hx hx' hf hf' hr hr' ha ha'
  have h7 := fun w => pop_any x r a w hx hx' hr hr' ha ha'
  have h8 := fun w => rpop_any x r a w hx hx' hr hr' ha ha'
  clear hr hr' ha ha' hn hn' hx hx' hf hf'
  generalize floorV n = v1 at h1 h2
  generalize floorE n = v2 at h1 h2
  generalize topV n = v3 at h3 h4
  generalize topE n = v4 at h3 h4
  generalize pushV x r a f = v5 at h5 h6
  generalize pushE x r a f = v6 at h5 h6
  generalize popV x r a = v7 at h7 h8
  generalize popE x r a = v8 at h7 h8
  have H1 := Lib.hid h1
  have H2 := Lib.hid h2
  have H3 := Lib.hid h3
  have H4 := Lib.hid h4
  have H5 := Lib.hid h5
  have H6 := Lib.hid h6
  have H7 := Lib.hid h7
  have H8 := Lib.hid h8
  clear h1 h2 h3 h4 h5 h6 h7 h8
  go_enter Try.func4, Try.ntmps4
  go_wp2_with (first
    | (go_at_call 14; (with_reducible refine (HA.out _).mono ?_); rintro e w' ⟨rfl, rfl⟩)
    | (go_at_call 15; (with_reducible refine (H1.out _).mono ?_); rintro e w' ⟨rfl, rfl⟩)
    | (go_at_call 16; (with_reducible refine (H2.out _).mono ?_); rintro e w' ⟨rfl, rfl⟩)
    | (go_at_call 17; (with_reducible refine (H3.out _).mono ?_); rintro e w' ⟨rfl, rfl⟩)
    | (go_at_call 18; (with_reducible refine (H4.out _).mono ?_); rintro e w' ⟨rfl, rfl⟩)
    | (go_at_call 19; (with_reducible refine (H5.out _).mono ?_); rintro e w' ⟨rfl, rfl⟩)
    | (go_at_call 20; (with_reducible refine (H6.out _).mono ?_); rintro e w' ⟨rfl, rfl⟩)
    | (go_at_call 21; (with_reducible refine (H7.out _).mono ?_); rintro e w' ⟨rfl, rfl⟩)
    | (go_at_call 22; (with_reducible refine (H8.out _).mono ?_); rintro e w' ⟨rfl, rfl⟩))
  go_ret
  exact ⟨rfl, Below.refl _ _⟩
theorem known9_law (w : World) : Calls Try.prog 5 #[] w fun e w' => e = .returned (.bool true) ∧ Below w.heap.size w w' :=
  (known9_any w).mono fun e w' ⟨he, hw⟩ => ⟨he, hw ▸ Below.refl _ _⟩
end Go.Proofs.Ytoalncjljchipaa
