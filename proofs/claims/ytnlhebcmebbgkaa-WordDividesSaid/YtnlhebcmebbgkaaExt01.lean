/- What Zext, Sext, Half of package word return, and the document's own way of both and of Do: contracts for all numbers of 64 bits, any size, any number as a function, in whatever memory. -/
import Derived.Test.YtnlhebcmebbgkaaRows
import Derived.Test.YtnlhebcmebbgkaaMath01
import Derived.Test.YtnlhebcmebbgkaaFns01
import Derived.WalkKit
import Derived.WalkSpells
import Derived.WalkLawsBesides
import Derived.ProofKit
import Derived.Lib.Hide
namespace Go.Proofs.Ytnlhebcmebbgkaa
open Go.RowKit
set_option linter.unusedVariables false

theorem isSize_any (s : Int) (w : World) : Calls Try.prog 35 #[.int .i64 s] w fun e w' => e = .returned (.bool (sizedB s)) ∧ w = w' := by
  by_cases h1 : s = 1
  · subst h1
    go_enter Try.func35, Try.ntmps35
    go_wp2
    go_ret
    exact ⟨rfl, rfl⟩
  by_cases h2 : s = 2
  · subst h2
    go_enter Try.func35, Try.ntmps35
    go_wp2
    go_ret
    exact ⟨rfl, rfl⟩
  by_cases h4 : s = 4
  · subst h4
    go_enter Try.func35, Try.ntmps35
    go_wp2
    go_ret
    exact ⟨rfl, rfl⟩
  by_cases h8 : s = 8
  · subst h8
    go_enter Try.func35, Try.ntmps35
    go_wp2
    go_ret
    exact ⟨rfl, rfl⟩
  have e : sizedB s = false := by simp [sizedB, h1, h2, h4, h8]
  rw [e]
  clear e
  have b1 : (s == 1) = false := by simpa using h1
  have b2 : (s == 2) = false := by simpa using h2
  have b4 : (s == 4) = false := by simpa using h4
  have b8 : (s == 8) = false := by simpa using h8
  clear h1 h2 h4 h8
  go_enter Try.func35, Try.ntmps35
  go_wp2
  go_ret
  exact ⟨rfl, rfl⟩
theorem isSize_any_no {s : Int} (h : sizedB s = false) (w : World) : Calls Try.prog 35 #[.int .i64 s] w fun e w' => e = .returned (.bool false) ∧ w = w' := by
  rw [← h]
  exact isSize_any s w
theorem sized_any (s : Int) (w : World) : Calls Try.prog 36 #[.int .i64 s] w fun e w' => e = .returned (.bool (sizedB s)) ∧ w = w' := by
  by_cases h1 : s = 1
  · subst h1
    go_enter Try.func36, Try.ntmps36
    go_wp2
    go_ret
    exact ⟨rfl, rfl⟩
  by_cases h2 : s = 2
  · subst h2
    go_enter Try.func36, Try.ntmps36
    go_wp2
    go_ret
    exact ⟨rfl, rfl⟩
  by_cases h4 : s = 4
  · subst h4
    go_enter Try.func36, Try.ntmps36
    go_wp2
    go_ret
    exact ⟨rfl, rfl⟩
  by_cases h8 : s = 8
  · subst h8
    go_enter Try.func36, Try.ntmps36
    go_wp2
    go_ret
    exact ⟨rfl, rfl⟩
  have e : sizedB s = false := by simp [sizedB, h1, h2, h4, h8]
  rw [e]
  clear e
  have b1 : (s == 1) = false := by simpa using h1
  have b2 : (s == 2) = false := by simpa using h2
  have b4 : (s == 4) = false := by simpa using h4
  have b8 : (s == 8) = false := by simpa using h8
  clear h1 h2 h4 h8
  go_enter Try.func36, Try.ntmps36
  go_wp2
  go_ret
  exact ⟨rfl, rfl⟩
theorem sized_any_no {s : Int} (h : sizedB s = false) (w : World) : Calls Try.prog 36 #[.int .i64 s] w fun e w' => e = .returned (.bool false) ∧ w = w' := by
  rw [← h]
  exact sized_any s w
theorem zext_1 (a : Int) (w : World) (ha : 0 ≤ a) (ha' : a < 18446744073709551616) : Calls Try.prog 22 #[.int .u64 a, .int .i64 1] w fun e w' => e = .returned (.int .u64 (zextV a 1)) ∧ w = w' := by
  go_enter Try.func22, Try.ntmps22
  go_wp2
  go_ret
  refine ⟨ret_int ?_, rfl⟩
  try simp only [IntKind.wrap_u64]
  rw [zextV_1]; try omega
theorem zext_2 (a : Int) (w : World) (ha : 0 ≤ a) (ha' : a < 18446744073709551616) : Calls Try.prog 22 #[.int .u64 a, .int .i64 2] w fun e w' => e = .returned (.int .u64 (zextV a 2)) ∧ w = w' := by
  go_enter Try.func22, Try.ntmps22
  go_wp2
  go_ret
  refine ⟨ret_int ?_, rfl⟩
  try simp only [IntKind.wrap_u64]
  rw [zextV_2]; try omega
theorem zext_4 (a : Int) (w : World) (ha : 0 ≤ a) (ha' : a < 18446744073709551616) : Calls Try.prog 22 #[.int .u64 a, .int .i64 4] w fun e w' => e = .returned (.int .u64 (zextV a 4)) ∧ w = w' := by
  go_enter Try.func22, Try.ntmps22
  go_wp2
  go_ret
  refine ⟨ret_int ?_, rfl⟩
  try simp only [IntKind.wrap_u64]
  rw [zextV_4]; try omega
theorem zext_8 (a : Int) (w : World) (ha : 0 ≤ a) (ha' : a < 18446744073709551616) : Calls Try.prog 22 #[.int .u64 a, .int .i64 8] w fun e w' => e = .returned (.int .u64 (zextV a 8)) ∧ w = w' := by
  go_enter Try.func22, Try.ntmps22
  go_wp2
  go_ret
  refine ⟨ret_int ?_, rfl⟩
  try simp only [IntKind.wrap_u64]
  rw [zextV_8]; try omega
theorem zext_no (a s : Int) (w : World) (h : sizedB s = false) : Calls Try.prog 22 #[.int .u64 a, .int .i64 s] w fun e w' => e = .returned (.int .u64 (zextV a s)) ∧ w = w' := by
  rw [zextV_not h]
  have H := Lib.hid h
  clear h
  go_enter Try.func22, Try.ntmps22
  go_wp2_with (go_at_call 35; refine (isSize_any_no H.out _).mono ?_; rintro e w' ⟨rfl, rfl⟩)
  go_ret
  exact ⟨rfl, rfl⟩
theorem zext_any (a s : Int) (w : World) (ha : 0 ≤ a) (ha' : a < 18446744073709551616) : Calls Try.prog 22 #[.int .u64 a, .int .i64 s] w fun e w' => e = .returned (.int .u64 (zextV a s)) ∧ w = w' := by
  cases h : sizedB s
  · exact zext_no a s w h
  · rcases sized_cases h with rfl | rfl | rfl | rfl
    · exact zext_1 a w ha ha'
    · exact zext_2 a w ha ha'
    · exact zext_4 a w ha ha'
    · exact zext_8 a w ha ha'
theorem sext_1 (a : Int) (w : World) (ha : 0 ≤ a) (ha' : a < 18446744073709551616) : Calls Try.prog 24 #[.int .u64 a, .int .i64 1] w fun e w' => e = .returned (.int .u64 (sextV a 1)) ∧ w = w' := by
  go_enter Try.func24, Try.ntmps24
  go_wp2
  go_ret
  refine ⟨ret_int ?_, rfl⟩
  try simp only [IntKind.wrap_u64]
  rw [sextV_1]
  try unfold sext1
  unfold wrap64
  omega
theorem sext_2 (a : Int) (w : World) (ha : 0 ≤ a) (ha' : a < 18446744073709551616) : Calls Try.prog 24 #[.int .u64 a, .int .i64 2] w fun e w' => e = .returned (.int .u64 (sextV a 2)) ∧ w = w' := by
  go_enter Try.func24, Try.ntmps24
  go_wp2
  go_ret
  refine ⟨ret_int ?_, rfl⟩
  try simp only [IntKind.wrap_u64]
  rw [sextV_2]
  try unfold sext1
  unfold wrap64
  omega
theorem sext_4 (a : Int) (w : World) (ha : 0 ≤ a) (ha' : a < 18446744073709551616) : Calls Try.prog 24 #[.int .u64 a, .int .i64 4] w fun e w' => e = .returned (.int .u64 (sextV a 4)) ∧ w = w' := by
  go_enter Try.func24, Try.ntmps24
  go_wp2
  go_ret
  refine ⟨ret_int ?_, rfl⟩
  try simp only [IntKind.wrap_u64]
  rw [sextV_4]
  try unfold sext1
  unfold wrap64
  omega
theorem sext_8 (a : Int) (w : World) (ha : 0 ≤ a) (ha' : a < 18446744073709551616) : Calls Try.prog 24 #[.int .u64 a, .int .i64 8] w fun e w' => e = .returned (.int .u64 (sextV a 8)) ∧ w = w' := by
  go_enter Try.func24, Try.ntmps24
  go_wp2
  go_ret
  refine ⟨ret_int ?_, rfl⟩
  try simp only [IntKind.wrap_u64]
  rw [sextV_8]
  try unfold sext1
  unfold wrap64
  omega
theorem sext_no (a s : Int) (w : World) (h : sizedB s = false) : Calls Try.prog 24 #[.int .u64 a, .int .i64 s] w fun e w' => e = .returned (.int .u64 (sextV a s)) ∧ w = w' := by
  rw [sextV_not h]
  have H := Lib.hid h
  clear h
  go_enter Try.func24, Try.ntmps24
  go_wp2_with (go_at_call 35; refine (isSize_any_no H.out _).mono ?_; rintro e w' ⟨rfl, rfl⟩)
  go_ret
  exact ⟨rfl, rfl⟩
theorem sext_any (a s : Int) (w : World) (ha : 0 ≤ a) (ha' : a < 18446744073709551616) : Calls Try.prog 24 #[.int .u64 a, .int .i64 s] w fun e w' => e = .returned (.int .u64 (sextV a s)) ∧ w = w' := by
  cases h : sizedB s
  · exact sext_no a s w h
  · rcases sized_cases h with rfl | rfl | rfl | rfl
    · exact sext_1 a w ha ha'
    · exact sext_2 a w ha ha'
    · exact sext_4 a w ha ha'
    · exact sext_8 a w ha ha'
theorem half_1 (a b : Int) (w : World) (ha : 0 ≤ a) (ha' : a < 18446744073709551616) (hb : 0 ≤ b) (hb' : b < 18446744073709551616) :
    Calls Try.prog 12 #[.int .i64 1, .int .u64 a, .int .u64 b] w fun e w' => e = .returned (.tuple #[.int .u64 (halfV 1 a b), .int .i64 (halfE 1)]) ∧ w.alloc (.cells table 43) = w' := by
  have hi := tab1
  have hx := zextV_bd (s := 4) ha ha'
  have hy := zextV_bd (s := 4) hb hb'
  have hv := doV_bd (fn := 1) hx.1 hx.2 hy.1 hy.2
  have e : halfV 1 a b = sextV (doV 1 (zextV a 4) (zextV b 4)) 4 := by simp [halfV, halfB, halfX, halfY]
  have e' : halfE 1 = 0 := by simp [halfE, halfB]
  rw [e, e']
  clear e e'
  obtain ⟨hx1, hx2⟩ := hx
  obtain ⟨hy1, hy2⟩ := hy
  go_enter Try.func12, Try.ntmps12
  go_wp2_with (first
    | (go_at_call 30; refine (functions_any _).mono ?_; rintro e w' ⟨rfl, rfl⟩)
    | (go_at_call 22; (first | (with_reducible refine (zext_4 a _ ha ha').mono ?_) | (with_reducible refine (zext_4 b _ hb hb').mono ?_)); rintro e w' ⟨rfl, rfl⟩)
    | (go_at_call 37; (with_reducible refine (fAdd _ _ _).mono ?_); rintro e w' ⟨rfl, rfl⟩)
    | (go_at_call 24; (with_reducible refine (sext_4 _ _ hv.1 hv.2).mono ?_); rintro e w' ⟨rfl, rfl⟩))
  go_ret2
  exact ⟨rfl, rfl⟩
theorem half_2 (a b : Int) (w : World) (ha : 0 ≤ a) (ha' : a < 18446744073709551616) (hb : 0 ≤ b) (hb' : b < 18446744073709551616) :
    Calls Try.prog 12 #[.int .i64 2, .int .u64 a, .int .u64 b] w fun e w' => e = .returned (.tuple #[.int .u64 (halfV 2 a b), .int .i64 (halfE 2)]) ∧ w.alloc (.cells table 43) = w' := by
  have hi := tab2
  have hx := zextV_bd (s := 4) ha ha'
  have hy := zextV_bd (s := 4) hb hb'
  have hv := doV_bd (fn := 2) hx.1 hx.2 hy.1 hy.2
  have e : halfV 2 a b = sextV (doV 2 (zextV a 4) (zextV b 4)) 4 := by simp [halfV, halfB, halfX, halfY]
  have e' : halfE 2 = 0 := by simp [halfE, halfB]
  rw [e, e']
  clear e e'
  obtain ⟨hx1, hx2⟩ := hx
  obtain ⟨hy1, hy2⟩ := hy
  go_enter Try.func12, Try.ntmps12
  go_wp2_with (first
    | (go_at_call 30; refine (functions_any _).mono ?_; rintro e w' ⟨rfl, rfl⟩)
    | (go_at_call 22; (first | (with_reducible refine (zext_4 a _ ha ha').mono ?_) | (with_reducible refine (zext_4 b _ hb hb').mono ?_)); rintro e w' ⟨rfl, rfl⟩)
    | (go_at_call 38; (with_reducible refine (fSub _ _ _).mono ?_); rintro e w' ⟨rfl, rfl⟩)
    | (go_at_call 24; (with_reducible refine (sext_4 _ _ hv.1 hv.2).mono ?_); rintro e w' ⟨rfl, rfl⟩))
  go_ret2
  exact ⟨rfl, rfl⟩
theorem half_3 (a b : Int) (w : World) (ha : 0 ≤ a) (ha' : a < 18446744073709551616) (hb : 0 ≤ b) (hb' : b < 18446744073709551616) :
    Calls Try.prog 12 #[.int .i64 3, .int .u64 a, .int .u64 b] w fun e w' => e = .returned (.tuple #[.int .u64 (halfV 3 a b), .int .i64 (halfE 3)]) ∧ w.alloc (.cells table 43) = w' := by
  have hi := tab3
  have hx := zextV_bd (s := 4) ha ha'
  have hy := zextV_bd (s := 4) hb hb'
  have hv := doV_bd (fn := 3) hx.1 hx.2 hy.1 hy.2
  have e : halfV 3 a b = sextV (doV 3 (zextV a 4) (zextV b 4)) 4 := by simp [halfV, halfB, halfX, halfY]
  have e' : halfE 3 = 0 := by simp [halfE, halfB]
  rw [e, e']
  clear e e'
  obtain ⟨hx1, hx2⟩ := hx
  obtain ⟨hy1, hy2⟩ := hy
  go_enter Try.func12, Try.ntmps12
  go_wp2_with (first
    | (go_at_call 30; refine (functions_any _).mono ?_; rintro e w' ⟨rfl, rfl⟩)
    | (go_at_call 22; (first | (with_reducible refine (zext_4 a _ ha ha').mono ?_) | (with_reducible refine (zext_4 b _ hb hb').mono ?_)); rintro e w' ⟨rfl, rfl⟩)
    | (go_at_call 39; (with_reducible refine (fMul _ _ _).mono ?_); rintro e w' ⟨rfl, rfl⟩)
    | (go_at_call 24; (with_reducible refine (sext_4 _ _ hv.1 hv.2).mono ?_); rintro e w' ⟨rfl, rfl⟩))
  go_ret2
  exact ⟨rfl, rfl⟩
theorem half_7 (a b : Int) (w : World) (ha : 0 ≤ a) (ha' : a < 18446744073709551616) (hb : 0 ≤ b) (hb' : b < 18446744073709551616) :
    Calls Try.prog 12 #[.int .i64 7, .int .u64 a, .int .u64 b] w fun e w' => e = .returned (.tuple #[.int .u64 (halfV 7 a b), .int .i64 (halfE 7)]) ∧ w.alloc (.cells table 43) = w' := by
  have hi := tab7
  have hx := sextV_bd (s := 4) ha ha'
  have hy := sextV_bd (s := 4) hb hb'
  have hv := doV_bd (fn := 7) hx.1 hx.2 hy.1 hy.2
  have e : halfV 7 a b = sextV (doV 7 (sextV a 4) (sextV b 4)) 4 := by simp [halfV, halfB, halfX, halfY]
  have e' : halfE 7 = 0 := by simp [halfE, halfB]
  rw [e, e']
  clear e e'
  obtain ⟨hx1, hx2⟩ := hx
  obtain ⟨hy1, hy2⟩ := hy
  go_enter Try.func12, Try.ntmps12
  go_wp2_with (first
    | (go_at_call 30; refine (functions_any _).mono ?_; rintro e w' ⟨rfl, rfl⟩)
    | (go_at_call 24; (first | (with_reducible refine (sext_4 a _ ha ha').mono ?_) | (with_reducible refine (sext_4 b _ hb hb').mono ?_)); rintro e w' ⟨rfl, rfl⟩)
    | (go_at_call 44; (with_reducible refine (fDiv _ _ _ (sextV_bd ha ha').1 (sextV_bd ha ha').2 (sextV_bd hb hb').1 (sextV_bd hb hb').2).mono ?_); rintro e w' ⟨rfl, rfl⟩)
    | (go_at_call 24; (with_reducible refine (sext_4 _ _ hv.1 hv.2).mono ?_); rintro e w' ⟨rfl, rfl⟩))
  go_ret2
  exact ⟨rfl, rfl⟩
theorem half_8 (a b : Int) (w : World) (ha : 0 ≤ a) (ha' : a < 18446744073709551616) (hb : 0 ≤ b) (hb' : b < 18446744073709551616) :
    Calls Try.prog 12 #[.int .i64 8, .int .u64 a, .int .u64 b] w fun e w' => e = .returned (.tuple #[.int .u64 (halfV 8 a b), .int .i64 (halfE 8)]) ∧ w.alloc (.cells table 43) = w' := by
  have hi := tab8
  have hx := zextV_bd (s := 4) ha ha'
  have hy := zextV_bd (s := 4) hb hb'
  have hv := doV_bd (fn := 8) hx.1 hx.2 hy.1 hy.2
  have e : halfV 8 a b = sextV (doV 8 (zextV a 4) (zextV b 4)) 4 := by simp [halfV, halfB, halfX, halfY]
  have e' : halfE 8 = 0 := by simp [halfE, halfB]
  rw [e, e']
  clear e e'
  obtain ⟨hx1, hx2⟩ := hx
  obtain ⟨hy1, hy2⟩ := hy
  go_enter Try.func12, Try.ntmps12
  go_wp2_with (first
    | (go_at_call 30; refine (functions_any _).mono ?_; rintro e w' ⟨rfl, rfl⟩)
    | (go_at_call 22; (first | (with_reducible refine (zext_4 a _ ha ha').mono ?_) | (with_reducible refine (zext_4 b _ hb hb').mono ?_)); rintro e w' ⟨rfl, rfl⟩)
    | (go_at_call 45; (with_reducible refine (fDivu _ _ _ (zextV_bd ha ha').1 (zextV_bd ha ha').2 (zextV_bd hb hb').1 (zextV_bd hb hb').2).mono ?_); rintro e w' ⟨rfl, rfl⟩)
    | (go_at_call 24; (with_reducible refine (sext_4 _ _ hv.1 hv.2).mono ?_); rintro e w' ⟨rfl, rfl⟩))
  go_ret2
  exact ⟨rfl, rfl⟩
theorem half_9 (a b : Int) (w : World) (ha : 0 ≤ a) (ha' : a < 18446744073709551616) (hb : 0 ≤ b) (hb' : b < 18446744073709551616) :
    Calls Try.prog 12 #[.int .i64 9, .int .u64 a, .int .u64 b] w fun e w' => e = .returned (.tuple #[.int .u64 (halfV 9 a b), .int .i64 (halfE 9)]) ∧ w.alloc (.cells table 43) = w' := by
  have hi := tab9
  have hx := sextV_bd (s := 4) ha ha'
  have hy := sextV_bd (s := 4) hb hb'
  have hv := doV_bd (fn := 9) hx.1 hx.2 hy.1 hy.2
  have e : halfV 9 a b = sextV (doV 9 (sextV a 4) (sextV b 4)) 4 := by simp [halfV, halfB, halfX, halfY]
  have e' : halfE 9 = 0 := by simp [halfE, halfB]
  rw [e, e']
  clear e e'
  obtain ⟨hx1, hx2⟩ := hx
  obtain ⟨hy1, hy2⟩ := hy
  go_enter Try.func12, Try.ntmps12
  go_wp2_with (first
    | (go_at_call 30; refine (functions_any _).mono ?_; rintro e w' ⟨rfl, rfl⟩)
    | (go_at_call 24; (first | (with_reducible refine (sext_4 a _ ha ha').mono ?_) | (with_reducible refine (sext_4 b _ hb hb').mono ?_)); rintro e w' ⟨rfl, rfl⟩)
    | (go_at_call 46; (with_reducible refine (fRem _ _ _ (sextV_bd ha ha').1 (sextV_bd ha ha').2 (sextV_bd hb hb').1 (sextV_bd hb hb').2).mono ?_); rintro e w' ⟨rfl, rfl⟩)
    | (go_at_call 24; (with_reducible refine (sext_4 _ _ hv.1 hv.2).mono ?_); rintro e w' ⟨rfl, rfl⟩))
  go_ret2
  exact ⟨rfl, rfl⟩
theorem half_10 (a b : Int) (w : World) (ha : 0 ≤ a) (ha' : a < 18446744073709551616) (hb : 0 ≤ b) (hb' : b < 18446744073709551616) :
    Calls Try.prog 12 #[.int .i64 10, .int .u64 a, .int .u64 b] w fun e w' => e = .returned (.tuple #[.int .u64 (halfV 10 a b), .int .i64 (halfE 10)]) ∧ w.alloc (.cells table 43) = w' := by
  have hi := tab10
  have hx := zextV_bd (s := 4) ha ha'
  have hy := zextV_bd (s := 4) hb hb'
  have hv := doV_bd (fn := 10) hx.1 hx.2 hy.1 hy.2
  have e : halfV 10 a b = sextV (doV 10 (zextV a 4) (zextV b 4)) 4 := by simp [halfV, halfB, halfX, halfY]
  have e' : halfE 10 = 0 := by simp [halfE, halfB]
  rw [e, e']
  clear e e'
  obtain ⟨hx1, hx2⟩ := hx
  obtain ⟨hy1, hy2⟩ := hy
  go_enter Try.func12, Try.ntmps12
  go_wp2_with (first
    | (go_at_call 30; refine (functions_any _).mono ?_; rintro e w' ⟨rfl, rfl⟩)
    | (go_at_call 22; (first | (with_reducible refine (zext_4 a _ ha ha').mono ?_) | (with_reducible refine (zext_4 b _ hb hb').mono ?_)); rintro e w' ⟨rfl, rfl⟩)
    | (go_at_call 47; (with_reducible refine (fRemu _ _ _ (zextV_bd ha ha').1 (zextV_bd ha ha').2 (zextV_bd hb hb').1 (zextV_bd hb hb').2).mono ?_); rintro e w' ⟨rfl, rfl⟩)
    | (go_at_call 24; (with_reducible refine (sext_4 _ _ hv.1 hv.2).mono ?_); rintro e w' ⟨rfl, rfl⟩))
  go_ret2
  exact ⟨rfl, rfl⟩
theorem half_14 (a b : Int) (w : World) (ha : 0 ≤ a) (ha' : a < 18446744073709551616) (hb : 0 ≤ b) (hb' : b < 18446744073709551616) :
    Calls Try.prog 12 #[.int .i64 14, .int .u64 a, .int .u64 b] w fun e w' => e = .returned (.tuple #[.int .u64 (halfV 14 a b), .int .i64 (halfE 14)]) ∧ w.alloc (.cells table 43) = w' := by
  have hi := tab14
  have hx := zextV_bd (s := 4) ha ha'
  have hy : 0 ≤ b % 32 ∧ b % 32 < 18446744073709551616 := by omega
  have hv := doV_bd (fn := 14) hx.1 hx.2 hy.1 hy.2
  have e : halfV 14 a b = sextV (doV 14 (zextV a 4) (b % 32)) 4 := by simp [halfV, halfB, halfX, halfY]
  have e' : halfE 14 = 0 := by simp [halfE, halfB]
  rw [e, e']
  clear e e'
  obtain ⟨hx1, hx2⟩ := hx
  obtain ⟨hy1, hy2⟩ := hy
  go_enter Try.func12, Try.ntmps12
  go_wp2_with (first
    | (go_at_call 30; refine (functions_any _).mono ?_; rintro e w' ⟨rfl, rfl⟩)
    | (go_at_call 22; (with_reducible refine (zext_4 a _ ha ha').mono ?_); rintro e w' ⟨rfl, rfl⟩)
    | (go_at_call 51; (with_reducible refine (fShl _ _ _ (zextV_bd ha ha').1 (zextV_bd ha ha').2 (by omega) (by omega)).mono ?_); rintro e w' ⟨rfl, rfl⟩)
    | (go_at_call 24; (with_reducible refine (sext_4 _ _ hv.1 hv.2).mono ?_); rintro e w' ⟨rfl, rfl⟩))
  go_ret2
  exact ⟨rfl, rfl⟩
theorem half_15 (a b : Int) (w : World) (ha : 0 ≤ a) (ha' : a < 18446744073709551616) (hb : 0 ≤ b) (hb' : b < 18446744073709551616) :
    Calls Try.prog 12 #[.int .i64 15, .int .u64 a, .int .u64 b] w fun e w' => e = .returned (.tuple #[.int .u64 (halfV 15 a b), .int .i64 (halfE 15)]) ∧ w.alloc (.cells table 43) = w' := by
  have hi := tab15
  have hx := zextV_bd (s := 4) ha ha'
  have hy : 0 ≤ b % 32 ∧ b % 32 < 18446744073709551616 := by omega
  have hv := doV_bd (fn := 15) hx.1 hx.2 hy.1 hy.2
  have e : halfV 15 a b = sextV (doV 15 (zextV a 4) (b % 32)) 4 := by simp [halfV, halfB, halfX, halfY]
  have e' : halfE 15 = 0 := by simp [halfE, halfB]
  rw [e, e']
  clear e e'
  obtain ⟨hx1, hx2⟩ := hx
  obtain ⟨hy1, hy2⟩ := hy
  go_enter Try.func12, Try.ntmps12
  go_wp2_with (first
    | (go_at_call 30; refine (functions_any _).mono ?_; rintro e w' ⟨rfl, rfl⟩)
    | (go_at_call 22; (with_reducible refine (zext_4 a _ ha ha').mono ?_); rintro e w' ⟨rfl, rfl⟩)
    | (go_at_call 52; (with_reducible refine (fShr _ _ _ (zextV_bd ha ha').1 (zextV_bd ha ha').2 (by omega) (by omega)).mono ?_); rintro e w' ⟨rfl, rfl⟩)
    | (go_at_call 24; (with_reducible refine (sext_4 _ _ hv.1 hv.2).mono ?_); rintro e w' ⟨rfl, rfl⟩))
  go_ret2
  exact ⟨rfl, rfl⟩
theorem half_16 (a b : Int) (w : World) (ha : 0 ≤ a) (ha' : a < 18446744073709551616) (hb : 0 ≤ b) (hb' : b < 18446744073709551616) :
    Calls Try.prog 12 #[.int .i64 16, .int .u64 a, .int .u64 b] w fun e w' => e = .returned (.tuple #[.int .u64 (halfV 16 a b), .int .i64 (halfE 16)]) ∧ w.alloc (.cells table 43) = w' := by
  have hi := tab16
  have hx := sextV_bd (s := 4) ha ha'
  have hy : 0 ≤ b % 32 ∧ b % 32 < 18446744073709551616 := by omega
  have hv := doV_bd (fn := 16) hx.1 hx.2 hy.1 hy.2
  have e : halfV 16 a b = sextV (doV 16 (sextV a 4) (b % 32)) 4 := by simp [halfV, halfB, halfX, halfY]
  have e' : halfE 16 = 0 := by simp [halfE, halfB]
  rw [e, e']
  clear e e'
  obtain ⟨hx1, hx2⟩ := hx
  obtain ⟨hy1, hy2⟩ := hy
  go_enter Try.func12, Try.ntmps12
  go_wp2_with (first
    | (go_at_call 30; refine (functions_any _).mono ?_; rintro e w' ⟨rfl, rfl⟩)
    | (go_at_call 24; (with_reducible refine (sext_4 a _ ha ha').mono ?_); rintro e w' ⟨rfl, rfl⟩)
    | (go_at_call 53; (with_reducible refine (fSar _ _ _ (sextV_bd ha ha').1 (sextV_bd ha ha').2 (by omega) (by omega)).mono ?_); rintro e w' ⟨rfl, rfl⟩)
    | (go_at_call 24; (with_reducible refine (sext_4 _ _ hv.1 hv.2).mono ?_); rintro e w' ⟨rfl, rfl⟩))
  go_ret2
  exact ⟨rfl, rfl⟩
theorem half_no (fn a b : Int) (w : World) (h : halfB fn = false) :
    Calls Try.prog 12 #[.int .i64 fn, .int .u64 a, .int .u64 b] w fun e w' => e = .returned (.tuple #[.int .u64 (halfV fn a b), .int .i64 (halfE fn)]) ∧ w = w' := by
  have e : halfV fn a b = 0 := by simp [halfV, h]
  have e' : halfE fn = 2 := by simp [halfE, h]
  rw [e, e']
  clear e e'
  have hn := half_not h
  have b1 : (fn == 1) = false := by simp [hn]
  have b2 : (fn == 2) = false := by simp [hn]
  have b3 : (fn == 3) = false := by simp [hn]
  have b7 : (fn == 7) = false := by simp [hn]
  have b8 : (fn == 8) = false := by simp [hn]
  have b9 : (fn == 9) = false := by simp [hn]
  have b10 : (fn == 10) = false := by simp [hn]
  have b14 : (fn == 14) = false := by simp [hn]
  have b15 : (fn == 15) = false := by simp [hn]
  have b16 : (fn == 16) = false := by simp [hn]
  clear hn h
  go_enter Try.func12, Try.ntmps12
  go_wp2
  go_ret2
  exact ⟨rfl, rfl⟩
theorem half_any (fn a b : Int) (w : World) (ha : 0 ≤ a) (ha' : a < 18446744073709551616) (hb : 0 ≤ b) (hb' : b < 18446744073709551616) :
    Calls Try.prog 12 #[.int .i64 fn, .int .u64 a, .int .u64 b] w fun e w' => e = .returned (.tuple #[.int .u64 (halfV fn a b), .int .i64 (halfE fn)]) ∧ Below w.heap.size w w' := by
  cases h : halfB fn
  · exact (half_no fn a b w h).mono fun _ _ ⟨he, hw⟩ => ⟨he, hw ▸ Below.refl _ _⟩
  · rcases half_cases h with rfl | rfl | rfl | rfl | rfl | rfl | rfl | rfl | rfl | rfl
    · exact (half_1 a b w ha ha' hb hb').mono fun _ _ ⟨he, hw⟩ => ⟨he, hw ▸ (Below.refl _ _).alloc (Nat.le_refl _) _⟩
    · exact (half_2 a b w ha ha' hb hb').mono fun _ _ ⟨he, hw⟩ => ⟨he, hw ▸ (Below.refl _ _).alloc (Nat.le_refl _) _⟩
    · exact (half_3 a b w ha ha' hb hb').mono fun _ _ ⟨he, hw⟩ => ⟨he, hw ▸ (Below.refl _ _).alloc (Nat.le_refl _) _⟩
    · exact (half_7 a b w ha ha' hb hb').mono fun _ _ ⟨he, hw⟩ => ⟨he, hw ▸ (Below.refl _ _).alloc (Nat.le_refl _) _⟩
    · exact (half_8 a b w ha ha' hb hb').mono fun _ _ ⟨he, hw⟩ => ⟨he, hw ▸ (Below.refl _ _).alloc (Nat.le_refl _) _⟩
    · exact (half_9 a b w ha ha' hb hb').mono fun _ _ ⟨he, hw⟩ => ⟨he, hw ▸ (Below.refl _ _).alloc (Nat.le_refl _) _⟩
    · exact (half_10 a b w ha ha' hb hb').mono fun _ _ ⟨he, hw⟩ => ⟨he, hw ▸ (Below.refl _ _).alloc (Nat.le_refl _) _⟩
    · exact (half_14 a b w ha ha' hb hb').mono fun _ _ ⟨he, hw⟩ => ⟨he, hw ▸ (Below.refl _ _).alloc (Nat.le_refl _) _⟩
    · exact (half_15 a b w ha ha' hb hb').mono fun _ _ ⟨he, hw⟩ => ⟨he, hw ▸ (Below.refl _ _).alloc (Nat.le_refl _) _⟩
    · exact (half_16 a b w ha ha' hb hb').mono fun _ _ ⟨he, hw⟩ => ⟨he, hw ▸ (Below.refl _ _).alloc (Nat.le_refl _) _⟩
end Go.Proofs.Ytnlhebcmebbgkaa
