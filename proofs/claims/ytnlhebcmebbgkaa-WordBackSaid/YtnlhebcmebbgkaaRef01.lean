/- What the document's own way (package twinshaftref01) makes of two words, of their low halves, and of low parts: contracts for all numbers of 64 bits, any size, any number as a function, in whatever memory, which stays as it was. -/
import Derived.Test.YtnlhebcmebbgkaaRows
import Derived.Test.YtnlhebcmebbgkaaMath01
import Derived.Test.YtnlhebcmebbgkaaExt01
import Derived.WalkKit
import Derived.WalkSpells
import Derived.WalkLawsBesides
import Derived.ProofKit
import Derived.Lib.Hide
namespace Go.Proofs.Ytnlhebcmebbgkaa
open Go.RowKit
set_option linter.unusedVariables false

theorem rzext_1 (a : Int) (w : World) (ha : 0 ≤ a) (ha' : a < 18446744073709551616) : Calls Try.prog 23 #[.int .u64 a, .int .i64 1] w fun e w' => e = .returned (.int .u64 (zextV a 1)) ∧ w = w' := by
  go_enter Try.func23, Try.ntmps23
  go_wp2
  go_ret
  exact ⟨ret_int (by rw [zextV_1]), rfl⟩
theorem rzext_2 (a : Int) (w : World) (ha : 0 ≤ a) (ha' : a < 18446744073709551616) : Calls Try.prog 23 #[.int .u64 a, .int .i64 2] w fun e w' => e = .returned (.int .u64 (zextV a 2)) ∧ w = w' := by
  go_enter Try.func23, Try.ntmps23
  go_wp2
  go_ret
  exact ⟨ret_int (by rw [zextV_2]), rfl⟩
theorem rzext_4 (a : Int) (w : World) (ha : 0 ≤ a) (ha' : a < 18446744073709551616) : Calls Try.prog 23 #[.int .u64 a, .int .i64 4] w fun e w' => e = .returned (.int .u64 (zextV a 4)) ∧ w = w' := by
  go_enter Try.func23, Try.ntmps23
  go_wp2
  go_ret
  exact ⟨ret_int (by rw [zextV_4]), rfl⟩
theorem rzext_8 (a : Int) (w : World) (ha : 0 ≤ a) (ha' : a < 18446744073709551616) : Calls Try.prog 23 #[.int .u64 a, .int .i64 8] w fun e w' => e = .returned (.int .u64 (zextV a 8)) ∧ w = w' := by
  go_enter Try.func23, Try.ntmps23
  go_wp2
  go_ret
  exact ⟨ret_int (by rw [zextV_8]), rfl⟩
theorem rzext_no (a s : Int) (w : World) (h : sizedB s = false) : Calls Try.prog 23 #[.int .u64 a, .int .i64 s] w fun e w' => e = .returned (.int .u64 (zextV a s)) ∧ w = w' := by
  rw [zextV_not h]
  have H := Lib.hid h
  clear h
  go_enter Try.func23, Try.ntmps23
  go_wp2_with (go_at_call 36; refine (sized_any_no H.out _).mono ?_; rintro e w' ⟨rfl, rfl⟩)
  go_ret
  exact ⟨rfl, rfl⟩
theorem rzext_any (a s : Int) (w : World) (ha : 0 ≤ a) (ha' : a < 18446744073709551616) : Calls Try.prog 23 #[.int .u64 a, .int .i64 s] w fun e w' => e = .returned (.int .u64 (zextV a s)) ∧ w = w' := by
  cases h : sizedB s
  · exact rzext_no a s w h
  · rcases sized_cases h with rfl | rfl | rfl | rfl
    · exact rzext_1 a w ha ha'
    · exact rzext_2 a w ha ha'
    · exact rzext_4 a w ha ha'
    · exact rzext_8 a w ha ha'
theorem sized_yes_1  (w : World)  : Calls Try.prog 36 #[.int .i64 1] w fun e w' => e = .returned (.bool true) ∧ w = w' := by
  exact sized_any 1 w
theorem sized_yes_2  (w : World)  : Calls Try.prog 36 #[.int .i64 2] w fun e w' => e = .returned (.bool true) ∧ w = w' := by
  exact sized_any 2 w
theorem sized_yes_4  (w : World)  : Calls Try.prog 36 #[.int .i64 4] w fun e w' => e = .returned (.bool true) ∧ w = w' := by
  exact sized_any 4 w
theorem sized_yes_8  (w : World)  : Calls Try.prog 36 #[.int .i64 8] w fun e w' => e = .returned (.bool true) ∧ w = w' := by
  exact sized_any 8 w
theorem rsext_1 (a : Int) (w : World) (ha : 0 ≤ a) (ha' : a < 18446744073709551616) : Calls Try.prog 25 #[.int .u64 a, .int .i64 1] w fun e w' => e = .returned (.int .u64 (sextV a 1)) ∧ w = w' := by
  have hz := zextV_bd (s := 1) ha ha'
  have e := zextV_1 a
  have E := Lib.hid e
  obtain ⟨hz1, hz2⟩ := hz
  by_cases hc : zextV a 1 < 128
  · have Hc := Lib.hid hc
    clear e
    go_enter Try.func25, Try.ntmps25
    go_wp2_with (first
      | (go_at_call 23; (with_reducible refine (rzext_1 a _ ha ha').mono ?_); rintro e w' ⟨rfl, rfl⟩)
      | (go_at_call 36; (with_reducible refine (sized_yes_1 _).mono ?_); rintro e w' ⟨rfl, rfl⟩))
    go_ret
    refine ⟨ret_int ?_, rfl⟩
    have h1 := E.out
    have h2 := Hc.out
    rw [sextV_1]
    unfold sext1
    rw [if_pos (by omega)]
    omega
  · have hd : 128 ≤ zextV a 1 := by omega
    have Hd := Lib.hid hd
    clear e hc
    go_enter Try.func25, Try.ntmps25
    go_wp2_with (first
      | (go_at_call 23; (with_reducible refine (rzext_1 a _ ha ha').mono ?_); rintro e w' ⟨rfl, rfl⟩)
      | (go_at_call 36; (with_reducible refine (sized_yes_1 _).mono ?_); rintro e w' ⟨rfl, rfl⟩))
    go_ret
    refine ⟨ret_int ?_, rfl⟩
    have h1 := E.out
    have h2 := Hd.out
    rw [sextV_1]
    unfold sext1
    rw [if_neg (by omega)]
    try rw [IntKind.wrap_u64]
    omega
theorem rsext_2 (a : Int) (w : World) (ha : 0 ≤ a) (ha' : a < 18446744073709551616) : Calls Try.prog 25 #[.int .u64 a, .int .i64 2] w fun e w' => e = .returned (.int .u64 (sextV a 2)) ∧ w = w' := by
  have hz := zextV_bd (s := 2) ha ha'
  have e := zextV_2 a
  have E := Lib.hid e
  obtain ⟨hz1, hz2⟩ := hz
  by_cases hc : zextV a 2 < 32768
  · have Hc := Lib.hid hc
    clear e
    go_enter Try.func25, Try.ntmps25
    go_wp2_with (first
      | (go_at_call 23; (with_reducible refine (rzext_2 a _ ha ha').mono ?_); rintro e w' ⟨rfl, rfl⟩)
      | (go_at_call 36; (with_reducible refine (sized_yes_2 _).mono ?_); rintro e w' ⟨rfl, rfl⟩))
    go_ret
    refine ⟨ret_int ?_, rfl⟩
    have h1 := E.out
    have h2 := Hc.out
    rw [sextV_2]
    unfold sext1
    rw [if_pos (by omega)]
    omega
  · have hd : 32768 ≤ zextV a 2 := by omega
    have Hd := Lib.hid hd
    clear e hc
    go_enter Try.func25, Try.ntmps25
    go_wp2_with (first
      | (go_at_call 23; (with_reducible refine (rzext_2 a _ ha ha').mono ?_); rintro e w' ⟨rfl, rfl⟩)
      | (go_at_call 36; (with_reducible refine (sized_yes_2 _).mono ?_); rintro e w' ⟨rfl, rfl⟩))
    go_ret
    refine ⟨ret_int ?_, rfl⟩
    have h1 := E.out
    have h2 := Hd.out
    rw [sextV_2]
    unfold sext1
    rw [if_neg (by omega)]
    try rw [IntKind.wrap_u64]
    omega
theorem rsext_4 (a : Int) (w : World) (ha : 0 ≤ a) (ha' : a < 18446744073709551616) : Calls Try.prog 25 #[.int .u64 a, .int .i64 4] w fun e w' => e = .returned (.int .u64 (sextV a 4)) ∧ w = w' := by
  have hz := zextV_bd (s := 4) ha ha'
  have e := zextV_4 a
  have E := Lib.hid e
  obtain ⟨hz1, hz2⟩ := hz
  by_cases hc : zextV a 4 < 2147483648
  · have Hc := Lib.hid hc
    clear e
    go_enter Try.func25, Try.ntmps25
    go_wp2_with (first
      | (go_at_call 23; (with_reducible refine (rzext_4 a _ ha ha').mono ?_); rintro e w' ⟨rfl, rfl⟩)
      | (go_at_call 36; (with_reducible refine (sized_yes_4 _).mono ?_); rintro e w' ⟨rfl, rfl⟩))
    go_ret
    refine ⟨ret_int ?_, rfl⟩
    have h1 := E.out
    have h2 := Hc.out
    rw [sextV_4]
    unfold sext1
    rw [if_pos (by omega)]
    omega
  · have hd : 2147483648 ≤ zextV a 4 := by omega
    have Hd := Lib.hid hd
    clear e hc
    go_enter Try.func25, Try.ntmps25
    go_wp2_with (first
      | (go_at_call 23; (with_reducible refine (rzext_4 a _ ha ha').mono ?_); rintro e w' ⟨rfl, rfl⟩)
      | (go_at_call 36; (with_reducible refine (sized_yes_4 _).mono ?_); rintro e w' ⟨rfl, rfl⟩))
    go_ret
    refine ⟨ret_int ?_, rfl⟩
    have h1 := E.out
    have h2 := Hd.out
    rw [sextV_4]
    unfold sext1
    rw [if_neg (by omega)]
    try rw [IntKind.wrap_u64]
    omega
theorem rsext_8 (a : Int) (w : World) (ha : 0 ≤ a) (ha' : a < 18446744073709551616) : Calls Try.prog 25 #[.int .u64 a, .int .i64 8] w fun e w' => e = .returned (.int .u64 (sextV a 8)) ∧ w = w' := by
  go_enter Try.func25, Try.ntmps25
  go_wp2_with (go_at_call 23; (with_reducible refine (rzext_8 a _ ha ha').mono ?_); rintro e w' ⟨rfl, rfl⟩)
  go_ret
  exact ⟨ret_int (by rw [sextV_8, zextV_8]), rfl⟩
theorem rsext_no (a s : Int) (w : World) (h : sizedB s = false) : Calls Try.prog 25 #[.int .u64 a, .int .i64 s] w fun e w' => e = .returned (.int .u64 (sextV a s)) ∧ w = w' := by
  have e0 := zextV_not (a := a) h
  rw [sextV_not h]
  have hn := sized_not h
  have b8 : (s == 8) = false := by simp [hn]
  have H := Lib.hid h
  have E := Lib.hid e0
  clear h hn e0
  go_enter Try.func25, Try.ntmps25
  go_wp2_with (first
    | (go_at_call 23; (with_reducible refine (rzext_no a s _ H.out).mono ?_); rintro e w' ⟨rfl, rfl⟩)
    | (go_at_call 36; refine (sized_any_no H.out _).mono ?_; rintro e w' ⟨rfl, rfl⟩))
  go_ret
  exact ⟨ret_int E.out, rfl⟩
theorem rsext_any (a s : Int) (w : World) (ha : 0 ≤ a) (ha' : a < 18446744073709551616) : Calls Try.prog 25 #[.int .u64 a, .int .i64 s] w fun e w' => e = .returned (.int .u64 (sextV a s)) ∧ w = w' := by
  cases h : sizedB s
  · exact rsext_no a s w h
  · rcases sized_cases h with rfl | rfl | rfl | rfl
    · exact rsext_1 a w ha ha'
    · exact rsext_2 a w ha ha'
    · exact rsext_4 a w ha ha'
    · exact rsext_8 a w ha ha'
theorem rhigh_any (a b : Int) (w : World) (ha : 0 ≤ a) (ha' : a < 18446744073709551616) (hb : 0 ≤ b) (hb' : b < 18446744073709551616) : Calls Try.prog 59 #[.int .u64 a, .int .u64 b] w fun e w' => e = .returned (.int .u64 (mulhuV a b)) ∧ w = w' := by
  have key := mul64_arith a b ha ha' hb hb'
  have Hk := Lib.hid key
  have ht : ∀ z : Int, (z % 18446744073709551616).tmod 4294967296 = z % 18446744073709551616 % 4294967296 := fun z => Int.tmod_eq_emod_of_nonneg (by omega)
  have Ht := Lib.hid ht
  clear key ht
  go_enter Try.func59, Try.ntmps59
  go_wp2
  go_ret
  refine ⟨ret_int ?_, rfl⟩
  simp only [IntKind.wrap_u64, Ht.out]
  have h := Hk.out
  rw [Int.add_comm (_ % 4294967296) (_ % 18446744073709551616)] at h
  exact h
theorem rbelow_no (a : Int) (w : World) (h : a < 9223372036854775808) : Calls Try.prog 60 #[.int .u64 a] w fun e w' => e = .returned (.bool false) ∧ w = w' := by
  go_enter Try.func60, Try.ntmps60
  go_wp2
  go_ret
  exact ⟨ret_bool (by first | (simp; done) | (simp; omega)), rfl⟩
theorem rbelow_yes (a : Int) (w : World) (h : 9223372036854775808 ≤ a) : Calls Try.prog 60 #[.int .u64 a] w fun e w' => e = .returned (.bool true) ∧ w = w' := by
  go_enter Try.func60, Try.ntmps60
  go_wp2
  go_ret
  exact ⟨ret_bool (by first | (simp; done) | (simp; omega)), rfl⟩
theorem rminus_any (a : Int) (w : World)  : Calls Try.prog 61 #[.int .u64 a] w fun e w' => e = .returned (.int .u64 ((0 - a) % 18446744073709551616)) ∧ w = w' := by
  go_enter Try.func61, Try.ntmps61
  go_wp2
  go_ret
  exact ⟨ret_int (by simp [IntKind.wrap_u64]), rfl⟩
theorem rminus_mag (a : Int) (w : World) (h : 9223372036854775808 ≤ a) (h' : a < 18446744073709551616) : Calls Try.prog 61 #[.int .u64 a] w fun e w' => e = .returned (.int .u64 (magV a)) ∧ w = w' := by
  rw [← minus_mag h h']
  exact rminus_any a w
theorem rbit_any (b : Bool) (w : World)  : Calls Try.prog 63 #[.bool b] w fun e w' => e = .returned (.int .u64 (bitV b)) ∧ w = w' := by
  cases b
  · go_enter Try.func63, Try.ntmps63
    go_wp2
    go_ret
    exact ⟨rfl, rfl⟩
  · go_enter Try.func63, Try.ntmps63
    go_wp2
    go_ret
    exact ⟨rfl, rfl⟩
theorem rproduct_4_00 (a b : Int) (w : World) (ha : 0 ≤ a) (ha' : a < 18446744073709551616) (hb : 0 ≤ b) (hb' : b < 18446744073709551616) (hca : a < 9223372036854775808) (hcb : b < 9223372036854775808) : Calls Try.prog 31 #[.int .i64 4, .int .u64 a, .int .u64 b] w fun e w' => e = .returned (.int .u64 (doV 4 a b)) ∧ w = w' := by
  have cA : ∀ w, Calls Try.prog 60 #[.int .u64 a] w fun e w' => e = .returned (.bool false) ∧ w = w' := fun w => rbelow_no a w hca
  have eA : low0 a b = 0 := by unfold low0; rw [if_pos (by omega)]
  have EA := Lib.hid eA
  have CA := Lib.hid cA
  clear eA cA
  have cB : ∀ w, Calls Try.prog 60 #[.int .u64 b] w fun e w' => e = .returned (.bool false) ∧ w = w' := fun w => rbelow_no b w hcb
  have eB : low0 b a = 0 := by unfold low0; rw [if_pos (by omega)]
  have EB := Lib.hid eB
  have CB := Lib.hid cB
  clear eB cB
  go_enter Try.func31, Try.ntmps31
  go_wp2_with (first
    | (go_at_call 59; (with_reducible refine (rhigh_any a b _ ha ha' hb hb').mono ?_); rintro e w' ⟨rfl, rfl⟩)
    | (go_at_call 60; (with_reducible refine (CA.out _).mono ?_); rintro e w' ⟨rfl, rfl⟩)
    | (go_at_call 60; (with_reducible refine (CB.out _).mono ?_); rintro e w' ⟨rfl, rfl⟩))
  go_ret
  refine ⟨ret_int ?_, rfl⟩
  have hm := mulhu_bd ha ha' hb hb'
  rw [show doV 4 a b = mulhV a b by simp [doV]]
  unfold mulhV
  rw [EA.out, EB.out]
  try simp only [IntKind.wrap_u64]
  try omega
theorem rproduct_4_01 (a b : Int) (w : World) (ha : 0 ≤ a) (ha' : a < 18446744073709551616) (hb : 0 ≤ b) (hb' : b < 18446744073709551616) (hca : a < 9223372036854775808) (hcb : 9223372036854775808 ≤ b) : Calls Try.prog 31 #[.int .i64 4, .int .u64 a, .int .u64 b] w fun e w' => e = .returned (.int .u64 (doV 4 a b)) ∧ w = w' := by
  have cA : ∀ w, Calls Try.prog 60 #[.int .u64 a] w fun e w' => e = .returned (.bool false) ∧ w = w' := fun w => rbelow_no a w hca
  have eA : low0 a b = 0 := by unfold low0; rw [if_pos (by omega)]
  have EA := Lib.hid eA
  have CA := Lib.hid cA
  clear eA cA
  have cB : ∀ w, Calls Try.prog 60 #[.int .u64 b] w fun e w' => e = .returned (.bool true) ∧ w = w' := fun w => rbelow_yes b w hcb
  have eB : low0 b a = a := by unfold low0; rw [if_neg (by omega)]
  have EB := Lib.hid eB
  have CB := Lib.hid cB
  clear eB cB
  go_enter Try.func31, Try.ntmps31
  go_wp2_with (first
    | (go_at_call 59; (with_reducible refine (rhigh_any a b _ ha ha' hb hb').mono ?_); rintro e w' ⟨rfl, rfl⟩)
    | (go_at_call 60; (with_reducible refine (CA.out _).mono ?_); rintro e w' ⟨rfl, rfl⟩)
    | (go_at_call 60; (with_reducible refine (CB.out _).mono ?_); rintro e w' ⟨rfl, rfl⟩))
  go_ret
  refine ⟨ret_int ?_, rfl⟩
  have hm := mulhu_bd ha ha' hb hb'
  rw [show doV 4 a b = mulhV a b by simp [doV]]
  unfold mulhV
  rw [EA.out, EB.out]
  try simp only [IntKind.wrap_u64]
  try omega
theorem rproduct_4_10 (a b : Int) (w : World) (ha : 0 ≤ a) (ha' : a < 18446744073709551616) (hb : 0 ≤ b) (hb' : b < 18446744073709551616) (hca : 9223372036854775808 ≤ a) (hcb : b < 9223372036854775808) : Calls Try.prog 31 #[.int .i64 4, .int .u64 a, .int .u64 b] w fun e w' => e = .returned (.int .u64 (doV 4 a b)) ∧ w = w' := by
  have cA : ∀ w, Calls Try.prog 60 #[.int .u64 a] w fun e w' => e = .returned (.bool true) ∧ w = w' := fun w => rbelow_yes a w hca
  have eA : low0 a b = b := by unfold low0; rw [if_neg (by omega)]
  have EA := Lib.hid eA
  have CA := Lib.hid cA
  clear eA cA
  have cB : ∀ w, Calls Try.prog 60 #[.int .u64 b] w fun e w' => e = .returned (.bool false) ∧ w = w' := fun w => rbelow_no b w hcb
  have eB : low0 b a = 0 := by unfold low0; rw [if_pos (by omega)]
  have EB := Lib.hid eB
  have CB := Lib.hid cB
  clear eB cB
  go_enter Try.func31, Try.ntmps31
  go_wp2_with (first
    | (go_at_call 59; (with_reducible refine (rhigh_any a b _ ha ha' hb hb').mono ?_); rintro e w' ⟨rfl, rfl⟩)
    | (go_at_call 60; (with_reducible refine (CA.out _).mono ?_); rintro e w' ⟨rfl, rfl⟩)
    | (go_at_call 60; (with_reducible refine (CB.out _).mono ?_); rintro e w' ⟨rfl, rfl⟩))
  go_ret
  refine ⟨ret_int ?_, rfl⟩
  have hm := mulhu_bd ha ha' hb hb'
  rw [show doV 4 a b = mulhV a b by simp [doV]]
  unfold mulhV
  rw [EA.out, EB.out]
  try simp only [IntKind.wrap_u64]
  try omega
theorem rproduct_4_11 (a b : Int) (w : World) (ha : 0 ≤ a) (ha' : a < 18446744073709551616) (hb : 0 ≤ b) (hb' : b < 18446744073709551616) (hca : 9223372036854775808 ≤ a) (hcb : 9223372036854775808 ≤ b) : Calls Try.prog 31 #[.int .i64 4, .int .u64 a, .int .u64 b] w fun e w' => e = .returned (.int .u64 (doV 4 a b)) ∧ w = w' := by
  have cA : ∀ w, Calls Try.prog 60 #[.int .u64 a] w fun e w' => e = .returned (.bool true) ∧ w = w' := fun w => rbelow_yes a w hca
  have eA : low0 a b = b := by unfold low0; rw [if_neg (by omega)]
  have EA := Lib.hid eA
  have CA := Lib.hid cA
  clear eA cA
  have cB : ∀ w, Calls Try.prog 60 #[.int .u64 b] w fun e w' => e = .returned (.bool true) ∧ w = w' := fun w => rbelow_yes b w hcb
  have eB : low0 b a = a := by unfold low0; rw [if_neg (by omega)]
  have EB := Lib.hid eB
  have CB := Lib.hid cB
  clear eB cB
  go_enter Try.func31, Try.ntmps31
  go_wp2_with (first
    | (go_at_call 59; (with_reducible refine (rhigh_any a b _ ha ha' hb hb').mono ?_); rintro e w' ⟨rfl, rfl⟩)
    | (go_at_call 60; (with_reducible refine (CA.out _).mono ?_); rintro e w' ⟨rfl, rfl⟩)
    | (go_at_call 60; (with_reducible refine (CB.out _).mono ?_); rintro e w' ⟨rfl, rfl⟩))
  go_ret
  refine ⟨ret_int ?_, rfl⟩
  have hm := mulhu_bd ha ha' hb hb'
  rw [show doV 4 a b = mulhV a b by simp [doV]]
  unfold mulhV
  rw [EA.out, EB.out]
  try simp only [IntKind.wrap_u64]
  try omega
theorem rproduct_5_22 (a b : Int) (w : World) (ha : 0 ≤ a) (ha' : a < 18446744073709551616) (hb : 0 ≤ b) (hb' : b < 18446744073709551616) : Calls Try.prog 31 #[.int .i64 5, .int .u64 a, .int .u64 b] w fun e w' => e = .returned (.int .u64 (doV 5 a b)) ∧ w = w' := by
  go_enter Try.func31, Try.ntmps31
  go_wp2_with (first
    | (go_at_call 59; (with_reducible refine (rhigh_any a b _ ha ha' hb hb').mono ?_); rintro e w' ⟨rfl, rfl⟩))
  go_ret
  refine ⟨ret_int ?_, rfl⟩
  have hm := mulhu_bd ha ha' hb hb'
  rw [show doV 5 a b = mulhuV a b by simp [doV]]
  try rfl
theorem rproduct_6_02 (a b : Int) (w : World) (ha : 0 ≤ a) (ha' : a < 18446744073709551616) (hb : 0 ≤ b) (hb' : b < 18446744073709551616) (hca : a < 9223372036854775808) : Calls Try.prog 31 #[.int .i64 6, .int .u64 a, .int .u64 b] w fun e w' => e = .returned (.int .u64 (doV 6 a b)) ∧ w = w' := by
  have cA : ∀ w, Calls Try.prog 60 #[.int .u64 a] w fun e w' => e = .returned (.bool false) ∧ w = w' := fun w => rbelow_no a w hca
  have eA : low0 a b = 0 := by unfold low0; rw [if_pos (by omega)]
  have EA := Lib.hid eA
  have CA := Lib.hid cA
  clear eA cA
  go_enter Try.func31, Try.ntmps31
  go_wp2_with (first
    | (go_at_call 59; (with_reducible refine (rhigh_any a b _ ha ha' hb hb').mono ?_); rintro e w' ⟨rfl, rfl⟩)
    | (go_at_call 60; (with_reducible refine (CA.out _).mono ?_); rintro e w' ⟨rfl, rfl⟩))
  go_ret
  refine ⟨ret_int ?_, rfl⟩
  have hm := mulhu_bd ha ha' hb hb'
  rw [show doV 6 a b = mulhsuV a b by simp [doV]]
  unfold mulhsuV
  rw [EA.out]
  try simp only [IntKind.wrap_u64]
  try omega
theorem rproduct_6_12 (a b : Int) (w : World) (ha : 0 ≤ a) (ha' : a < 18446744073709551616) (hb : 0 ≤ b) (hb' : b < 18446744073709551616) (hca : 9223372036854775808 ≤ a) : Calls Try.prog 31 #[.int .i64 6, .int .u64 a, .int .u64 b] w fun e w' => e = .returned (.int .u64 (doV 6 a b)) ∧ w = w' := by
  have cA : ∀ w, Calls Try.prog 60 #[.int .u64 a] w fun e w' => e = .returned (.bool true) ∧ w = w' := fun w => rbelow_yes a w hca
  have eA : low0 a b = b := by unfold low0; rw [if_neg (by omega)]
  have EA := Lib.hid eA
  have CA := Lib.hid cA
  clear eA cA
  go_enter Try.func31, Try.ntmps31
  go_wp2_with (first
    | (go_at_call 59; (with_reducible refine (rhigh_any a b _ ha ha' hb hb').mono ?_); rintro e w' ⟨rfl, rfl⟩)
    | (go_at_call 60; (with_reducible refine (CA.out _).mono ?_); rintro e w' ⟨rfl, rfl⟩))
  go_ret
  refine ⟨ret_int ?_, rfl⟩
  have hm := mulhu_bd ha ha' hb hb'
  rw [show doV 6 a b = mulhsuV a b by simp [doV]]
  unfold mulhsuV
  rw [EA.out]
  try simp only [IntKind.wrap_u64]
  try omega
theorem rproduct_4 (a b : Int) (w : World) (ha : 0 ≤ a) (ha' : a < 18446744073709551616) (hb : 0 ≤ b) (hb' : b < 18446744073709551616) : Calls Try.prog 31 #[.int .i64 4, .int .u64 a, .int .u64 b] w fun e w' => e = .returned (.int .u64 (doV 4 a b)) ∧ w = w' := by
  by_cases h : a < 9223372036854775808
  · by_cases h' : b < 9223372036854775808
    · exact rproduct_4_00 a b w ha ha' hb hb' h h'
    · exact rproduct_4_01 a b w ha ha' hb hb' h (by omega)
  · by_cases h' : b < 9223372036854775808
    · exact rproduct_4_10 a b w ha ha' hb hb' (by omega) h'
    · exact rproduct_4_11 a b w ha ha' hb hb' (by omega) (by omega)
theorem rproduct_5 (a b : Int) (w : World) (ha : 0 ≤ a) (ha' : a < 18446744073709551616) (hb : 0 ≤ b) (hb' : b < 18446744073709551616) : Calls Try.prog 31 #[.int .i64 5, .int .u64 a, .int .u64 b] w fun e w' => e = .returned (.int .u64 (doV 5 a b)) ∧ w = w' := by
  exact rproduct_5_22 a b w ha ha' hb hb'
theorem rproduct_6 (a b : Int) (w : World) (ha : 0 ≤ a) (ha' : a < 18446744073709551616) (hb : 0 ≤ b) (hb' : b < 18446744073709551616) : Calls Try.prog 31 #[.int .i64 6, .int .u64 a, .int .u64 b] w fun e w' => e = .returned (.int .u64 (doV 6 a b)) ∧ w = w' := by
  by_cases h : a < 9223372036854775808
  · exact rproduct_6_02 a b w ha ha' hb hb' h
  · exact rproduct_6_12 a b w ha ha' hb hb' (by omega)
theorem rdivide_7_zero (a : Int) (w : World)  : Calls Try.prog 32 #[.int .i64 7, .int .u64 a, .int .u64 0] w fun e w' => e = .returned (.int .u64 (doV 7 a 0)) ∧ w = w' := by
  go_enter Try.func32, Try.ntmps32
  go_wp2
  go_ret
  exact ⟨ret_int (by simp [doV, divV]), rfl⟩
theorem rdivide_7_00 (a b : Int) (w : World) (ha : 0 ≤ a) (ha' : a < 18446744073709551616) (hb : 0 < b) (hb' : b < 18446744073709551616) (hca : a < 9223372036854775808) (hcb : b < 9223372036854775808) : Calls Try.prog 32 #[.int .i64 7, .int .u64 a, .int .u64 b] w fun e w' => e = .returned (.int .u64 (doV 7 a b)) ∧ w = w' := by
  have cA : ∀ w, Calls Try.prog 60 #[.int .u64 a] w fun e w' => e = .returned (.bool false) ∧ w = w' := fun w => rbelow_no a w hca
  have cB : ∀ w, Calls Try.prog 60 #[.int .u64 b] w fun e w' => e = .returned (.bool false) ∧ w = w' := fun w => rbelow_no b w hcb
  have CA := Lib.hid cA
  have CB := Lib.hid cB
  clear cA cB
  have b0 : (b == 0) = false := by simp; omega
  have n0 : b ≠ 0 := by omega
  go_enter Try.func32, Try.ntmps32
  go_wp2_with (first
    | (go_at_call 60; (with_reducible refine (CA.out _).mono ?_); rintro e w' ⟨rfl, rfl⟩)
    | (go_at_call 60; (with_reducible refine (CB.out _).mono ?_); rintro e w' ⟨rfl, rfl⟩)
    | (go_at_call 61; (with_reducible refine (rminus_any _ _).mono ?_); rintro e w' ⟨rfl, rfl⟩))
  go_ret
  refine ⟨ret_int ?_, rfl⟩
  rw [show doV 7 a b = divV a b by simp [doV], divV_same (by omega) (by omega) (by omega) (by omega) (propext ⟨fun _ => by omega, fun _ => by omega⟩), mag_up (a := a) (by omega), mag_up (a := b) (by omega)]
  try rw [Int.zero_sub]
theorem rdivide_7_01 (a b : Int) (w : World) (ha : 0 ≤ a) (ha' : a < 18446744073709551616) (hb : 0 < b) (hb' : b < 18446744073709551616) (hca : a < 9223372036854775808) (hcb : 9223372036854775808 ≤ b) : Calls Try.prog 32 #[.int .i64 7, .int .u64 a, .int .u64 b] w fun e w' => e = .returned (.int .u64 (doV 7 a b)) ∧ w = w' := by
  have cA : ∀ w, Calls Try.prog 60 #[.int .u64 a] w fun e w' => e = .returned (.bool false) ∧ w = w' := fun w => rbelow_no a w hca
  have cB : ∀ w, Calls Try.prog 60 #[.int .u64 b] w fun e w' => e = .returned (.bool true) ∧ w = w' := fun w => rbelow_yes b w hcb
  have CA := Lib.hid cA
  have CB := Lib.hid cB
  clear cA cB
  have b0 : (b == 0) = false := by simp; omega
  have n0 : b ≠ 0 := by omega
  have mB : ∀ w, Calls Try.prog 61 #[.int .u64 b] w fun e w' => e = .returned (.int .u64 (magV b)) ∧ w = w' := fun w => rminus_mag b w hcb hb'
  have MB := Lib.hid mB
  clear mB
  obtain ⟨b1, b2⟩ := mag_bd (a := b) (by omega) hb'
  have b3 := mag_pos hb hb'
  have b4 : magV b ≠ 0 := by omega
  go_enter Try.func32, Try.ntmps32
  go_wp2_with (first
    | (go_at_call 60; (with_reducible refine (CA.out _).mono ?_); rintro e w' ⟨rfl, rfl⟩)
    | (go_at_call 60; (with_reducible refine (CB.out _).mono ?_); rintro e w' ⟨rfl, rfl⟩)
    | (go_at_call 61; (with_reducible refine (MB.out _).mono ?_); rintro e w' ⟨rfl, rfl⟩)
    | (go_at_call 61; (with_reducible refine (rminus_any _ _).mono ?_); rintro e w' ⟨rfl, rfl⟩))
  go_ret
  refine ⟨ret_int ?_, rfl⟩
  rw [show doV 7 a b = divV a b by simp [doV], divV_other (by omega) (by omega) (by omega) (by omega) (fun h => by have := h.symm ▸ (show b < 9223372036854775808 ∨ ¬ b < 9223372036854775808 from Classical.em _); simp at h; omega), mag_up (a := a) (by omega)]
  try rw [Int.zero_sub]
theorem rdivide_7_10 (a b : Int) (w : World) (ha : 0 ≤ a) (ha' : a < 18446744073709551616) (hb : 0 < b) (hb' : b < 18446744073709551616) (hca : 9223372036854775808 ≤ a) (hcb : b < 9223372036854775808) : Calls Try.prog 32 #[.int .i64 7, .int .u64 a, .int .u64 b] w fun e w' => e = .returned (.int .u64 (doV 7 a b)) ∧ w = w' := by
  have cA : ∀ w, Calls Try.prog 60 #[.int .u64 a] w fun e w' => e = .returned (.bool true) ∧ w = w' := fun w => rbelow_yes a w hca
  have cB : ∀ w, Calls Try.prog 60 #[.int .u64 b] w fun e w' => e = .returned (.bool false) ∧ w = w' := fun w => rbelow_no b w hcb
  have CA := Lib.hid cA
  have CB := Lib.hid cB
  clear cA cB
  have b0 : (b == 0) = false := by simp; omega
  have n0 : b ≠ 0 := by omega
  have mA : ∀ w, Calls Try.prog 61 #[.int .u64 a] w fun e w' => e = .returned (.int .u64 (magV a)) ∧ w = w' := fun w => rminus_mag a w hca ha'
  have MA := Lib.hid mA
  clear mA
  obtain ⟨a1, a2⟩ := mag_bd ha ha'
  go_enter Try.func32, Try.ntmps32
  go_wp2_with (first
    | (go_at_call 60; (with_reducible refine (CA.out _).mono ?_); rintro e w' ⟨rfl, rfl⟩)
    | (go_at_call 60; (with_reducible refine (CB.out _).mono ?_); rintro e w' ⟨rfl, rfl⟩)
    | (go_at_call 61; (with_reducible refine (MA.out _).mono ?_); rintro e w' ⟨rfl, rfl⟩)
    | (go_at_call 61; (with_reducible refine (rminus_any _ _).mono ?_); rintro e w' ⟨rfl, rfl⟩))
  go_ret
  refine ⟨ret_int ?_, rfl⟩
  rw [show doV 7 a b = divV a b by simp [doV], divV_other (by omega) (by omega) (by omega) (by omega) (fun h => by have := h.symm ▸ (show b < 9223372036854775808 ∨ ¬ b < 9223372036854775808 from Classical.em _); simp at h; omega), mag_up (a := b) (by omega)]
  try rw [Int.zero_sub]
theorem rdivide_7_11 (a b : Int) (w : World) (ha : 0 ≤ a) (ha' : a < 18446744073709551616) (hb : 0 < b) (hb' : b < 18446744073709551616) (hca : 9223372036854775808 ≤ a) (hcb : 9223372036854775808 ≤ b) : Calls Try.prog 32 #[.int .i64 7, .int .u64 a, .int .u64 b] w fun e w' => e = .returned (.int .u64 (doV 7 a b)) ∧ w = w' := by
  have cA : ∀ w, Calls Try.prog 60 #[.int .u64 a] w fun e w' => e = .returned (.bool true) ∧ w = w' := fun w => rbelow_yes a w hca
  have cB : ∀ w, Calls Try.prog 60 #[.int .u64 b] w fun e w' => e = .returned (.bool true) ∧ w = w' := fun w => rbelow_yes b w hcb
  have CA := Lib.hid cA
  have CB := Lib.hid cB
  clear cA cB
  have b0 : (b == 0) = false := by simp; omega
  have n0 : b ≠ 0 := by omega
  have mA : ∀ w, Calls Try.prog 61 #[.int .u64 a] w fun e w' => e = .returned (.int .u64 (magV a)) ∧ w = w' := fun w => rminus_mag a w hca ha'
  have MA := Lib.hid mA
  clear mA
  obtain ⟨a1, a2⟩ := mag_bd ha ha'
  have mB : ∀ w, Calls Try.prog 61 #[.int .u64 b] w fun e w' => e = .returned (.int .u64 (magV b)) ∧ w = w' := fun w => rminus_mag b w hcb hb'
  have MB := Lib.hid mB
  clear mB
  obtain ⟨b1, b2⟩ := mag_bd (a := b) (by omega) hb'
  have b3 := mag_pos hb hb'
  have b4 : magV b ≠ 0 := by omega
  go_enter Try.func32, Try.ntmps32
  go_wp2_with (first
    | (go_at_call 60; (with_reducible refine (CA.out _).mono ?_); rintro e w' ⟨rfl, rfl⟩)
    | (go_at_call 60; (with_reducible refine (CB.out _).mono ?_); rintro e w' ⟨rfl, rfl⟩)
    | (go_at_call 61; (with_reducible refine (MA.out _).mono ?_); rintro e w' ⟨rfl, rfl⟩)
    | (go_at_call 61; (with_reducible refine (MB.out _).mono ?_); rintro e w' ⟨rfl, rfl⟩)
    | (go_at_call 61; (with_reducible refine (rminus_any _ _).mono ?_); rintro e w' ⟨rfl, rfl⟩))
  go_ret
  refine ⟨ret_int ?_, rfl⟩
  rw [show doV 7 a b = divV a b by simp [doV], divV_same (by omega) (by omega) (by omega) (by omega) (propext ⟨fun _ => by omega, fun _ => by omega⟩)]
  try rw [Int.zero_sub]
theorem rdivide_7 (a b : Int) (w : World) (ha : 0 ≤ a) (ha' : a < 18446744073709551616) (hb : 0 ≤ b) (hb' : b < 18446744073709551616) : Calls Try.prog 32 #[.int .i64 7, .int .u64 a, .int .u64 b] w fun e w' => e = .returned (.int .u64 (doV 7 a b)) ∧ w = w' := by
  by_cases h0 : b = 0
  · subst h0
    exact rdivide_7_zero a w
  by_cases h : a < 9223372036854775808
  · by_cases h' : b < 9223372036854775808
    · exact rdivide_7_00 a b w ha ha' (by omega) hb' h h'
    · exact rdivide_7_01 a b w ha ha' (by omega) hb' h (by omega)
  · by_cases h' : b < 9223372036854775808
    · exact rdivide_7_10 a b w ha ha' (by omega) hb' (by omega) h'
    · exact rdivide_7_11 a b w ha ha' (by omega) hb' (by omega) (by omega)
theorem rdivide_9_zero (a : Int) (w : World)  : Calls Try.prog 32 #[.int .i64 9, .int .u64 a, .int .u64 0] w fun e w' => e = .returned (.int .u64 (doV 9 a 0)) ∧ w = w' := by
  go_enter Try.func32, Try.ntmps32
  go_wp2
  go_ret
  exact ⟨ret_int (by simp [doV, remV]), rfl⟩
theorem rdivide_9_00 (a b : Int) (w : World) (ha : 0 ≤ a) (ha' : a < 18446744073709551616) (hb : 0 < b) (hb' : b < 18446744073709551616) (hca : a < 9223372036854775808) (hcb : b < 9223372036854775808) : Calls Try.prog 32 #[.int .i64 9, .int .u64 a, .int .u64 b] w fun e w' => e = .returned (.int .u64 (doV 9 a b)) ∧ w = w' := by
  have cA : ∀ w, Calls Try.prog 60 #[.int .u64 a] w fun e w' => e = .returned (.bool false) ∧ w = w' := fun w => rbelow_no a w hca
  have cB : ∀ w, Calls Try.prog 60 #[.int .u64 b] w fun e w' => e = .returned (.bool false) ∧ w = w' := fun w => rbelow_no b w hcb
  have CA := Lib.hid cA
  have CB := Lib.hid cB
  clear cA cB
  have b0 : (b == 0) = false := by simp; omega
  have n0 : b ≠ 0 := by omega
  go_enter Try.func32, Try.ntmps32
  go_wp2_with (first
    | (go_at_call 60; (with_reducible refine (CA.out _).mono ?_); rintro e w' ⟨rfl, rfl⟩)
    | (go_at_call 60; (with_reducible refine (CB.out _).mono ?_); rintro e w' ⟨rfl, rfl⟩)
    | (go_at_call 61; (with_reducible refine (rminus_any _ _).mono ?_); rintro e w' ⟨rfl, rfl⟩))
  go_ret
  refine ⟨ret_int ?_, rfl⟩
  rw [show doV 9 a b = remV a b by simp [doV], remV_up (by omega) (by omega) (by omega) (by omega), mag_up (a := a) (by omega), mag_up (a := b) (by omega)]
  try rw [Int.zero_sub]
theorem rdivide_9_01 (a b : Int) (w : World) (ha : 0 ≤ a) (ha' : a < 18446744073709551616) (hb : 0 < b) (hb' : b < 18446744073709551616) (hca : a < 9223372036854775808) (hcb : 9223372036854775808 ≤ b) : Calls Try.prog 32 #[.int .i64 9, .int .u64 a, .int .u64 b] w fun e w' => e = .returned (.int .u64 (doV 9 a b)) ∧ w = w' := by
  have cA : ∀ w, Calls Try.prog 60 #[.int .u64 a] w fun e w' => e = .returned (.bool false) ∧ w = w' := fun w => rbelow_no a w hca
  have cB : ∀ w, Calls Try.prog 60 #[.int .u64 b] w fun e w' => e = .returned (.bool true) ∧ w = w' := fun w => rbelow_yes b w hcb
  have CA := Lib.hid cA
  have CB := Lib.hid cB
  clear cA cB
  have b0 : (b == 0) = false := by simp; omega
  have n0 : b ≠ 0 := by omega
  have mB : ∀ w, Calls Try.prog 61 #[.int .u64 b] w fun e w' => e = .returned (.int .u64 (magV b)) ∧ w = w' := fun w => rminus_mag b w hcb hb'
  have MB := Lib.hid mB
  clear mB
  obtain ⟨b1, b2⟩ := mag_bd (a := b) (by omega) hb'
  have b3 := mag_pos hb hb'
  have b4 : magV b ≠ 0 := by omega
  go_enter Try.func32, Try.ntmps32
  go_wp2_with (first
    | (go_at_call 60; (with_reducible refine (CA.out _).mono ?_); rintro e w' ⟨rfl, rfl⟩)
    | (go_at_call 60; (with_reducible refine (CB.out _).mono ?_); rintro e w' ⟨rfl, rfl⟩)
    | (go_at_call 61; (with_reducible refine (MB.out _).mono ?_); rintro e w' ⟨rfl, rfl⟩)
    | (go_at_call 61; (with_reducible refine (rminus_any _ _).mono ?_); rintro e w' ⟨rfl, rfl⟩))
  go_ret
  refine ⟨ret_int ?_, rfl⟩
  rw [show doV 9 a b = remV a b by simp [doV], remV_up (by omega) (by omega) (by omega) (by omega), mag_up (a := a) (by omega)]
  try rw [Int.zero_sub]
theorem rdivide_9_10 (a b : Int) (w : World) (ha : 0 ≤ a) (ha' : a < 18446744073709551616) (hb : 0 < b) (hb' : b < 18446744073709551616) (hca : 9223372036854775808 ≤ a) (hcb : b < 9223372036854775808) : Calls Try.prog 32 #[.int .i64 9, .int .u64 a, .int .u64 b] w fun e w' => e = .returned (.int .u64 (doV 9 a b)) ∧ w = w' := by
  have cA : ∀ w, Calls Try.prog 60 #[.int .u64 a] w fun e w' => e = .returned (.bool true) ∧ w = w' := fun w => rbelow_yes a w hca
  have cB : ∀ w, Calls Try.prog 60 #[.int .u64 b] w fun e w' => e = .returned (.bool false) ∧ w = w' := fun w => rbelow_no b w hcb
  have CA := Lib.hid cA
  have CB := Lib.hid cB
  clear cA cB
  have b0 : (b == 0) = false := by simp; omega
  have n0 : b ≠ 0 := by omega
  have mA : ∀ w, Calls Try.prog 61 #[.int .u64 a] w fun e w' => e = .returned (.int .u64 (magV a)) ∧ w = w' := fun w => rminus_mag a w hca ha'
  have MA := Lib.hid mA
  clear mA
  obtain ⟨a1, a2⟩ := mag_bd ha ha'
  go_enter Try.func32, Try.ntmps32
  go_wp2_with (first
    | (go_at_call 60; (with_reducible refine (CA.out _).mono ?_); rintro e w' ⟨rfl, rfl⟩)
    | (go_at_call 60; (with_reducible refine (CB.out _).mono ?_); rintro e w' ⟨rfl, rfl⟩)
    | (go_at_call 61; (with_reducible refine (MA.out _).mono ?_); rintro e w' ⟨rfl, rfl⟩)
    | (go_at_call 61; (with_reducible refine (rminus_any _ _).mono ?_); rintro e w' ⟨rfl, rfl⟩))
  go_ret
  refine ⟨ret_int ?_, rfl⟩
  rw [show doV 9 a b = remV a b by simp [doV], remV_down (by omega) (by omega) (by omega) (by omega), mag_up (a := b) (by omega)]
  try rw [Int.zero_sub]
theorem rdivide_9_11 (a b : Int) (w : World) (ha : 0 ≤ a) (ha' : a < 18446744073709551616) (hb : 0 < b) (hb' : b < 18446744073709551616) (hca : 9223372036854775808 ≤ a) (hcb : 9223372036854775808 ≤ b) : Calls Try.prog 32 #[.int .i64 9, .int .u64 a, .int .u64 b] w fun e w' => e = .returned (.int .u64 (doV 9 a b)) ∧ w = w' := by
  have cA : ∀ w, Calls Try.prog 60 #[.int .u64 a] w fun e w' => e = .returned (.bool true) ∧ w = w' := fun w => rbelow_yes a w hca
  have cB : ∀ w, Calls Try.prog 60 #[.int .u64 b] w fun e w' => e = .returned (.bool true) ∧ w = w' := fun w => rbelow_yes b w hcb
  have CA := Lib.hid cA
  have CB := Lib.hid cB
  clear cA cB
  have b0 : (b == 0) = false := by simp; omega
  have n0 : b ≠ 0 := by omega
  have mA : ∀ w, Calls Try.prog 61 #[.int .u64 a] w fun e w' => e = .returned (.int .u64 (magV a)) ∧ w = w' := fun w => rminus_mag a w hca ha'
  have MA := Lib.hid mA
  clear mA
  obtain ⟨a1, a2⟩ := mag_bd ha ha'
  have mB : ∀ w, Calls Try.prog 61 #[.int .u64 b] w fun e w' => e = .returned (.int .u64 (magV b)) ∧ w = w' := fun w => rminus_mag b w hcb hb'
  have MB := Lib.hid mB
  clear mB
  obtain ⟨b1, b2⟩ := mag_bd (a := b) (by omega) hb'
  have b3 := mag_pos hb hb'
  have b4 : magV b ≠ 0 := by omega
  go_enter Try.func32, Try.ntmps32
  go_wp2_with (first
    | (go_at_call 60; (with_reducible refine (CA.out _).mono ?_); rintro e w' ⟨rfl, rfl⟩)
    | (go_at_call 60; (with_reducible refine (CB.out _).mono ?_); rintro e w' ⟨rfl, rfl⟩)
    | (go_at_call 61; (with_reducible refine (MA.out _).mono ?_); rintro e w' ⟨rfl, rfl⟩)
    | (go_at_call 61; (with_reducible refine (MB.out _).mono ?_); rintro e w' ⟨rfl, rfl⟩)
    | (go_at_call 61; (with_reducible refine (rminus_any _ _).mono ?_); rintro e w' ⟨rfl, rfl⟩))
  go_ret
  refine ⟨ret_int ?_, rfl⟩
  rw [show doV 9 a b = remV a b by simp [doV], remV_down (by omega) (by omega) (by omega) (by omega)]
  try rw [Int.zero_sub]
theorem rdivide_9 (a b : Int) (w : World) (ha : 0 ≤ a) (ha' : a < 18446744073709551616) (hb : 0 ≤ b) (hb' : b < 18446744073709551616) : Calls Try.prog 32 #[.int .i64 9, .int .u64 a, .int .u64 b] w fun e w' => e = .returned (.int .u64 (doV 9 a b)) ∧ w = w' := by
  by_cases h0 : b = 0
  · subst h0
    exact rdivide_9_zero a w
  by_cases h : a < 9223372036854775808
  · by_cases h' : b < 9223372036854775808
    · exact rdivide_9_00 a b w ha ha' (by omega) hb' h h'
    · exact rdivide_9_01 a b w ha ha' (by omega) hb' h (by omega)
  · by_cases h' : b < 9223372036854775808
    · exact rdivide_9_10 a b w ha ha' (by omega) hb' (by omega) h'
    · exact rdivide_9_11 a b w ha ha' (by omega) hb' (by omega) (by omega)
theorem rshift_14 (a b : Int) (w : World) (ha : 0 ≤ a) (ha' : a < 18446744073709551616) (hb : 0 ≤ b) (hb' : b < 18446744073709551616) : Calls Try.prog 62 #[.int .i64 14, .int .u64 a, .int .u64 b] w fun e w' => e = .returned (.int .u64 (doV 14 a b)) ∧ w = w' := by
  rw [show doV 14 a b = shlV a (b % 64).toNat by simp [doV]]
  obtain ⟨N, hN⟩ : ∃ N : Nat, b % 64 = N := ⟨(b % 64).toNat, by omega⟩
  have hN64 : N < 64 := by omega
  have hNt : (b % 64).toNat = N := by omega
  rw [hNt]
  have HN := Lib.hid hN
  clear hN hNt
  go_enter Try.func62, Try.ntmps62
  go_wp2
  go_loop [1, 7] (fun x n => ∃ k m : Nat, k + m = N ∧ n = .int .u64 m ∧ x = .int .u64 (shlV a k)) (fun _ n => (intOf n).toNat)
  case atStart => exact ⟨0, N, by omega, by rw [HN.out], by rw [shlV_zero ha ha']⟩
  case round =>
    obtain ⟨k, m, hkm, rfl, rfl⟩ := hrel
    have hs := shlV_succ a k
    have HS := Lib.hid hs
    have HK := Lib.hid hkm
    obtain ⟨v1, v2⟩ := shlV_bd a k
    have hm : m ≤ 63 := by omega
    clear hs hkm
    by_cases h0 : 0 < m
    · go_wp2
      go_round
      case rel => exact ⟨k + 1, m - 1, by have := HK.out; omega, by rw [show ((m - 1 : Nat) : Int) = (m : Int) - 1 by omega], by rw [HS.out]; simp only [IntKind.wrap_u64]⟩
      case measure => simp [intOf]; omega
    · go_wp2
      go_ret
      exact ⟨ret_int (by rw [show N = k by have := HK.out; omega]), rfl⟩
theorem rshift_15 (a b : Int) (w : World) (ha : 0 ≤ a) (ha' : a < 18446744073709551616) (hb : 0 ≤ b) (hb' : b < 18446744073709551616) : Calls Try.prog 62 #[.int .i64 15, .int .u64 a, .int .u64 b] w fun e w' => e = .returned (.int .u64 (doV 15 a b)) ∧ w = w' := by
  rw [show doV 15 a b = shrV a (b % 64).toNat by simp [doV]]
  obtain ⟨N, hN⟩ : ∃ N : Nat, b % 64 = N := ⟨(b % 64).toNat, by omega⟩
  have hN64 : N < 64 := by omega
  have hNt : (b % 64).toNat = N := by omega
  rw [hNt]
  have HN := Lib.hid hN
  clear hN hNt
  go_enter Try.func62, Try.ntmps62
  go_wp2
  go_loop [1, 7] (fun x n => ∃ k m : Nat, k + m = N ∧ n = .int .u64 m ∧ x = .int .u64 (shrV a k)) (fun _ n => (intOf n).toNat)
  case atStart => exact ⟨0, N, by omega, by rw [HN.out], by rw [shrV_zero a]⟩
  case round =>
    obtain ⟨k, m, hkm, rfl, rfl⟩ := hrel
    have hs := shrV_succ a k
    have HS := Lib.hid hs
    have HK := Lib.hid hkm
    obtain ⟨v1, v2⟩ := shrV_bd ha k
    have hm : m ≤ 63 := by omega
    clear hs hkm
    by_cases h0 : 0 < m
    · go_wp2
      go_round
      case rel => exact ⟨k + 1, m - 1, by have := HK.out; omega, by rw [show ((m - 1 : Nat) : Int) = (m : Int) - 1 by omega], by rw [HS.out]⟩
      case measure => simp [intOf]; omega
    · go_wp2
      go_ret
      exact ⟨ret_int (by rw [show N = k by have := HK.out; omega]), rfl⟩
theorem rshift_16 (a b : Int) (w : World) (ha : 0 ≤ a) (ha' : a < 18446744073709551616) (hb : 0 ≤ b) (hb' : b < 18446744073709551616) : Calls Try.prog 62 #[.int .i64 16, .int .u64 a, .int .u64 b] w fun e w' => e = .returned (.int .u64 (doV 16 a b)) ∧ w = w' := by
  rw [show doV 16 a b = sarV a (b % 64).toNat by simp [doV]]
  obtain ⟨N, hN⟩ : ∃ N : Nat, b % 64 = N := ⟨(b % 64).toNat, by omega⟩
  have hN64 : N < 64 := by omega
  have hNt : (b % 64).toNat = N := by omega
  rw [hNt]
  have HN := Lib.hid hN
  clear hN hNt
  go_enter Try.func62, Try.ntmps62
  go_wp2
  go_loop [1, 7] (fun x n => ∃ k m : Nat, k + m = N ∧ n = .int .u64 m ∧ x = .int .u64 (sarV a k)) (fun _ n => (intOf n).toNat)
  case atStart => exact ⟨0, N, by omega, by rw [HN.out], by rw [sarV_zero ha ha']⟩
  case round =>
    obtain ⟨k, m, hkm, rfl, rfl⟩ := hrel
    have hs := sarV_succ ha ha' k
    have HS := Lib.hid hs
    have HK := Lib.hid hkm
    obtain ⟨v1, v2⟩ := sarV_bd a k
    have hm : m ≤ 63 := by omega
    clear hs hkm
    by_cases h0 : 0 < m
    · go_wp2
      go_round
      case rel => exact ⟨k + 1, m - 1, by have := HK.out; omega, by rw [show ((m - 1 : Nat) : Int) = (m : Int) - 1 by omega], by rw [HS.out]⟩
      case measure => simp [intOf]; omega
    · go_wp2
      go_ret
      exact ⟨ret_int (by rw [show N = k by have := HK.out; omega]), rfl⟩
end Go.Proofs.Ytnlhebcmebbgkaa
