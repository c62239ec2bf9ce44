/- What the document's own way (package twinshaftref01) makes of two words, of their low halves, and of low parts: contracts for all numbers of 64 bits, any size, any number as a function, in whatever memory, which stays as it was. -/
import Derived.Test.YtnaceogkaiodnaaGreatM14
import Derived.Test.YtnaceogkaiodnaaGreatRows
import Derived.Test.YtnaceogkaiodnaaGreatM1
import Derived.Test.YtnaceogkaiodnaaGreatM3
import Derived.WalkKit
import Derived.WalkSpells
import Derived.WalkLawsBesides
import Derived.ProofKit
import Derived.Lib.Hide
namespace Go.Proofs.YtnaceogkaiodnaaGreat
open Go.RowKit
set_option linter.unusedVariables false

theorem rzext_1 (a : Int) (w : World) (ha : 0 ≤ a) (ha' : a < 18446744073709551616) : Calls Tryz.prog 74 #[.int .u64 a, .int .i64 1] w fun e w' => e = .returned (.int .u64 (zextV a 1)) ∧ w = w' := by
  go_enter Tryz.func74, Tryz.ntmps74
  go_wp2
  go_ret
  exact ⟨ret_int (by rw [zextV_1]), rfl⟩
theorem rzext_2 (a : Int) (w : World) (ha : 0 ≤ a) (ha' : a < 18446744073709551616) : Calls Tryz.prog 74 #[.int .u64 a, .int .i64 2] w fun e w' => e = .returned (.int .u64 (zextV a 2)) ∧ w = w' := by
  go_enter Tryz.func74, Tryz.ntmps74
  go_wp2
  go_ret
  exact ⟨ret_int (by rw [zextV_2]), rfl⟩
theorem rzext_4 (a : Int) (w : World) (ha : 0 ≤ a) (ha' : a < 18446744073709551616) : Calls Tryz.prog 74 #[.int .u64 a, .int .i64 4] w fun e w' => e = .returned (.int .u64 (zextV a 4)) ∧ w = w' := by
  go_enter Tryz.func74, Tryz.ntmps74
  go_wp2
  go_ret
  exact ⟨ret_int (by rw [zextV_4]), rfl⟩
theorem rzext_8 (a : Int) (w : World) (ha : 0 ≤ a) (ha' : a < 18446744073709551616) : Calls Tryz.prog 74 #[.int .u64 a, .int .i64 8] w fun e w' => e = .returned (.int .u64 (zextV a 8)) ∧ w = w' := by
  go_enter Tryz.func74, Tryz.ntmps74
  go_wp2
  go_ret
  exact ⟨ret_int (by rw [zextV_8]), rfl⟩
theorem rzext_no (a s : Int) (w : World) (h : sizedB s = false) : Calls Tryz.prog 74 #[.int .u64 a, .int .i64 s] w fun e w' => e = .returned (.int .u64 (zextV a s)) ∧ w = w' := by
  rw [zextV_not h]
  have H := Lib.hid h
  clear h
  go_enter Tryz.func74, Tryz.ntmps74
  go_wp2_with (go_at_call 87; refine (sized_any_no H.out _).mono ?_; rintro e w' ⟨rfl, rfl⟩)
  go_ret
  exact ⟨rfl, rfl⟩
theorem sized_yes_1  (w : World)  : Calls Tryz.prog 87 #[.int .i64 1] w fun e w' => e = .returned (.bool true) ∧ w = w' := by
  exact sized_any 1 w
theorem sized_yes_2  (w : World)  : Calls Tryz.prog 87 #[.int .i64 2] w fun e w' => e = .returned (.bool true) ∧ w = w' := by
  exact sized_any 2 w
theorem sized_yes_4  (w : World)  : Calls Tryz.prog 87 #[.int .i64 4] w fun e w' => e = .returned (.bool true) ∧ w = w' := by
  exact sized_any 4 w
theorem rsext_1 (a : Int) (w : World) (ha : 0 ≤ a) (ha' : a < 18446744073709551616) : Calls Tryz.prog 68 #[.int .u64 a, .int .i64 1] w fun e w' => e = .returned (.int .u64 (sextV a 1)) ∧ w = w' := by
  have hz := zextV_bd (s := 1) ha ha'
  have e := zextV_1 a
  have E := Lib.hid e
  obtain ⟨hz1, hz2⟩ := hz
  by_cases hc : zextV a 1 < 128
  · have Hc := Lib.hid hc
    clear e
    go_enter Tryz.func68, Tryz.ntmps68
    go_wp2_with (first
      | (go_at_call 74; (with_reducible refine (rzext_1 a _ ha ha').mono ?_); rintro e w' ⟨rfl, rfl⟩)
      | (go_at_call 87; (with_reducible refine (sized_yes_1 _).mono ?_); rintro e w' ⟨rfl, rfl⟩))
    go_ret
    refine ⟨ret_int ?_, rfl⟩
    have h1 := E.out
    have h2 := Hc.out
    rw [sextV_1]
    unfold sext1
    rw [if_pos (by omega)]
    omega
  · have hd : 128 ≤ zextV a 1 := by omega
    have Hd := Lib.hid hd
    clear e hc
    go_enter Tryz.func68, Tryz.ntmps68
    go_wp2_with (first
      | (go_at_call 74; (with_reducible refine (rzext_1 a _ ha ha').mono ?_); rintro e w' ⟨rfl, rfl⟩)
      | (go_at_call 87; (with_reducible refine (sized_yes_1 _).mono ?_); rintro e w' ⟨rfl, rfl⟩))
    go_ret
    refine ⟨ret_int ?_, rfl⟩
    have h1 := E.out
    have h2 := Hd.out
    rw [sextV_1]
    unfold sext1
    rw [if_neg (by omega)]
    try rw [IntKind.wrap_u64]
    omega
theorem rsext_2 (a : Int) (w : World) (ha : 0 ≤ a) (ha' : a < 18446744073709551616) : Calls Tryz.prog 68 #[.int .u64 a, .int .i64 2] w fun e w' => e = .returned (.int .u64 (sextV a 2)) ∧ w = w' := by
  have hz := zextV_bd (s := 2) ha ha'
  have e := zextV_2 a
  have E := Lib.hid e
  obtain ⟨hz1, hz2⟩ := hz
  by_cases hc : zextV a 2 < 32768
  · have Hc := Lib.hid hc
    clear e
    go_enter Tryz.func68, Tryz.ntmps68
    go_wp2_with (first
      | (go_at_call 74; (with_reducible refine (rzext_2 a _ ha ha').mono ?_); rintro e w' ⟨rfl, rfl⟩)
      | (go_at_call 87; (with_reducible refine (sized_yes_2 _).mono ?_); rintro e w' ⟨rfl, rfl⟩))
    go_ret
    refine ⟨ret_int ?_, rfl⟩
    have h1 := E.out
    have h2 := Hc.out
    rw [sextV_2]
    unfold sext1
    rw [if_pos (by omega)]
    omega
  · have hd : 32768 ≤ zextV a 2 := by omega
    have Hd := Lib.hid hd
    clear e hc
    go_enter Tryz.func68, Tryz.ntmps68
    go_wp2_with (first
      | (go_at_call 74; (with_reducible refine (rzext_2 a _ ha ha').mono ?_); rintro e w' ⟨rfl, rfl⟩)
      | (go_at_call 87; (with_reducible refine (sized_yes_2 _).mono ?_); rintro e w' ⟨rfl, rfl⟩))
    go_ret
    refine ⟨ret_int ?_, rfl⟩
    have h1 := E.out
    have h2 := Hd.out
    rw [sextV_2]
    unfold sext1
    rw [if_neg (by omega)]
    try rw [IntKind.wrap_u64]
    omega
theorem rsext_4 (a : Int) (w : World) (ha : 0 ≤ a) (ha' : a < 18446744073709551616) : Calls Tryz.prog 68 #[.int .u64 a, .int .i64 4] w fun e w' => e = .returned (.int .u64 (sextV a 4)) ∧ w = w' := by
  have hz := zextV_bd (s := 4) ha ha'
  have e := zextV_4 a
  have E := Lib.hid e
  obtain ⟨hz1, hz2⟩ := hz
  by_cases hc : zextV a 4 < 2147483648
  · have Hc := Lib.hid hc
    clear e
    go_enter Tryz.func68, Tryz.ntmps68
    go_wp2_with (first
      | (go_at_call 74; (with_reducible refine (rzext_4 a _ ha ha').mono ?_); rintro e w' ⟨rfl, rfl⟩)
      | (go_at_call 87; (with_reducible refine (sized_yes_4 _).mono ?_); rintro e w' ⟨rfl, rfl⟩))
    go_ret
    refine ⟨ret_int ?_, rfl⟩
    have h1 := E.out
    have h2 := Hc.out
    rw [sextV_4]
    unfold sext1
    rw [if_pos (by omega)]
    omega
  · have hd : 2147483648 ≤ zextV a 4 := by omega
    have Hd := Lib.hid hd
    clear e hc
    go_enter Tryz.func68, Tryz.ntmps68
    go_wp2_with (first
      | (go_at_call 74; (with_reducible refine (rzext_4 a _ ha ha').mono ?_); rintro e w' ⟨rfl, rfl⟩)
      | (go_at_call 87; (with_reducible refine (sized_yes_4 _).mono ?_); rintro e w' ⟨rfl, rfl⟩))
    go_ret
    refine ⟨ret_int ?_, rfl⟩
    have h1 := E.out
    have h2 := Hd.out
    rw [sextV_4]
    unfold sext1
    rw [if_neg (by omega)]
    try rw [IntKind.wrap_u64]
    omega
theorem rsext_8 (a : Int) (w : World) (ha : 0 ≤ a) (ha' : a < 18446744073709551616) : Calls Tryz.prog 68 #[.int .u64 a, .int .i64 8] w fun e w' => e = .returned (.int .u64 (sextV a 8)) ∧ w = w' := by
  go_enter Tryz.func68, Tryz.ntmps68
  go_wp2_with (go_at_call 74; (with_reducible refine (rzext_8 a _ ha ha').mono ?_); rintro e w' ⟨rfl, rfl⟩)
  go_ret
  exact ⟨ret_int (by rw [sextV_8, zextV_8]), rfl⟩
theorem rsext_no (a s : Int) (w : World) (h : sizedB s = false) : Calls Tryz.prog 68 #[.int .u64 a, .int .i64 s] w fun e w' => e = .returned (.int .u64 (sextV a s)) ∧ w = w' := by
  have e0 := zextV_not (a := a) h
  rw [sextV_not h]
  have hn := sized_not h
  have b8 : (s == 8) = false := by simp [hn]
  have H := Lib.hid h
  have E := Lib.hid e0
  clear h hn e0
  go_enter Tryz.func68, Tryz.ntmps68
  go_wp2_with (first
    | (go_at_call 74; (with_reducible refine (rzext_no a s _ H.out).mono ?_); rintro e w' ⟨rfl, rfl⟩)
    | (go_at_call 87; refine (sized_any_no H.out _).mono ?_; rintro e w' ⟨rfl, rfl⟩))
  go_ret
  exact ⟨ret_int E.out, rfl⟩
theorem rsext_any (a s : Int) (w : World) (ha : 0 ≤ a) (ha' : a < 18446744073709551616) : Calls Tryz.prog 68 #[.int .u64 a, .int .i64 s] w fun e w' => e = .returned (.int .u64 (sextV a s)) ∧ w = w' := by
  cases h : sizedB s
  · exact rsext_no a s w h
  · rcases sized_cases h with rfl | rfl | rfl | rfl
    · exact rsext_1 a w ha ha'
    · exact rsext_2 a w ha ha'
    · exact rsext_4 a w ha ha'
    · exact rsext_8 a w ha ha'
theorem rhigh_any (a b : Int) (w : World) (ha : 0 ≤ a) (ha' : a < 18446744073709551616) (hb : 0 ≤ b) (hb' : b < 18446744073709551616) : Calls Tryz.prog 88 #[.int .u64 a, .int .u64 b] w fun e w' => e = .returned (.int .u64 (mulhuV a b)) ∧ w = w' := by
  have key := mul64_arith a b ha ha' hb hb'
  have Hk := Lib.hid key
  have ht : ∀ z : Int, (z % 18446744073709551616).tmod 4294967296 = z % 18446744073709551616 % 4294967296 := fun z => Int.tmod_eq_emod_of_nonneg (by omega)
  have Ht := Lib.hid ht
  clear key ht
  go_enter Tryz.func88, Tryz.ntmps88
  go_wp2
  go_ret
  refine ⟨ret_int ?_, rfl⟩
  simp only [IntKind.wrap_u64, Ht.out]
  have h := Hk.out
  rw [Int.add_comm (_ % 4294967296) (_ % 18446744073709551616)] at h
  exact h
theorem rbelow_no (a : Int) (w : World) (h : a < 9223372036854775808) : Calls Tryz.prog 89 #[.int .u64 a] w fun e w' => e = .returned (.bool false) ∧ w = w' := by
  go_enter Tryz.func89, Tryz.ntmps89
  go_wp2
  go_ret
  exact ⟨ret_bool (by first | (simp; done) | (simp; omega)), rfl⟩
theorem rbelow_yes (a : Int) (w : World) (h : 9223372036854775808 ≤ a) : Calls Tryz.prog 89 #[.int .u64 a] w fun e w' => e = .returned (.bool true) ∧ w = w' := by
  go_enter Tryz.func89, Tryz.ntmps89
  go_wp2
  go_ret
  exact ⟨ret_bool (by first | (simp; done) | (simp; omega)), rfl⟩
theorem rminus_any (a : Int) (w : World)  : Calls Tryz.prog 90 #[.int .u64 a] w fun e w' => e = .returned (.int .u64 ((0 - a) % 18446744073709551616)) ∧ w = w' := by
  go_enter Tryz.func90, Tryz.ntmps90
  go_wp2
  go_ret
  exact ⟨ret_int (by simp [IntKind.wrap_u64]), rfl⟩
theorem rminus_mag (a : Int) (w : World) (h : 9223372036854775808 ≤ a) (h' : a < 18446744073709551616) : Calls Tryz.prog 90 #[.int .u64 a] w fun e w' => e = .returned (.int .u64 (magV a)) ∧ w = w' := by
  rw [← minus_mag h h']
  exact rminus_any a w
theorem rbit_any (b : Bool) (w : World)  : Calls Tryz.prog 92 #[.bool b] w fun e w' => e = .returned (.int .u64 (bitV b)) ∧ w = w' := by
  cases b
  · go_enter Tryz.func92, Tryz.ntmps92
    go_wp2
    go_ret
    exact ⟨rfl, rfl⟩
  · go_enter Tryz.func92, Tryz.ntmps92
    go_wp2
    go_ret
    exact ⟨rfl, rfl⟩
theorem rproduct_4_00 (a b : Int) (w : World) (ha : 0 ≤ a) (ha' : a < 18446744073709551616) (hb : 0 ≤ b) (hb' : b < 18446744073709551616) (hca : a < 9223372036854775808) (hcb : b < 9223372036854775808) : Calls Tryz.prog 71 #[.int .i64 4, .int .u64 a, .int .u64 b] w fun e w' => e = .returned (.int .u64 (doV 4 a b)) ∧ w = w' := by
  have cA : ∀ w, Calls Tryz.prog 89 #[.int .u64 a] w fun e w' => e = .returned (.bool false) ∧ w = w' := fun w => rbelow_no a w hca
  have eA : low0 a b = 0 := by unfold low0; rw [if_pos (by omega)]
  have EA := Lib.hid eA
  have CA := Lib.hid cA
  clear eA cA
  have cB : ∀ w, Calls Tryz.prog 89 #[.int .u64 b] w fun e w' => e = .returned (.bool false) ∧ w = w' := fun w => rbelow_no b w hcb
  have eB : low0 b a = 0 := by unfold low0; rw [if_pos (by omega)]
  have EB := Lib.hid eB
  have CB := Lib.hid cB
  clear eB cB
  go_enter Tryz.func71, Tryz.ntmps71
  go_wp2_with (first
    | (go_at_call 88; (with_reducible refine (rhigh_any a b _ ha ha' hb hb').mono ?_); rintro e w' ⟨rfl, rfl⟩)
    | (go_at_call 89; (with_reducible refine (CA.out _).mono ?_); rintro e w' ⟨rfl, rfl⟩)
    | (go_at_call 89; (with_reducible refine (CB.out _).mono ?_); rintro e w' ⟨rfl, rfl⟩))
  go_ret
  refine ⟨ret_int ?_, rfl⟩
  have hm := mulhu_bd ha ha' hb hb'
  rw [show doV 4 a b = mulhV a b by simp [doV]]
  unfold mulhV
  rw [EA.out, EB.out]
  try simp only [IntKind.wrap_u64]
  try omega
theorem rproduct_4_01 (a b : Int) (w : World) (ha : 0 ≤ a) (ha' : a < 18446744073709551616) (hb : 0 ≤ b) (hb' : b < 18446744073709551616) (hca : a < 9223372036854775808) (hcb : 9223372036854775808 ≤ b) : Calls Tryz.prog 71 #[.int .i64 4, .int .u64 a, .int .u64 b] w fun e w' => e = .returned (.int .u64 (doV 4 a b)) ∧ w = w' := by
  have cA : ∀ w, Calls Tryz.prog 89 #[.int .u64 a] w fun e w' => e = .returned (.bool false) ∧ w = w' := fun w => rbelow_no a w hca
  have eA : low0 a b = 0 := by unfold low0; rw [if_pos (by omega)]
  have EA := Lib.hid eA
  have CA := Lib.hid cA
  clear eA cA
  have cB : ∀ w, Calls Tryz.prog 89 #[.int .u64 b] w fun e w' => e = .returned (.bool true) ∧ w = w' := fun w => rbelow_yes b w hcb
  have eB : low0 b a = a := by unfold low0; rw [if_neg (by omega)]
  have EB := Lib.hid eB
  have CB := Lib.hid cB
  clear eB cB
  go_enter Tryz.func71, Tryz.ntmps71
  go_wp2_with (first
    | (go_at_call 88; (with_reducible refine (rhigh_any a b _ ha ha' hb hb').mono ?_); rintro e w' ⟨rfl, rfl⟩)
    | (go_at_call 89; (with_reducible refine (CA.out _).mono ?_); rintro e w' ⟨rfl, rfl⟩)
    | (go_at_call 89; (with_reducible refine (CB.out _).mono ?_); rintro e w' ⟨rfl, rfl⟩))
  go_ret
  refine ⟨ret_int ?_, rfl⟩
  have hm := mulhu_bd ha ha' hb hb'
  rw [show doV 4 a b = mulhV a b by simp [doV]]
  unfold mulhV
  rw [EA.out, EB.out]
  try simp only [IntKind.wrap_u64]
  try omega
theorem rproduct_4_10 (a b : Int) (w : World) (ha : 0 ≤ a) (ha' : a < 18446744073709551616) (hb : 0 ≤ b) (hb' : b < 18446744073709551616) (hca : 9223372036854775808 ≤ a) (hcb : b < 9223372036854775808) : Calls Tryz.prog 71 #[.int .i64 4, .int .u64 a, .int .u64 b] w fun e w' => e = .returned (.int .u64 (doV 4 a b)) ∧ w = w' := by
  have cA : ∀ w, Calls Tryz.prog 89 #[.int .u64 a] w fun e w' => e = .returned (.bool true) ∧ w = w' := fun w => rbelow_yes a w hca
  have eA : low0 a b = b := by unfold low0; rw [if_neg (by omega)]
  have EA := Lib.hid eA
  have CA := Lib.hid cA
  clear eA cA
  have cB : ∀ w, Calls Tryz.prog 89 #[.int .u64 b] w fun e w' => e = .returned (.bool false) ∧ w = w' := fun w => rbelow_no b w hcb
  have eB : low0 b a = 0 := by unfold low0; rw [if_pos (by omega)]
  have EB := Lib.hid eB
  have CB := Lib.hid cB
  clear eB cB
  go_enter Tryz.func71, Tryz.ntmps71
  go_wp2_with (first
    | (go_at_call 88; (with_reducible refine (rhigh_any a b _ ha ha' hb hb').mono ?_); rintro e w' ⟨rfl, rfl⟩)
    | (go_at_call 89; (with_reducible refine (CA.out _).mono ?_); rintro e w' ⟨rfl, rfl⟩)
    | (go_at_call 89; (with_reducible refine (CB.out _).mono ?_); rintro e w' ⟨rfl, rfl⟩))
  go_ret
  refine ⟨ret_int ?_, rfl⟩
  have hm := mulhu_bd ha ha' hb hb'
  rw [show doV 4 a b = mulhV a b by simp [doV]]
  unfold mulhV
  rw [EA.out, EB.out]
  try simp only [IntKind.wrap_u64]
  try omega
theorem rproduct_4_11 (a b : Int) (w : World) (ha : 0 ≤ a) (ha' : a < 18446744073709551616) (hb : 0 ≤ b) (hb' : b < 18446744073709551616) (hca : 9223372036854775808 ≤ a) (hcb : 9223372036854775808 ≤ b) : Calls Tryz.prog 71 #[.int .i64 4, .int .u64 a, .int .u64 b] w fun e w' => e = .returned (.int .u64 (doV 4 a b)) ∧ w = w' := by
  have cA : ∀ w, Calls Tryz.prog 89 #[.int .u64 a] w fun e w' => e = .returned (.bool true) ∧ w = w' := fun w => rbelow_yes a w hca
  have eA : low0 a b = b := by unfold low0; rw [if_neg (by omega)]
  have EA := Lib.hid eA
  have CA := Lib.hid cA
  clear eA cA
  have cB : ∀ w, Calls Tryz.prog 89 #[.int .u64 b] w fun e w' => e = .returned (.bool true) ∧ w = w' := fun w => rbelow_yes b w hcb
  have eB : low0 b a = a := by unfold low0; rw [if_neg (by omega)]
  have EB := Lib.hid eB
  have CB := Lib.hid cB
  clear eB cB
  go_enter Tryz.func71, Tryz.ntmps71
  go_wp2_with (first
    | (go_at_call 88; (with_reducible refine (rhigh_any a b _ ha ha' hb hb').mono ?_); rintro e w' ⟨rfl, rfl⟩)
    | (go_at_call 89; (with_reducible refine (CA.out _).mono ?_); rintro e w' ⟨rfl, rfl⟩)
    | (go_at_call 89; (with_reducible refine (CB.out _).mono ?_); rintro e w' ⟨rfl, rfl⟩))
  go_ret
  refine ⟨ret_int ?_, rfl⟩
  have hm := mulhu_bd ha ha' hb hb'
  rw [show doV 4 a b = mulhV a b by simp [doV]]
  unfold mulhV
  rw [EA.out, EB.out]
  try simp only [IntKind.wrap_u64]
  try omega
theorem rproduct_5_22 (a b : Int) (w : World) (ha : 0 ≤ a) (ha' : a < 18446744073709551616) (hb : 0 ≤ b) (hb' : b < 18446744073709551616) : Calls Tryz.prog 71 #[.int .i64 5, .int .u64 a, .int .u64 b] w fun e w' => e = .returned (.int .u64 (doV 5 a b)) ∧ w = w' := by
  go_enter Tryz.func71, Tryz.ntmps71
  go_wp2_with (first
    | (go_at_call 88; (with_reducible refine (rhigh_any a b _ ha ha' hb hb').mono ?_); rintro e w' ⟨rfl, rfl⟩))
  go_ret
  refine ⟨ret_int ?_, rfl⟩
  have hm := mulhu_bd ha ha' hb hb'
  rw [show doV 5 a b = mulhuV a b by simp [doV]]
  try rfl
theorem rproduct_6_02 (a b : Int) (w : World) (ha : 0 ≤ a) (ha' : a < 18446744073709551616) (hb : 0 ≤ b) (hb' : b < 18446744073709551616) (hca : a < 9223372036854775808) : Calls Tryz.prog 71 #[.int .i64 6, .int .u64 a, .int .u64 b] w fun e w' => e = .returned (.int .u64 (doV 6 a b)) ∧ w = w' := by
  have cA : ∀ w, Calls Tryz.prog 89 #[.int .u64 a] w fun e w' => e = .returned (.bool false) ∧ w = w' := fun w => rbelow_no a w hca
  have eA : low0 a b = 0 := by unfold low0; rw [if_pos (by omega)]
  have EA := Lib.hid eA
  have CA := Lib.hid cA
  clear eA cA
  go_enter Tryz.func71, Tryz.ntmps71
  go_wp2_with (first
    | (go_at_call 88; (with_reducible refine (rhigh_any a b _ ha ha' hb hb').mono ?_); rintro e w' ⟨rfl, rfl⟩)
    | (go_at_call 89; (with_reducible refine (CA.out _).mono ?_); rintro e w' ⟨rfl, rfl⟩))
  go_ret
  refine ⟨ret_int ?_, rfl⟩
  have hm := mulhu_bd ha ha' hb hb'
  rw [show doV 6 a b = mulhsuV a b by simp [doV]]
  unfold mulhsuV
  rw [EA.out]
  try simp only [IntKind.wrap_u64]
  try omega
theorem rproduct_6_12 (a b : Int) (w : World) (ha : 0 ≤ a) (ha' : a < 18446744073709551616) (hb : 0 ≤ b) (hb' : b < 18446744073709551616) (hca : 9223372036854775808 ≤ a) : Calls Tryz.prog 71 #[.int .i64 6, .int .u64 a, .int .u64 b] w fun e w' => e = .returned (.int .u64 (doV 6 a b)) ∧ w = w' := by
  have cA : ∀ w, Calls Tryz.prog 89 #[.int .u64 a] w fun e w' => e = .returned (.bool true) ∧ w = w' := fun w => rbelow_yes a w hca
  have eA : low0 a b = b := by unfold low0; rw [if_neg (by omega)]
  have EA := Lib.hid eA
  have CA := Lib.hid cA
  clear eA cA
  go_enter Tryz.func71, Tryz.ntmps71
  go_wp2_with (first
    | (go_at_call 88; (with_reducible refine (rhigh_any a b _ ha ha' hb hb').mono ?_); rintro e w' ⟨rfl, rfl⟩)
    | (go_at_call 89; (with_reducible refine (CA.out _).mono ?_); rintro e w' ⟨rfl, rfl⟩))
  go_ret
  refine ⟨ret_int ?_, rfl⟩
  have hm := mulhu_bd ha ha' hb hb'
  rw [show doV 6 a b = mulhsuV a b by simp [doV]]
  unfold mulhsuV
  rw [EA.out]
  try simp only [IntKind.wrap_u64]
  try omega
theorem rproduct_4 (a b : Int) (w : World) (ha : 0 ≤ a) (ha' : a < 18446744073709551616) (hb : 0 ≤ b) (hb' : b < 18446744073709551616) : Calls Tryz.prog 71 #[.int .i64 4, .int .u64 a, .int .u64 b] w fun e w' => e = .returned (.int .u64 (doV 4 a b)) ∧ w = w' := by
  by_cases h : a < 9223372036854775808
  · by_cases h' : b < 9223372036854775808
    · exact rproduct_4_00 a b w ha ha' hb hb' h h'
    · exact rproduct_4_01 a b w ha ha' hb hb' h (by omega)
  · by_cases h' : b < 9223372036854775808
    · exact rproduct_4_10 a b w ha ha' hb hb' (by omega) h'
    · exact rproduct_4_11 a b w ha ha' hb hb' (by omega) (by omega)
theorem rproduct_5 (a b : Int) (w : World) (ha : 0 ≤ a) (ha' : a < 18446744073709551616) (hb : 0 ≤ b) (hb' : b < 18446744073709551616) : Calls Tryz.prog 71 #[.int .i64 5, .int .u64 a, .int .u64 b] w fun e w' => e = .returned (.int .u64 (doV 5 a b)) ∧ w = w' := by
  exact rproduct_5_22 a b w ha ha' hb hb'
theorem rproduct_6 (a b : Int) (w : World) (ha : 0 ≤ a) (ha' : a < 18446744073709551616) (hb : 0 ≤ b) (hb' : b < 18446744073709551616) : Calls Tryz.prog 71 #[.int .i64 6, .int .u64 a, .int .u64 b] w fun e w' => e = .returned (.int .u64 (doV 6 a b)) ∧ w = w' := by
  by_cases h : a < 9223372036854775808
  · exact rproduct_6_02 a b w ha ha' hb hb' h
  · exact rproduct_6_12 a b w ha ha' hb hb' (by omega)
theorem rdivide_7_zero (a : Int) (w : World)  : Calls Tryz.prog 72 #[.int .i64 7, .int .u64 a, .int .u64 0] w fun e w' => e = .returned (.int .u64 (doV 7 a 0)) ∧ w = w' := by
  go_enter Tryz.func72, Tryz.ntmps72
  go_wp2
  go_ret
  exact ⟨ret_int (by simp [doV, divV]), rfl⟩
theorem rdivide_7_00 (a b : Int) (w : World) (ha : 0 ≤ a) (ha' : a < 18446744073709551616) (hb : 0 < b) (hb' : b < 18446744073709551616) (hca : a < 9223372036854775808) (hcb : b < 9223372036854775808) : Calls Tryz.prog 72 #[.int .i64 7, .int .u64 a, .int .u64 b] w fun e w' => e = .returned (.int .u64 (doV 7 a b)) ∧ w = w' := by
  have cA : ∀ w, Calls Tryz.prog 89 #[.int .u64 a] w fun e w' => e = .returned (.bool false) ∧ w = w' := fun w => rbelow_no a w hca
  have cB : ∀ w, Calls Tryz.prog 89 #[.int .u64 b] w fun e w' => e = .returned (.bool false) ∧ w = w' := fun w => rbelow_no b w hcb
  have CA := Lib.hid cA
  have CB := Lib.hid cB
  clear cA cB
  have b0 : (b == 0) = false := by simp; omega
  have n0 : b ≠ 0 := by omega
  go_enter Tryz.func72, Tryz.ntmps72
  go_wp2_with (first
    | (go_at_call 89; (with_reducible refine (CA.out _).mono ?_); rintro e w' ⟨rfl, rfl⟩)
    | (go_at_call 89; (with_reducible refine (CB.out _).mono ?_); rintro e w' ⟨rfl, rfl⟩)
    | (go_at_call 90; (with_reducible refine (rminus_any _ _).mono ?_); rintro e w' ⟨rfl, rfl⟩))
  go_ret
  refine ⟨ret_int ?_, rfl⟩
  rw [show doV 7 a b = divV a b by simp [doV], divV_same (by omega) (by omega) (by omega) (by omega) (propext ⟨fun _ => by omega, fun _ => by omega⟩), mag_up (a := a) (by omega), mag_up (a := b) (by omega)]
  try rw [Int.zero_sub]
theorem rdivide_7_01 (a b : Int) (w : World) (ha : 0 ≤ a) (ha' : a < 18446744073709551616) (hb : 0 < b) (hb' : b < 18446744073709551616) (hca : a < 9223372036854775808) (hcb : 9223372036854775808 ≤ b) : Calls Tryz.prog 72 #[.int .i64 7, .int .u64 a, .int .u64 b] w fun e w' => e = .returned (.int .u64 (doV 7 a b)) ∧ w = w' := by
  have cA : ∀ w, Calls Tryz.prog 89 #[.int .u64 a] w fun e w' => e = .returned (.bool false) ∧ w = w' := fun w => rbelow_no a w hca
  have cB : ∀ w, Calls Tryz.prog 89 #[.int .u64 b] w fun e w' => e = .returned (.bool true) ∧ w = w' := fun w => rbelow_yes b w hcb
  have CA := Lib.hid cA
  have CB := Lib.hid cB
  clear cA cB
  have b0 : (b == 0) = false := by simp; omega
  have n0 : b ≠ 0 := by omega
  have mB : ∀ w, Calls Tryz.prog 90 #[.int .u64 b] w fun e w' => e = .returned (.int .u64 (magV b)) ∧ w = w' := fun w => rminus_mag b w hcb hb'
  have MB := Lib.hid mB
  clear mB
  obtain ⟨b1, b2⟩ := mag_bd (a := b) (by omega) hb'
  have b3 := mag_pos hb hb'
  have b4 : magV b ≠ 0 := by omega
  go_enter Tryz.func72, Tryz.ntmps72
  go_wp2_with (first
    | (go_at_call 89; (with_reducible refine (CA.out _).mono ?_); rintro e w' ⟨rfl, rfl⟩)
    | (go_at_call 89; (with_reducible refine (CB.out _).mono ?_); rintro e w' ⟨rfl, rfl⟩)
    | (go_at_call 90; (with_reducible refine (MB.out _).mono ?_); rintro e w' ⟨rfl, rfl⟩)
    | (go_at_call 90; (with_reducible refine (rminus_any _ _).mono ?_); rintro e w' ⟨rfl, rfl⟩))
  go_ret
  refine ⟨ret_int ?_, rfl⟩
  rw [show doV 7 a b = divV a b by simp [doV], divV_other (by omega) (by omega) (by omega) (by omega) (fun h => by have := h.symm ▸ (show b < 9223372036854775808 ∨ ¬ b < 9223372036854775808 from Classical.em _); simp at h; omega), mag_up (a := a) (by omega)]
  try rw [Int.zero_sub]
theorem rdivide_7_10 (a b : Int) (w : World) (ha : 0 ≤ a) (ha' : a < 18446744073709551616) (hb : 0 < b) (hb' : b < 18446744073709551616) (hca : 9223372036854775808 ≤ a) (hcb : b < 9223372036854775808) : Calls Tryz.prog 72 #[.int .i64 7, .int .u64 a, .int .u64 b] w fun e w' => e = .returned (.int .u64 (doV 7 a b)) ∧ w = w' := by
  have cA : ∀ w, Calls Tryz.prog 89 #[.int .u64 a] w fun e w' => e = .returned (.bool true) ∧ w = w' := fun w => rbelow_yes a w hca
  have cB : ∀ w, Calls Tryz.prog 89 #[.int .u64 b] w fun e w' => e = .returned (.bool false) ∧ w = w' := fun w => rbelow_no b w hcb
  have CA := Lib.hid cA
  have CB := Lib.hid cB
  clear cA cB
  have b0 : (b == 0) = false := by simp; omega
  have n0 : b ≠ 0 := by omega
  have mA : ∀ w, Calls Tryz.prog 90 #[.int .u64 a] w fun e w' => e = .returned (.int .u64 (magV a)) ∧ w = w' := fun w => rminus_mag a w hca ha'
  have MA := Lib.hid mA
  clear mA
  obtain ⟨a1, a2⟩ := mag_bd ha ha'
  go_enter Tryz.func72, Tryz.ntmps72
  go_wp2_with (first
    | (go_at_call 89; (with_reducible refine (CA.out _).mono ?_); rintro e w' ⟨rfl, rfl⟩)
    | (go_at_call 89; (with_reducible refine (CB.out _).mono ?_); rintro e w' ⟨rfl, rfl⟩)
    | (go_at_call 90; (with_reducible refine (MA.out _).mono ?_); rintro e w' ⟨rfl, rfl⟩)
    | (go_at_call 90; (with_reducible refine (rminus_any _ _).mono ?_); rintro e w' ⟨rfl, rfl⟩))
  go_ret
  refine ⟨ret_int ?_, rfl⟩
  rw [show doV 7 a b = divV a b by simp [doV], divV_other (by omega) (by omega) (by omega) (by omega) (fun h => by have := h.symm ▸ (show b < 9223372036854775808 ∨ ¬ b < 9223372036854775808 from Classical.em _); simp at h; omega), mag_up (a := b) (by omega)]
  try rw [Int.zero_sub]
theorem rdivide_7_11 (a b : Int) (w : World) (ha : 0 ≤ a) (ha' : a < 18446744073709551616) (hb : 0 < b) (hb' : b < 18446744073709551616) (hca : 9223372036854775808 ≤ a) (hcb : 9223372036854775808 ≤ b) : Calls Tryz.prog 72 #[.int .i64 7, .int .u64 a, .int .u64 b] w fun e w' => e = .returned (.int .u64 (doV 7 a b)) ∧ w = w' := by
  have cA : ∀ w, Calls Tryz.prog 89 #[.int .u64 a] w fun e w' => e = .returned (.bool true) ∧ w = w' := fun w => rbelow_yes a w hca
  have cB : ∀ w, Calls Tryz.prog 89 #[.int .u64 b] w fun e w' => e = .returned (.bool true) ∧ w = w' := fun w => rbelow_yes b w hcb
  have CA := Lib.hid cA
  have CB := Lib.hid cB
  clear cA cB
  have b0 : (b == 0) = false := by simp; omega
  have n0 : b ≠ 0 := by omega
  have mA : ∀ w, Calls Tryz.prog 90 #[.int .u64 a] w fun e w' => e = .returned (.int .u64 (magV a)) ∧ w = w' := fun w => rminus_mag a w hca ha'
  have MA := Lib.hid mA
  clear mA
  obtain ⟨a1, a2⟩ := mag_bd ha ha'
  have mB : ∀ w, Calls Tryz.prog 90 #[.int .u64 b] w fun e w' => e = .returned (.int .u64 (magV b)) ∧ w = w' := fun w => rminus_mag b w hcb hb'
  have MB := Lib.hid mB
  clear mB
  obtain ⟨b1, b2⟩ := mag_bd (a := b) (by omega) hb'
  have b3 := mag_pos hb hb'
  have b4 : magV b ≠ 0 := by omega
  go_enter Tryz.func72, Tryz.ntmps72
  go_wp2_with (first
    | (go_at_call 89; (with_reducible refine (CA.out _).mono ?_); rintro e w' ⟨rfl, rfl⟩)
    | (go_at_call 89; (with_reducible refine (CB.out _).mono ?_); rintro e w' ⟨rfl, rfl⟩)
    | (go_at_call 90; (with_reducible refine (MA.out _).mono ?_); rintro e w' ⟨rfl, rfl⟩)
    | (go_at_call 90; (with_reducible refine (MB.out _).mono ?_); rintro e w' ⟨rfl, rfl⟩)
    | (go_at_call 90; (with_reducible refine (rminus_any _ _).mono ?_); rintro e w' ⟨rfl, rfl⟩))
  go_ret
  refine ⟨ret_int ?_, rfl⟩
  rw [show doV 7 a b = divV a b by simp [doV], divV_same (by omega) (by omega) (by omega) (by omega) (propext ⟨fun _ => by omega, fun _ => by omega⟩)]
  try rw [Int.zero_sub]
theorem rdivide_7 (a b : Int) (w : World) (ha : 0 ≤ a) (ha' : a < 18446744073709551616) (hb : 0 ≤ b) (hb' : b < 18446744073709551616) : Calls Tryz.prog 72 #[.int .i64 7, .int .u64 a, .int .u64 b] w fun e w' => e = .returned (.int .u64 (doV 7 a b)) ∧ w = w' := by
  by_cases h0 : b = 0
  · subst h0
    exact rdivide_7_zero a w
  by_cases h : a < 9223372036854775808
  · by_cases h' : b < 9223372036854775808
    · exact rdivide_7_00 a b w ha ha' (by omega) hb' h h'
    · exact rdivide_7_01 a b w ha ha' (by omega) hb' h (by omega)
  · by_cases h' : b < 9223372036854775808
    · exact rdivide_7_10 a b w ha ha' (by omega) hb' (by omega) h'
    · exact rdivide_7_11 a b w ha ha' (by omega) hb' (by omega) (by omega)
theorem rdivide_9_zero (a : Int) (w : World)  : Calls Tryz.prog 72 #[.int .i64 9, .int .u64 a, .int .u64 0] w fun e w' => e = .returned (.int .u64 (doV 9 a 0)) ∧ w = w' := by
  go_enter Tryz.func72, Tryz.ntmps72
  go_wp2
  go_ret
  exact ⟨ret_int (by simp [doV, remV]), rfl⟩
theorem rdivide_9_00 (a b : Int) (w : World) (ha : 0 ≤ a) (ha' : a < 18446744073709551616) (hb : 0 < b) (hb' : b < 18446744073709551616) (hca : a < 9223372036854775808) (hcb : b < 9223372036854775808) : Calls Tryz.prog 72 #[.int .i64 9, .int .u64 a, .int .u64 b] w fun e w' => e = .returned (.int .u64 (doV 9 a b)) ∧ w = w' := by
  have cA : ∀ w, Calls Tryz.prog 89 #[.int .u64 a] w fun e w' => e = .returned (.bool false) ∧ w = w' := fun w => rbelow_no a w hca
  have cB : ∀ w, Calls Tryz.prog 89 #[.int .u64 b] w fun e w' => e = .returned (.bool false) ∧ w = w' := fun w => rbelow_no b w hcb
  have CA := Lib.hid cA
  have CB := Lib.hid cB
  clear cA cB
  have b0 : (b == 0) = false := by simp; omega
  have n0 : b ≠ 0 := by omega
  go_enter Tryz.func72, Tryz.ntmps72
  go_wp2_with (first
    | (go_at_call 89; (with_reducible refine (CA.out _).mono ?_); rintro e w' ⟨rfl, rfl⟩)
    | (go_at_call 89; (with_reducible refine (CB.out _).mono ?_); rintro e w' ⟨rfl, rfl⟩)
    | (go_at_call 90; (with_reducible refine (rminus_any _ _).mono ?_); rintro e w' ⟨rfl, rfl⟩))
  go_ret
  refine ⟨ret_int ?_, rfl⟩
  rw [show doV 9 a b = remV a b by simp [doV], remV_up (by omega) (by omega) (by omega) (by omega), mag_up (a := a) (by omega), mag_up (a := b) (by omega)]
  try rw [Int.zero_sub]
theorem rdivide_9_01 (a b : Int) (w : World) (ha : 0 ≤ a) (ha' : a < 18446744073709551616) (hb : 0 < b) (hb' : b < 18446744073709551616) (hca : a < 9223372036854775808) (hcb : 9223372036854775808 ≤ b) : Calls Tryz.prog 72 #[.int .i64 9, .int .u64 a, .int .u64 b] w fun e w' => e = .returned (.int .u64 (doV 9 a b)) ∧ w = w' := by
  have cA : ∀ w, Calls Tryz.prog 89 #[.int .u64 a] w fun e w' => e = .returned (.bool false) ∧ w = w' := fun w => rbelow_no a w hca
  have cB : ∀ w, Calls Tryz.prog 89 #[.int .u64 b] w fun e w' => e = .returned (.bool true) ∧ w = w' := fun w => rbelow_yes b w hcb
  have CA := Lib.hid cA
  have CB := Lib.hid cB
  clear cA cB
  have b0 : (b == 0) = false := by simp; omega
  have n0 : b ≠ 0 := by omega
  have mB : ∀ w, Calls Tryz.prog 90 #[.int .u64 b] w fun e w' => e = .returned (.int .u64 (magV b)) ∧ w = w' := fun w => rminus_mag b w hcb hb'
  have MB := Lib.hid mB
  clear mB
  obtain ⟨b1, b2⟩ := mag_bd (a := b) (by omega) hb'
  have b3 := mag_pos hb hb'
  have b4 : magV b ≠ 0 := by omega
  go_enter Tryz.func72, Tryz.ntmps72
  go_wp2_with (first
    | (go_at_call 89; (with_reducible refine (CA.out _).mono ?_); rintro e w' ⟨rfl, rfl⟩)
    | (go_at_call 89; (with_reducible refine (CB.out _).mono ?_); rintro e w' ⟨rfl, rfl⟩)
    | (go_at_call 90; (with_reducible refine (MB.out _).mono ?_); rintro e w' ⟨rfl, rfl⟩)
    | (go_at_call 90; (with_reducible refine (rminus_any _ _).mono ?_); rintro e w' ⟨rfl, rfl⟩))
  go_ret
  refine ⟨ret_int ?_, rfl⟩
  rw [show doV 9 a b = remV a b by simp [doV], remV_up (by omega) (by omega) (by omega) (by omega), mag_up (a := a) (by omega)]
  try rw [Int.zero_sub]
theorem rdivide_9_10 (a b : Int) (w : World) (ha : 0 ≤ a) (ha' : a < 18446744073709551616) (hb : 0 < b) (hb' : b < 18446744073709551616) (hca : 9223372036854775808 ≤ a) (hcb : b < 9223372036854775808) : Calls Tryz.prog 72 #[.int .i64 9, .int .u64 a, .int .u64 b] w fun e w' => e = .returned (.int .u64 (doV 9 a b)) ∧ w = w' := by
  have cA : ∀ w, Calls Tryz.prog 89 #[.int .u64 a] w fun e w' => e = .returned (.bool true) ∧ w = w' := fun w => rbelow_yes a w hca
  have cB : ∀ w, Calls Tryz.prog 89 #[.int .u64 b] w fun e w' => e = .returned (.bool false) ∧ w = w' := fun w => rbelow_no b w hcb
  have CA := Lib.hid cA
  have CB := Lib.hid cB
  clear cA cB
  have b0 : (b == 0) = false := by simp; omega
  have n0 : b ≠ 0 := by omega
  have mA : ∀ w, Calls Tryz.prog 90 #[.int .u64 a] w fun e w' => e = .returned (.int .u64 (magV a)) ∧ w = w' := fun w => rminus_mag a w hca ha'
  have MA := Lib.hid mA
  clear mA
  obtain ⟨a1, a2⟩ := mag_bd ha ha'
  go_enter Tryz.func72, Tryz.ntmps72
  go_wp2_with (first
    | (go_at_call 89; (with_reducible refine (CA.out _).mono ?_); rintro e w' ⟨rfl, rfl⟩)
    | (go_at_call 89; (with_reducible refine (CB.out _).mono ?_); rintro e w' ⟨rfl, rfl⟩)
    | (go_at_call 90; (with_reducible refine (MA.out _).mono ?_); rintro e w' ⟨rfl, rfl⟩)
    | (go_at_call 90; (with_reducible refine (rminus_any _ _).mono ?_); rintro e w' ⟨rfl, rfl⟩))
  go_ret
  refine ⟨ret_int ?_, rfl⟩
  rw [show doV 9 a b = remV a b by simp [doV], remV_down (by omega) (by omega) (by omega) (by omega), mag_up (a := b) (by omega)]
  try rw [Int.zero_sub]
theorem rdivide_9_11 (a b : Int) (w : World) (ha : 0 ≤ a) (ha' : a < 18446744073709551616) (hb : 0 < b) (hb' : b < 18446744073709551616) (hca : 9223372036854775808 ≤ a) (hcb : 9223372036854775808 ≤ b) : Calls Tryz.prog 72 #[.int .i64 9, .int .u64 a, .int .u64 b] w fun e w' => e = .returned (.int .u64 (doV 9 a b)) ∧ w = w' := by
  have cA : ∀ w, Calls Tryz.prog 89 #[.int .u64 a] w fun e w' => e = .returned (.bool true) ∧ w = w' := fun w => rbelow_yes a w hca
  have cB : ∀ w, Calls Tryz.prog 89 #[.int .u64 b] w fun e w' => e = .returned (.bool true) ∧ w = w' := fun w => rbelow_yes b w hcb
  have CA := Lib.hid cA
  have CB := Lib.hid cB
  clear cA cB
  have b0 : (b == 0) = false := by simp; omega
  have n0 : b ≠ 0 := by omega
  have mA : ∀ w, Calls Tryz.prog 90 #[.int .u64 a] w fun e w' => e = .returned (.int .u64 (magV a)) ∧ w = w' := fun w => rminus_mag a w hca ha'
  have MA := Lib.hid mA
  clear mA
  obtain ⟨a1, a2⟩ := mag_bd ha ha'
  have mB : ∀ w, Calls Tryz.prog 90 #[.int .u64 b] w fun e w' => e = .returned (.int .u64 (magV b)) ∧ w = w' := fun w => rminus_mag b w hcb hb'
  have MB := Lib.hid mB
  clear mB
  obtain ⟨b1, b2⟩ := mag_bd (a := b) (by omega) hb'
  have b3 := mag_pos hb hb'
  have b4 : magV b ≠ 0 := by omega
  go_enter Tryz.func72, Tryz.ntmps72
  go_wp2_with (first
    | (go_at_call 89; (with_reducible refine (CA.out _).mono ?_); rintro e w' ⟨rfl, rfl⟩)
    | (go_at_call 89; (with_reducible refine (CB.out _).mono ?_); rintro e w' ⟨rfl, rfl⟩)
    | (go_at_call 90; (with_reducible refine (MA.out _).mono ?_); rintro e w' ⟨rfl, rfl⟩)
    | (go_at_call 90; (with_reducible refine (MB.out _).mono ?_); rintro e w' ⟨rfl, rfl⟩)
    | (go_at_call 90; (with_reducible refine (rminus_any _ _).mono ?_); rintro e w' ⟨rfl, rfl⟩))
  go_ret
  refine ⟨ret_int ?_, rfl⟩
  rw [show doV 9 a b = remV a b by simp [doV], remV_down (by omega) (by omega) (by omega) (by omega)]
  try rw [Int.zero_sub]
theorem rdivide_9 (a b : Int) (w : World) (ha : 0 ≤ a) (ha' : a < 18446744073709551616) (hb : 0 ≤ b) (hb' : b < 18446744073709551616) : Calls Tryz.prog 72 #[.int .i64 9, .int .u64 a, .int .u64 b] w fun e w' => e = .returned (.int .u64 (doV 9 a b)) ∧ w = w' := by
  by_cases h0 : b = 0
  · subst h0
    exact rdivide_9_zero a w
  by_cases h : a < 9223372036854775808
  · by_cases h' : b < 9223372036854775808
    · exact rdivide_9_00 a b w ha ha' (by omega) hb' h h'
    · exact rdivide_9_01 a b w ha ha' (by omega) hb' h (by omega)
  · by_cases h' : b < 9223372036854775808
    · exact rdivide_9_10 a b w ha ha' (by omega) hb' (by omega) h'
    · exact rdivide_9_11 a b w ha ha' (by omega) hb' (by omega) (by omega)
theorem rshift_14 (a b : Int) (w : World) (ha : 0 ≤ a) (ha' : a < 18446744073709551616) (hb : 0 ≤ b) (hb' : b < 18446744073709551616) : Calls Tryz.prog 91 #[.int .i64 14, .int .u64 a, .int .u64 b] w fun e w' => e = .returned (.int .u64 (doV 14 a b)) ∧ w = w' := by
  rw [show doV 14 a b = shlV a (b % 64).toNat by simp [doV]]
  obtain ⟨N, hN⟩ : ∃ N : Nat, b % 64 = N := ⟨(b % 64).toNat, by omega⟩
  have hN64 : N < 64 := by omega
  have hNt : (b % 64).toNat = N := by omega
  rw [hNt]
  have HN := Lib.hid hN
  clear hN hNt
  go_enter Tryz.func91, Tryz.ntmps91
  go_wp2
  go_loop [1, 7] (fun x n => ∃ k m : Nat, k + m = N ∧ n = .int .u64 m ∧ x = .int .u64 (shlV a k)) (fun _ n => (intOf n).toNat)
  case atStart => exact ⟨0, N, by omega, by rw [HN.out], by rw [shlV_zero ha ha']⟩
  case round =>
    obtain ⟨k, m, hkm, rfl, rfl⟩ := hrel
    have hs := shlV_succ a k
    have HS := Lib.hid hs
    have HK := Lib.hid hkm
    obtain ⟨v1, v2⟩ := shlV_bd a k
    have hm : m ≤ 63 := by omega
    clear hs hkm
    by_cases h0 : 0 < m
    · go_wp2
      go_round
      case rel => exact ⟨k + 1, m - 1, by have := HK.out; omega, by rw [show ((m - 1 : Nat) : Int) = (m : Int) - 1 by omega], by rw [HS.out]; simp only [IntKind.wrap_u64]⟩
      case measure => simp [intOf]; omega
    · go_wp2
      go_ret
      exact ⟨ret_int (by rw [show N = k by have := HK.out; omega]), rfl⟩
theorem rshift_15 (a b : Int) (w : World) (ha : 0 ≤ a) (ha' : a < 18446744073709551616) (hb : 0 ≤ b) (hb' : b < 18446744073709551616) : Calls Tryz.prog 91 #[.int .i64 15, .int .u64 a, .int .u64 b] w fun e w' => e = .returned (.int .u64 (doV 15 a b)) ∧ w = w' := by
  rw [show doV 15 a b = shrV a (b % 64).toNat by simp [doV]]
  obtain ⟨N, hN⟩ : ∃ N : Nat, b % 64 = N := ⟨(b % 64).toNat, by omega⟩
  have hN64 : N < 64 := by omega
  have hNt : (b % 64).toNat = N := by omega
  rw [hNt]
  have HN := Lib.hid hN
  clear hN hNt
  go_enter Tryz.func91, Tryz.ntmps91
  go_wp2
  go_loop [1, 7] (fun x n => ∃ k m : Nat, k + m = N ∧ n = .int .u64 m ∧ x = .int .u64 (shrV a k)) (fun _ n => (intOf n).toNat)
  case atStart => exact ⟨0, N, by omega, by rw [HN.out], by rw [shrV_zero a]⟩
  case round =>
    obtain ⟨k, m, hkm, rfl, rfl⟩ := hrel
    have hs := shrV_succ a k
    have HS := Lib.hid hs
    have HK := Lib.hid hkm
    obtain ⟨v1, v2⟩ := shrV_bd ha k
    have hm : m ≤ 63 := by omega
    clear hs hkm
    by_cases h0 : 0 < m
    · go_wp2
      go_round
      case rel => exact ⟨k + 1, m - 1, by have := HK.out; omega, by rw [show ((m - 1 : Nat) : Int) = (m : Int) - 1 by omega], by rw [HS.out]⟩
      case measure => simp [intOf]; omega
    · go_wp2
      go_ret
      exact ⟨ret_int (by rw [show N = k by have := HK.out; omega]), rfl⟩
theorem rshift_16 (a b : Int) (w : World) (ha : 0 ≤ a) (ha' : a < 18446744073709551616) (hb : 0 ≤ b) (hb' : b < 18446744073709551616) : Calls Tryz.prog 91 #[.int .i64 16, .int .u64 a, .int .u64 b] w fun e w' => e = .returned (.int .u64 (doV 16 a b)) ∧ w = w' := by
  rw [show doV 16 a b = sarV a (b % 64).toNat by simp [doV]]
  obtain ⟨N, hN⟩ : ∃ N : Nat, b % 64 = N := ⟨(b % 64).toNat, by omega⟩
  have hN64 : N < 64 := by omega
  have hNt : (b % 64).toNat = N := by omega
  rw [hNt]
  have HN := Lib.hid hN
  clear hN hNt
  go_enter Tryz.func91, Tryz.ntmps91
  go_wp2
  go_loop [1, 7] (fun x n => ∃ k m : Nat, k + m = N ∧ n = .int .u64 m ∧ x = .int .u64 (sarV a k)) (fun _ n => (intOf n).toNat)
  case atStart => exact ⟨0, N, by omega, by rw [HN.out], by rw [sarV_zero ha ha']⟩
  case round =>
    obtain ⟨k, m, hkm, rfl, rfl⟩ := hrel
    have hs := sarV_succ ha ha' k
    have HS := Lib.hid hs
    have HK := Lib.hid hkm
    obtain ⟨v1, v2⟩ := sarV_bd a k
    have hm : m ≤ 63 := by omega
    clear hs hkm
    by_cases h0 : 0 < m
    · go_wp2
      go_round
      case rel => exact ⟨k + 1, m - 1, by have := HK.out; omega, by rw [show ((m - 1 : Nat) : Int) = (m : Int) - 1 by omega], by rw [HS.out]⟩
      case measure => simp [intOf]; omega
    · go_wp2
      go_ret
      exact ⟨ret_int (by rw [show N = k by have := HK.out; omega]), rfl⟩
end Go.Proofs.YtnaceogkaiodnaaGreat

namespace Go.Proofs.YtnaceogkaiodnaaGreat
open Go.RowKit
set_option linter.unusedVariables false
theorem zext_low5 {b : Int} : zextV b 4 % 32 = b % 32 := by rw [zextV_4]; omega
theorem sext_low5 {b : Int} : sextV b 4 % 32 = b % 32 := by
  rw [sextV_4]
  unfold sext1
  split <;> omega

theorem rother_11 (a b : Int) (w : World) (ha : 0 ≤ a) (ha' : a < 18446744073709551616) (hb : 0 ≤ b) (hb' : b < 18446744073709551616) : Calls Tryz.prog 73 #[.int .i64 11, .int .u64 a, .int .u64 b] w fun e w' => e = .returned (.tuple #[.int .u64 (doV 11 a b), .int .i64 0]) ∧ w = w' := by
  go_enter Tryz.func73, Tryz.ntmps73
  go_wp2_with fail
  go_ret2
  exact ⟨ret_int2 (by simp [doV]) rfl, rfl⟩
theorem rother_12 (a b : Int) (w : World) (ha : 0 ≤ a) (ha' : a < 18446744073709551616) (hb : 0 ≤ b) (hb' : b < 18446744073709551616) : Calls Tryz.prog 73 #[.int .i64 12, .int .u64 a, .int .u64 b] w fun e w' => e = .returned (.tuple #[.int .u64 (doV 12 a b), .int .i64 0]) ∧ w = w' := by
  go_enter Tryz.func73, Tryz.ntmps73
  go_wp2_with fail
  go_ret2
  exact ⟨ret_int2 (by simp [doV]) rfl, rfl⟩
theorem rother_13 (a b : Int) (w : World) (ha : 0 ≤ a) (ha' : a < 18446744073709551616) (hb : 0 ≤ b) (hb' : b < 18446744073709551616) : Calls Tryz.prog 73 #[.int .i64 13, .int .u64 a, .int .u64 b] w fun e w' => e = .returned (.tuple #[.int .u64 (doV 13 a b), .int .i64 0]) ∧ w = w' := by
  go_enter Tryz.func73, Tryz.ntmps73
  go_wp2_with fail
  go_ret2
  exact ⟨ret_int2 (by simp [doV]) rfl, rfl⟩
theorem rother_14 (a b : Int) (w : World) (ha : 0 ≤ a) (ha' : a < 18446744073709551616) (hb : 0 ≤ b) (hb' : b < 18446744073709551616) : Calls Tryz.prog 73 #[.int .i64 14, .int .u64 a, .int .u64 b] w fun e w' => e = .returned (.tuple #[.int .u64 (doV 14 a b), .int .i64 0]) ∧ w = w' := by
  go_enter Tryz.func73, Tryz.ntmps73
  go_wp2_with (go_at_call 91; (with_reducible refine (rshift_14 a b _ ha ha' hb hb').mono ?_); rintro e w' ⟨rfl, rfl⟩)
  go_ret2
  exact ⟨ret_int2 (by simp [doV]) rfl, rfl⟩
theorem rother_15 (a b : Int) (w : World) (ha : 0 ≤ a) (ha' : a < 18446744073709551616) (hb : 0 ≤ b) (hb' : b < 18446744073709551616) : Calls Tryz.prog 73 #[.int .i64 15, .int .u64 a, .int .u64 b] w fun e w' => e = .returned (.tuple #[.int .u64 (doV 15 a b), .int .i64 0]) ∧ w = w' := by
  go_enter Tryz.func73, Tryz.ntmps73
  go_wp2_with (go_at_call 91; (with_reducible refine (rshift_15 a b _ ha ha' hb hb').mono ?_); rintro e w' ⟨rfl, rfl⟩)
  go_ret2
  exact ⟨ret_int2 (by simp [doV]) rfl, rfl⟩
theorem rother_16 (a b : Int) (w : World) (ha : 0 ≤ a) (ha' : a < 18446744073709551616) (hb : 0 ≤ b) (hb' : b < 18446744073709551616) : Calls Tryz.prog 73 #[.int .i64 16, .int .u64 a, .int .u64 b] w fun e w' => e = .returned (.tuple #[.int .u64 (doV 16 a b), .int .i64 0]) ∧ w = w' := by
  go_enter Tryz.func73, Tryz.ntmps73
  go_wp2_with (go_at_call 91; (with_reducible refine (rshift_16 a b _ ha ha' hb hb').mono ?_); rintro e w' ⟨rfl, rfl⟩)
  go_ret2
  exact ⟨ret_int2 (by simp [doV]) rfl, rfl⟩
theorem rother_17 (a b : Int) (w : World) (ha : 0 ≤ a) (ha' : a < 18446744073709551616) (hb : 0 ≤ b) (hb' : b < 18446744073709551616) : Calls Tryz.prog 73 #[.int .i64 17, .int .u64 a, .int .u64 b] w fun e w' => e = .returned (.tuple #[.int .u64 (doV 17 a b), .int .i64 0]) ∧ w = w' := by
  have hs : ((a + 9223372036854775808) % 18446744073709551616 < (b + 9223372036854775808) % 18446744073709551616) = (sg a < sg b) := by
    apply propext
    unfold sg
    split <;> split <;> constructor <;> intro h <;> omega
  have HS := Lib.hid hs
  clear hs
  go_enter Tryz.func73, Tryz.ntmps73
  go_wp2_with (go_at_call 92; (with_reducible refine (rbit_any _ _).mono ?_); rintro e w' ⟨rfl, rfl⟩)
  go_ret2
  exact ⟨ret_int2 (by simp only [doV, IntKind.wrap_u64, HS.out]; simp) rfl, rfl⟩
theorem rother_18 (a b : Int) (w : World) (ha : 0 ≤ a) (ha' : a < 18446744073709551616) (hb : 0 ≤ b) (hb' : b < 18446744073709551616) : Calls Tryz.prog 73 #[.int .i64 18, .int .u64 a, .int .u64 b] w fun e w' => e = .returned (.tuple #[.int .u64 (doV 18 a b), .int .i64 0]) ∧ w = w' := by
  go_enter Tryz.func73, Tryz.ntmps73
  go_wp2_with (go_at_call 92; (with_reducible refine (rbit_any _ _).mono ?_); rintro e w' ⟨rfl, rfl⟩)
  go_ret2
  exact ⟨ret_int2 (by simp [doV]) rfl, rfl⟩
theorem rother_19 (a b : Int) (w : World) (ha : 0 ≤ a) (ha' : a < 18446744073709551616) (hb : 0 ≤ b) (hb' : b < 18446744073709551616) : Calls Tryz.prog 73 #[.int .i64 19, .int .u64 a, .int .u64 b] w fun e w' => e = .returned (.tuple #[.int .u64 (doV 19 a b), .int .i64 0]) ∧ w = w' := by
  go_enter Tryz.func73, Tryz.ntmps73
  go_wp2_with (go_at_call 92; (with_reducible refine (rbit_any _ _).mono ?_); rintro e w' ⟨rfl, rfl⟩)
  go_ret2
  exact ⟨ret_int2 (by simp [doV]) rfl, rfl⟩
theorem rother_20 (a b : Int) (w : World) (ha : 0 ≤ a) (ha' : a < 18446744073709551616) (hb : 0 ≤ b) (hb' : b < 18446744073709551616) : Calls Tryz.prog 73 #[.int .i64 20, .int .u64 a, .int .u64 b] w fun e w' => e = .returned (.tuple #[.int .u64 (doV 20 a b), .int .i64 0]) ∧ w = w' := by
  go_enter Tryz.func73, Tryz.ntmps73
  go_wp2_with (go_at_call 92; (with_reducible refine (rbit_any _ _).mono ?_); rintro e w' ⟨rfl, rfl⟩)
  go_ret2
  exact ⟨ret_int2 (by simp [doV, bne]) rfl, rfl⟩
theorem rother_out (fn a b : Int) (w : World) (h : fn < 1 ∨ 20 < fn) : Calls Tryz.prog 73 #[.int .i64 fn, .int .u64 a, .int .u64 b] w fun e w' => e = .returned (.tuple #[.int .u64 0, .int .i64 2]) ∧ w = w' := by
  have b11 : (fn == 11) = false := by simp; omega
  have b12 : (fn == 12) = false := by simp; omega
  have b13 : (fn == 13) = false := by simp; omega
  have b14 : (fn == 14) = false := by simp; omega
  have b15 : (fn == 15) = false := by simp; omega
  have b16 : (fn == 16) = false := by simp; omega
  have b17 : (fn == 17) = false := by simp; omega
  have b18 : (fn == 18) = false := by simp; omega
  have b19 : (fn == 19) = false := by simp; omega
  have b20 : (fn == 20) = false := by simp; omega
  clear h
  go_enter Tryz.func73, Tryz.ntmps73
  go_wp2
  go_ret2
  exact ⟨rfl, rfl⟩
theorem rdo_1 (a b : Int) (w : World) (ha : 0 ≤ a) (ha' : a < 18446744073709551616) (hb : 0 ≤ b) (hb' : b < 18446744073709551616) : Calls Tryz.prog 44 #[.int .i64 1, .int .u64 a, .int .u64 b] w fun e w' => e = .returned (.tuple #[.int .u64 (doV 1 a b), .int .i64 (doE 1)]) ∧ w = w' := by
  rw [doE_in (by omega) (by omega)]
  go_enter Tryz.func44, Tryz.ntmps44
  go_wp2_with fail
  go_ret2
  exact ⟨ret_int2 (by simp [doV, IntKind.wrap_u64]) rfl, rfl⟩
theorem rdo_2 (a b : Int) (w : World) (ha : 0 ≤ a) (ha' : a < 18446744073709551616) (hb : 0 ≤ b) (hb' : b < 18446744073709551616) : Calls Tryz.prog 44 #[.int .i64 2, .int .u64 a, .int .u64 b] w fun e w' => e = .returned (.tuple #[.int .u64 (doV 2 a b), .int .i64 (doE 2)]) ∧ w = w' := by
  rw [doE_in (by omega) (by omega)]
  go_enter Tryz.func44, Tryz.ntmps44
  go_wp2_with fail
  go_ret2
  exact ⟨ret_int2 (by simp [doV, IntKind.wrap_u64]) rfl, rfl⟩
theorem rdo_3 (a b : Int) (w : World) (ha : 0 ≤ a) (ha' : a < 18446744073709551616) (hb : 0 ≤ b) (hb' : b < 18446744073709551616) : Calls Tryz.prog 44 #[.int .i64 3, .int .u64 a, .int .u64 b] w fun e w' => e = .returned (.tuple #[.int .u64 (doV 3 a b), .int .i64 (doE 3)]) ∧ w = w' := by
  rw [doE_in (by omega) (by omega)]
  go_enter Tryz.func44, Tryz.ntmps44
  go_wp2_with fail
  go_ret2
  exact ⟨ret_int2 (by simp [doV, IntKind.wrap_u64]) rfl, rfl⟩
theorem rdo_4 (a b : Int) (w : World) (ha : 0 ≤ a) (ha' : a < 18446744073709551616) (hb : 0 ≤ b) (hb' : b < 18446744073709551616) : Calls Tryz.prog 44 #[.int .i64 4, .int .u64 a, .int .u64 b] w fun e w' => e = .returned (.tuple #[.int .u64 (doV 4 a b), .int .i64 (doE 4)]) ∧ w = w' := by
  rw [doE_in (by omega) (by omega)]
  go_enter Tryz.func44, Tryz.ntmps44
  go_wp2_with (go_at_call 71; (with_reducible refine (rproduct_4 a b _ ha ha' hb hb').mono ?_); rintro e w' ⟨rfl, rfl⟩)
  go_ret2
  exact ⟨ret_int2 (rfl) rfl, rfl⟩
theorem rdo_5 (a b : Int) (w : World) (ha : 0 ≤ a) (ha' : a < 18446744073709551616) (hb : 0 ≤ b) (hb' : b < 18446744073709551616) : Calls Tryz.prog 44 #[.int .i64 5, .int .u64 a, .int .u64 b] w fun e w' => e = .returned (.tuple #[.int .u64 (doV 5 a b), .int .i64 (doE 5)]) ∧ w = w' := by
  rw [doE_in (by omega) (by omega)]
  go_enter Tryz.func44, Tryz.ntmps44
  go_wp2_with (go_at_call 71; (with_reducible refine (rproduct_5 a b _ ha ha' hb hb').mono ?_); rintro e w' ⟨rfl, rfl⟩)
  go_ret2
  exact ⟨ret_int2 (rfl) rfl, rfl⟩
theorem rdo_6 (a b : Int) (w : World) (ha : 0 ≤ a) (ha' : a < 18446744073709551616) (hb : 0 ≤ b) (hb' : b < 18446744073709551616) : Calls Tryz.prog 44 #[.int .i64 6, .int .u64 a, .int .u64 b] w fun e w' => e = .returned (.tuple #[.int .u64 (doV 6 a b), .int .i64 (doE 6)]) ∧ w = w' := by
  rw [doE_in (by omega) (by omega)]
  go_enter Tryz.func44, Tryz.ntmps44
  go_wp2_with (go_at_call 71; (with_reducible refine (rproduct_6 a b _ ha ha' hb hb').mono ?_); rintro e w' ⟨rfl, rfl⟩)
  go_ret2
  exact ⟨ret_int2 (rfl) rfl, rfl⟩
theorem rdo_7 (a b : Int) (w : World) (ha : 0 ≤ a) (ha' : a < 18446744073709551616) (hb : 0 ≤ b) (hb' : b < 18446744073709551616) : Calls Tryz.prog 44 #[.int .i64 7, .int .u64 a, .int .u64 b] w fun e w' => e = .returned (.tuple #[.int .u64 (doV 7 a b), .int .i64 (doE 7)]) ∧ w = w' := by
  rw [doE_in (by omega) (by omega)]
  go_enter Tryz.func44, Tryz.ntmps44
  go_wp2_with (go_at_call 72; (with_reducible refine (rdivide_7 a b _ ha ha' hb hb').mono ?_); rintro e w' ⟨rfl, rfl⟩)
  go_ret2
  exact ⟨ret_int2 (rfl) rfl, rfl⟩
theorem rdo_8_zero (a : Int) (w : World)  : Calls Tryz.prog 44 #[.int .i64 8, .int .u64 a, .int .u64 0] w fun e w' => e = .returned (.tuple #[.int .u64 (doV 8 a 0), .int .i64 (doE 8)]) ∧ w = w' := by
  rw [doE_in (by omega) (by omega)]
  go_enter Tryz.func44, Tryz.ntmps44
  go_wp2
  go_ret2
  exact ⟨ret_int2 (by simp [doV, divuV]) rfl, rfl⟩
theorem rdo_8 (a b : Int) (w : World) (ha : 0 ≤ a) (ha' : a < 18446744073709551616) (hb : 0 ≤ b) (hb' : b < 18446744073709551616) : Calls Tryz.prog 44 #[.int .i64 8, .int .u64 a, .int .u64 b] w fun e w' => e = .returned (.tuple #[.int .u64 (doV 8 a b), .int .i64 (doE 8)]) ∧ w = w' := by
  by_cases h0 : b = 0
  · subst h0
    exact rdo_8_zero a w
  have b0 : (b == 0) = false := by simpa using h0
  have H0 := Lib.hid h0
  have p0 : 0 < b := by omega
  rw [doE_in (by omega) (by omega)]
  go_enter Tryz.func44, Tryz.ntmps44
  go_wp2
  go_ret2
  exact ⟨ret_int2 (by simp [doV, divuV, H0.out]) rfl, rfl⟩
theorem rdo_9 (a b : Int) (w : World) (ha : 0 ≤ a) (ha' : a < 18446744073709551616) (hb : 0 ≤ b) (hb' : b < 18446744073709551616) : Calls Tryz.prog 44 #[.int .i64 9, .int .u64 a, .int .u64 b] w fun e w' => e = .returned (.tuple #[.int .u64 (doV 9 a b), .int .i64 (doE 9)]) ∧ w = w' := by
  rw [doE_in (by omega) (by omega)]
  go_enter Tryz.func44, Tryz.ntmps44
  go_wp2_with (go_at_call 72; (with_reducible refine (rdivide_9 a b _ ha ha' hb hb').mono ?_); rintro e w' ⟨rfl, rfl⟩)
  go_ret2
  exact ⟨ret_int2 (rfl) rfl, rfl⟩
theorem rdo_10_zero (a : Int) (w : World)  : Calls Tryz.prog 44 #[.int .i64 10, .int .u64 a, .int .u64 0] w fun e w' => e = .returned (.tuple #[.int .u64 (doV 10 a 0), .int .i64 (doE 10)]) ∧ w = w' := by
  rw [doE_in (by omega) (by omega)]
  go_enter Tryz.func44, Tryz.ntmps44
  go_wp2
  go_ret2
  exact ⟨ret_int2 (by simp [doV, remuV]) rfl, rfl⟩
theorem rdo_10 (a b : Int) (w : World) (ha : 0 ≤ a) (ha' : a < 18446744073709551616) (hb : 0 ≤ b) (hb' : b < 18446744073709551616) : Calls Tryz.prog 44 #[.int .i64 10, .int .u64 a, .int .u64 b] w fun e w' => e = .returned (.tuple #[.int .u64 (doV 10 a b), .int .i64 (doE 10)]) ∧ w = w' := by
  by_cases h0 : b = 0
  · subst h0
    exact rdo_10_zero a w
  have b0 : (b == 0) = false := by simpa using h0
  have H0 := Lib.hid h0
  have p0 : 0 < b := by omega
  rw [doE_in (by omega) (by omega)]
  go_enter Tryz.func44, Tryz.ntmps44
  go_wp2
  go_ret2
  exact ⟨ret_int2 (by simp [doV, remuV, H0.out]) rfl, rfl⟩
theorem rdo_11 (a b : Int) (w : World) (ha : 0 ≤ a) (ha' : a < 18446744073709551616) (hb : 0 ≤ b) (hb' : b < 18446744073709551616) : Calls Tryz.prog 44 #[.int .i64 11, .int .u64 a, .int .u64 b] w fun e w' => e = .returned (.tuple #[.int .u64 (doV 11 a b), .int .i64 (doE 11)]) ∧ w = w' := by
  rw [doE_in (by omega) (by omega)]
  go_enter Tryz.func44, Tryz.ntmps44
  go_wp2_with (go_at_call 73; (with_reducible refine (rother_11 a b _ ha ha' hb hb').mono ?_); rintro e w' ⟨rfl, rfl⟩)
  go_ret2
  exact ⟨ret_int2 (rfl) rfl, rfl⟩
theorem rdo_12 (a b : Int) (w : World) (ha : 0 ≤ a) (ha' : a < 18446744073709551616) (hb : 0 ≤ b) (hb' : b < 18446744073709551616) : Calls Tryz.prog 44 #[.int .i64 12, .int .u64 a, .int .u64 b] w fun e w' => e = .returned (.tuple #[.int .u64 (doV 12 a b), .int .i64 (doE 12)]) ∧ w = w' := by
  rw [doE_in (by omega) (by omega)]
  go_enter Tryz.func44, Tryz.ntmps44
  go_wp2_with (go_at_call 73; (with_reducible refine (rother_12 a b _ ha ha' hb hb').mono ?_); rintro e w' ⟨rfl, rfl⟩)
  go_ret2
  exact ⟨ret_int2 (rfl) rfl, rfl⟩
theorem rdo_13 (a b : Int) (w : World) (ha : 0 ≤ a) (ha' : a < 18446744073709551616) (hb : 0 ≤ b) (hb' : b < 18446744073709551616) : Calls Tryz.prog 44 #[.int .i64 13, .int .u64 a, .int .u64 b] w fun e w' => e = .returned (.tuple #[.int .u64 (doV 13 a b), .int .i64 (doE 13)]) ∧ w = w' := by
  rw [doE_in (by omega) (by omega)]
  go_enter Tryz.func44, Tryz.ntmps44
  go_wp2_with (go_at_call 73; (with_reducible refine (rother_13 a b _ ha ha' hb hb').mono ?_); rintro e w' ⟨rfl, rfl⟩)
  go_ret2
  exact ⟨ret_int2 (rfl) rfl, rfl⟩
theorem rdo_14 (a b : Int) (w : World) (ha : 0 ≤ a) (ha' : a < 18446744073709551616) (hb : 0 ≤ b) (hb' : b < 18446744073709551616) : Calls Tryz.prog 44 #[.int .i64 14, .int .u64 a, .int .u64 b] w fun e w' => e = .returned (.tuple #[.int .u64 (doV 14 a b), .int .i64 (doE 14)]) ∧ w = w' := by
  rw [doE_in (by omega) (by omega)]
  go_enter Tryz.func44, Tryz.ntmps44
  go_wp2_with (go_at_call 73; (with_reducible refine (rother_14 a b _ ha ha' hb hb').mono ?_); rintro e w' ⟨rfl, rfl⟩)
  go_ret2
  exact ⟨ret_int2 (rfl) rfl, rfl⟩
theorem rdo_15 (a b : Int) (w : World) (ha : 0 ≤ a) (ha' : a < 18446744073709551616) (hb : 0 ≤ b) (hb' : b < 18446744073709551616) : Calls Tryz.prog 44 #[.int .i64 15, .int .u64 a, .int .u64 b] w fun e w' => e = .returned (.tuple #[.int .u64 (doV 15 a b), .int .i64 (doE 15)]) ∧ w = w' := by
  rw [doE_in (by omega) (by omega)]
  go_enter Tryz.func44, Tryz.ntmps44
  go_wp2_with (go_at_call 73; (with_reducible refine (rother_15 a b _ ha ha' hb hb').mono ?_); rintro e w' ⟨rfl, rfl⟩)
  go_ret2
  exact ⟨ret_int2 (rfl) rfl, rfl⟩
theorem rdo_16 (a b : Int) (w : World) (ha : 0 ≤ a) (ha' : a < 18446744073709551616) (hb : 0 ≤ b) (hb' : b < 18446744073709551616) : Calls Tryz.prog 44 #[.int .i64 16, .int .u64 a, .int .u64 b] w fun e w' => e = .returned (.tuple #[.int .u64 (doV 16 a b), .int .i64 (doE 16)]) ∧ w = w' := by
  rw [doE_in (by omega) (by omega)]
  go_enter Tryz.func44, Tryz.ntmps44
  go_wp2_with (go_at_call 73; (with_reducible refine (rother_16 a b _ ha ha' hb hb').mono ?_); rintro e w' ⟨rfl, rfl⟩)
  go_ret2
  exact ⟨ret_int2 (rfl) rfl, rfl⟩
theorem rdo_17 (a b : Int) (w : World) (ha : 0 ≤ a) (ha' : a < 18446744073709551616) (hb : 0 ≤ b) (hb' : b < 18446744073709551616) : Calls Tryz.prog 44 #[.int .i64 17, .int .u64 a, .int .u64 b] w fun e w' => e = .returned (.tuple #[.int .u64 (doV 17 a b), .int .i64 (doE 17)]) ∧ w = w' := by
  rw [doE_in (by omega) (by omega)]
  go_enter Tryz.func44, Tryz.ntmps44
  go_wp2_with (go_at_call 73; (with_reducible refine (rother_17 a b _ ha ha' hb hb').mono ?_); rintro e w' ⟨rfl, rfl⟩)
  go_ret2
  exact ⟨ret_int2 (rfl) rfl, rfl⟩
theorem rdo_18 (a b : Int) (w : World) (ha : 0 ≤ a) (ha' : a < 18446744073709551616) (hb : 0 ≤ b) (hb' : b < 18446744073709551616) : Calls Tryz.prog 44 #[.int .i64 18, .int .u64 a, .int .u64 b] w fun e w' => e = .returned (.tuple #[.int .u64 (doV 18 a b), .int .i64 (doE 18)]) ∧ w = w' := by
  rw [doE_in (by omega) (by omega)]
  go_enter Tryz.func44, Tryz.ntmps44
  go_wp2_with (go_at_call 73; (with_reducible refine (rother_18 a b _ ha ha' hb hb').mono ?_); rintro e w' ⟨rfl, rfl⟩)
  go_ret2
  exact ⟨ret_int2 (rfl) rfl, rfl⟩
theorem rdo_19 (a b : Int) (w : World) (ha : 0 ≤ a) (ha' : a < 18446744073709551616) (hb : 0 ≤ b) (hb' : b < 18446744073709551616) : Calls Tryz.prog 44 #[.int .i64 19, .int .u64 a, .int .u64 b] w fun e w' => e = .returned (.tuple #[.int .u64 (doV 19 a b), .int .i64 (doE 19)]) ∧ w = w' := by
  rw [doE_in (by omega) (by omega)]
  go_enter Tryz.func44, Tryz.ntmps44
  go_wp2_with (go_at_call 73; (with_reducible refine (rother_19 a b _ ha ha' hb hb').mono ?_); rintro e w' ⟨rfl, rfl⟩)
  go_ret2
  exact ⟨ret_int2 (rfl) rfl, rfl⟩
theorem rdo_20 (a b : Int) (w : World) (ha : 0 ≤ a) (ha' : a < 18446744073709551616) (hb : 0 ≤ b) (hb' : b < 18446744073709551616) : Calls Tryz.prog 44 #[.int .i64 20, .int .u64 a, .int .u64 b] w fun e w' => e = .returned (.tuple #[.int .u64 (doV 20 a b), .int .i64 (doE 20)]) ∧ w = w' := by
  rw [doE_in (by omega) (by omega)]
  go_enter Tryz.func44, Tryz.ntmps44
  go_wp2_with (go_at_call 73; (with_reducible refine (rother_20 a b _ ha ha' hb hb').mono ?_); rintro e w' ⟨rfl, rfl⟩)
  go_ret2
  exact ⟨ret_int2 (rfl) rfl, rfl⟩
theorem rdo_out (fn a b : Int) (w : World) (h : fn < 1 ∨ 20 < fn) : Calls Tryz.prog 44 #[.int .i64 fn, .int .u64 a, .int .u64 b] w fun e w' => e = .returned (.tuple #[.int .u64 (doV fn a b), .int .i64 (doE fn)]) ∧ w = w' := by
  rw [doV_out h, doE_out h]
  have b1 : (fn == 1) = false := by simp; omega
  have b2 : (fn == 2) = false := by simp; omega
  have b3 : (fn == 3) = false := by simp; omega
  have b4 : (fn == 4) = false := by simp; omega
  have b5 : (fn == 5) = false := by simp; omega
  have b6 : (fn == 6) = false := by simp; omega
  have b7 : (fn == 7) = false := by simp; omega
  have b8 : (fn == 8) = false := by simp; omega
  have b9 : (fn == 9) = false := by simp; omega
  have b10 : (fn == 10) = false := by simp; omega
  have K := Lib.hid h
  clear h
  go_enter Tryz.func44, Tryz.ntmps44
  go_wp2_with (go_at_call 73; (with_reducible refine (rother_out fn a b _ K.out).mono ?_); rintro e w' ⟨rfl, rfl⟩)
  go_ret2
  exact ⟨rfl, rfl⟩
theorem rdo_any (fn a b : Int) (w : World) (ha : 0 ≤ a) (ha' : a < 18446744073709551616) (hb : 0 ≤ b) (hb' : b < 18446744073709551616) : Calls Tryz.prog 44 #[.int .i64 fn, .int .u64 a, .int .u64 b] w fun e w' => e = .returned (.tuple #[.int .u64 (doV fn a b), .int .i64 (doE fn)]) ∧ w = w' := by
  by_cases h : fn < 1 ∨ 20 < fn
  · exact rdo_out fn a b w h
  · rcases do_cases (fn := fn) (by omega) (by omega) with rfl | rfl | rfl | rfl | rfl | rfl | rfl | rfl | rfl | rfl | rfl | rfl | rfl | rfl | rfl | rfl | rfl | rfl | rfl | rfl
    · exact rdo_1 a b w ha ha' hb hb'
    · exact rdo_2 a b w ha ha' hb hb'
    · exact rdo_3 a b w ha ha' hb hb'
    · exact rdo_4 a b w ha ha' hb hb'
    · exact rdo_5 a b w ha ha' hb hb'
    · exact rdo_6 a b w ha ha' hb hb'
    · exact rdo_7 a b w ha ha' hb hb'
    · exact rdo_8 a b w ha ha' hb hb'
    · exact rdo_9 a b w ha ha' hb hb'
    · exact rdo_10 a b w ha ha' hb hb'
    · exact rdo_11 a b w ha ha' hb hb'
    · exact rdo_12 a b w ha ha' hb hb'
    · exact rdo_13 a b w ha ha' hb hb'
    · exact rdo_14 a b w ha ha' hb hb'
    · exact rdo_15 a b w ha ha' hb hb'
    · exact rdo_16 a b w ha ha' hb hb'
    · exact rdo_17 a b w ha ha' hb hb'
    · exact rdo_18 a b w ha ha' hb hb'
    · exact rdo_19 a b w ha ha' hb hb'
    · exact rdo_20 a b w ha ha' hb hb'
theorem rhalf_1 (a b : Int) (w : World) (ha : 0 ≤ a) (ha' : a < 18446744073709551616) (hb : 0 ≤ b) (hb' : b < 18446744073709551616) : Calls Tryz.prog 45 #[.int .i64 1, .int .u64 a, .int .u64 b] w fun e w' => e = .returned (.tuple #[.int .u64 (halfV 1 a b), .int .i64 (halfE 1)]) ∧ w = w' := by
  obtain ⟨hx1, hx2⟩ := zextV_bd (s := 4) ha ha'
  obtain ⟨z1, z2⟩ := zextV_bd (s := 4) hb hb'
  obtain ⟨s1, s2⟩ := sextV_bd (s := 4) hb hb'
  have hy1 : 0 ≤ (zextV b 4) := by omega
  have hy2 : (zextV b 4) < 18446744073709551616 := by omega
  have hv := doV_bd (fn := 1) hx1 hx2 hy1 hy2
  have e : halfV 1 a b = sextV (doV 1 (zextV a 4) (zextV b 4)) 4 := by simp [halfV, halfB, halfX, halfY]
  have e' : halfE 1 = 0 := by simp [halfE, halfB]
  rw [e, e']
  clear e e'
  go_enter Tryz.func45, Tryz.ntmps45
  go_wp2_with (first
    | (go_at_call 74; (first | (with_reducible refine (rzext_4 a _ ha ha').mono ?_) | (with_reducible refine (rzext_4 b _ hb hb').mono ?_)); rintro e w' ⟨rfl, rfl⟩)
    | (go_at_call 44; (with_reducible refine (rdo_1 _ _ _ hx1 hx2 hy1 hy2).mono ?_); rintro e w' ⟨rfl, rfl⟩)
    | (go_at_call 68; (with_reducible refine (rsext_4 _ _ hv.1 hv.2).mono ?_); rintro e w' ⟨rfl, rfl⟩))
  go_ret2
  exact ⟨rfl, rfl⟩
theorem rhalf_2 (a b : Int) (w : World) (ha : 0 ≤ a) (ha' : a < 18446744073709551616) (hb : 0 ≤ b) (hb' : b < 18446744073709551616) : Calls Tryz.prog 45 #[.int .i64 2, .int .u64 a, .int .u64 b] w fun e w' => e = .returned (.tuple #[.int .u64 (halfV 2 a b), .int .i64 (halfE 2)]) ∧ w = w' := by
  obtain ⟨hx1, hx2⟩ := zextV_bd (s := 4) ha ha'
  obtain ⟨z1, z2⟩ := zextV_bd (s := 4) hb hb'
  obtain ⟨s1, s2⟩ := sextV_bd (s := 4) hb hb'
  have hy1 : 0 ≤ (zextV b 4) := by omega
  have hy2 : (zextV b 4) < 18446744073709551616 := by omega
  have hv := doV_bd (fn := 2) hx1 hx2 hy1 hy2
  have e : halfV 2 a b = sextV (doV 2 (zextV a 4) (zextV b 4)) 4 := by simp [halfV, halfB, halfX, halfY]
  have e' : halfE 2 = 0 := by simp [halfE, halfB]
  rw [e, e']
  clear e e'
  go_enter Tryz.func45, Tryz.ntmps45
  go_wp2_with (first
    | (go_at_call 74; (first | (with_reducible refine (rzext_4 a _ ha ha').mono ?_) | (with_reducible refine (rzext_4 b _ hb hb').mono ?_)); rintro e w' ⟨rfl, rfl⟩)
    | (go_at_call 44; (with_reducible refine (rdo_2 _ _ _ hx1 hx2 hy1 hy2).mono ?_); rintro e w' ⟨rfl, rfl⟩)
    | (go_at_call 68; (with_reducible refine (rsext_4 _ _ hv.1 hv.2).mono ?_); rintro e w' ⟨rfl, rfl⟩))
  go_ret2
  exact ⟨rfl, rfl⟩
theorem rhalf_3 (a b : Int) (w : World) (ha : 0 ≤ a) (ha' : a < 18446744073709551616) (hb : 0 ≤ b) (hb' : b < 18446744073709551616) : Calls Tryz.prog 45 #[.int .i64 3, .int .u64 a, .int .u64 b] w fun e w' => e = .returned (.tuple #[.int .u64 (halfV 3 a b), .int .i64 (halfE 3)]) ∧ w = w' := by
  obtain ⟨hx1, hx2⟩ := zextV_bd (s := 4) ha ha'
  obtain ⟨z1, z2⟩ := zextV_bd (s := 4) hb hb'
  obtain ⟨s1, s2⟩ := sextV_bd (s := 4) hb hb'
  have hy1 : 0 ≤ (zextV b 4) := by omega
  have hy2 : (zextV b 4) < 18446744073709551616 := by omega
  have hv := doV_bd (fn := 3) hx1 hx2 hy1 hy2
  have e : halfV 3 a b = sextV (doV 3 (zextV a 4) (zextV b 4)) 4 := by simp [halfV, halfB, halfX, halfY]
  have e' : halfE 3 = 0 := by simp [halfE, halfB]
  rw [e, e']
  clear e e'
  go_enter Tryz.func45, Tryz.ntmps45
  go_wp2_with (first
    | (go_at_call 74; (first | (with_reducible refine (rzext_4 a _ ha ha').mono ?_) | (with_reducible refine (rzext_4 b _ hb hb').mono ?_)); rintro e w' ⟨rfl, rfl⟩)
    | (go_at_call 44; (with_reducible refine (rdo_3 _ _ _ hx1 hx2 hy1 hy2).mono ?_); rintro e w' ⟨rfl, rfl⟩)
    | (go_at_call 68; (with_reducible refine (rsext_4 _ _ hv.1 hv.2).mono ?_); rintro e w' ⟨rfl, rfl⟩))
  go_ret2
  exact ⟨rfl, rfl⟩
theorem rhalf_7 (a b : Int) (w : World) (ha : 0 ≤ a) (ha' : a < 18446744073709551616) (hb : 0 ≤ b) (hb' : b < 18446744073709551616) : Calls Tryz.prog 45 #[.int .i64 7, .int .u64 a, .int .u64 b] w fun e w' => e = .returned (.tuple #[.int .u64 (halfV 7 a b), .int .i64 (halfE 7)]) ∧ w = w' := by
  obtain ⟨hx1, hx2⟩ := sextV_bd (s := 4) ha ha'
  obtain ⟨z1, z2⟩ := zextV_bd (s := 4) hb hb'
  obtain ⟨s1, s2⟩ := sextV_bd (s := 4) hb hb'
  have hy1 : 0 ≤ (sextV b 4) := by omega
  have hy2 : (sextV b 4) < 18446744073709551616 := by omega
  have hv := doV_bd (fn := 7) hx1 hx2 hy1 hy2
  have e : halfV 7 a b = sextV (doV 7 (sextV a 4) (sextV b 4)) 4 := by simp [halfV, halfB, halfX, halfY]
  have e' : halfE 7 = 0 := by simp [halfE, halfB]
  rw [e, e']
  clear e e'
  go_enter Tryz.func45, Tryz.ntmps45
  go_wp2_with (first
    | (go_at_call 74; (first | (with_reducible refine (rzext_4 a _ ha ha').mono ?_) | (with_reducible refine (rzext_4 b _ hb hb').mono ?_)); rintro e w' ⟨rfl, rfl⟩)
    | (go_at_call 68; (first | (with_reducible refine (rsext_4 a _ ha ha').mono ?_) | (with_reducible refine (rsext_4 b _ hb hb').mono ?_)); rintro e w' ⟨rfl, rfl⟩)
    | (go_at_call 44; (with_reducible refine (rdo_7 _ _ _ hx1 hx2 hy1 hy2).mono ?_); rintro e w' ⟨rfl, rfl⟩)
    | (go_at_call 68; (with_reducible refine (rsext_4 _ _ hv.1 hv.2).mono ?_); rintro e w' ⟨rfl, rfl⟩))
  go_ret2
  exact ⟨rfl, rfl⟩
theorem rhalf_8 (a b : Int) (w : World) (ha : 0 ≤ a) (ha' : a < 18446744073709551616) (hb : 0 ≤ b) (hb' : b < 18446744073709551616) : Calls Tryz.prog 45 #[.int .i64 8, .int .u64 a, .int .u64 b] w fun e w' => e = .returned (.tuple #[.int .u64 (halfV 8 a b), .int .i64 (halfE 8)]) ∧ w = w' := by
  obtain ⟨hx1, hx2⟩ := zextV_bd (s := 4) ha ha'
  obtain ⟨z1, z2⟩ := zextV_bd (s := 4) hb hb'
  obtain ⟨s1, s2⟩ := sextV_bd (s := 4) hb hb'
  have hy1 : 0 ≤ (zextV b 4) := by omega
  have hy2 : (zextV b 4) < 18446744073709551616 := by omega
  have hv := doV_bd (fn := 8) hx1 hx2 hy1 hy2
  have e : halfV 8 a b = sextV (doV 8 (zextV a 4) (zextV b 4)) 4 := by simp [halfV, halfB, halfX, halfY]
  have e' : halfE 8 = 0 := by simp [halfE, halfB]
  rw [e, e']
  clear e e'
  go_enter Tryz.func45, Tryz.ntmps45
  go_wp2_with (first
    | (go_at_call 74; (first | (with_reducible refine (rzext_4 a _ ha ha').mono ?_) | (with_reducible refine (rzext_4 b _ hb hb').mono ?_)); rintro e w' ⟨rfl, rfl⟩)
    | (go_at_call 44; (with_reducible refine (rdo_8 _ _ _ hx1 hx2 hy1 hy2).mono ?_); rintro e w' ⟨rfl, rfl⟩)
    | (go_at_call 68; (with_reducible refine (rsext_4 _ _ hv.1 hv.2).mono ?_); rintro e w' ⟨rfl, rfl⟩))
  go_ret2
  exact ⟨rfl, rfl⟩
theorem rhalf_9 (a b : Int) (w : World) (ha : 0 ≤ a) (ha' : a < 18446744073709551616) (hb : 0 ≤ b) (hb' : b < 18446744073709551616) : Calls Tryz.prog 45 #[.int .i64 9, .int .u64 a, .int .u64 b] w fun e w' => e = .returned (.tuple #[.int .u64 (halfV 9 a b), .int .i64 (halfE 9)]) ∧ w = w' := by
  obtain ⟨hx1, hx2⟩ := sextV_bd (s := 4) ha ha'
  obtain ⟨z1, z2⟩ := zextV_bd (s := 4) hb hb'
  obtain ⟨s1, s2⟩ := sextV_bd (s := 4) hb hb'
  have hy1 : 0 ≤ (sextV b 4) := by omega
  have hy2 : (sextV b 4) < 18446744073709551616 := by omega
  have hv := doV_bd (fn := 9) hx1 hx2 hy1 hy2
  have e : halfV 9 a b = sextV (doV 9 (sextV a 4) (sextV b 4)) 4 := by simp [halfV, halfB, halfX, halfY]
  have e' : halfE 9 = 0 := by simp [halfE, halfB]
  rw [e, e']
  clear e e'
  go_enter Tryz.func45, Tryz.ntmps45
  go_wp2_with (first
    | (go_at_call 74; (first | (with_reducible refine (rzext_4 a _ ha ha').mono ?_) | (with_reducible refine (rzext_4 b _ hb hb').mono ?_)); rintro e w' ⟨rfl, rfl⟩)
    | (go_at_call 68; (first | (with_reducible refine (rsext_4 a _ ha ha').mono ?_) | (with_reducible refine (rsext_4 b _ hb hb').mono ?_)); rintro e w' ⟨rfl, rfl⟩)
    | (go_at_call 44; (with_reducible refine (rdo_9 _ _ _ hx1 hx2 hy1 hy2).mono ?_); rintro e w' ⟨rfl, rfl⟩)
    | (go_at_call 68; (with_reducible refine (rsext_4 _ _ hv.1 hv.2).mono ?_); rintro e w' ⟨rfl, rfl⟩))
  go_ret2
  exact ⟨rfl, rfl⟩
theorem rhalf_10 (a b : Int) (w : World) (ha : 0 ≤ a) (ha' : a < 18446744073709551616) (hb : 0 ≤ b) (hb' : b < 18446744073709551616) : Calls Tryz.prog 45 #[.int .i64 10, .int .u64 a, .int .u64 b] w fun e w' => e = .returned (.tuple #[.int .u64 (halfV 10 a b), .int .i64 (halfE 10)]) ∧ w = w' := by
  obtain ⟨hx1, hx2⟩ := zextV_bd (s := 4) ha ha'
  obtain ⟨z1, z2⟩ := zextV_bd (s := 4) hb hb'
  obtain ⟨s1, s2⟩ := sextV_bd (s := 4) hb hb'
  have hy1 : 0 ≤ (zextV b 4) := by omega
  have hy2 : (zextV b 4) < 18446744073709551616 := by omega
  have hv := doV_bd (fn := 10) hx1 hx2 hy1 hy2
  have e : halfV 10 a b = sextV (doV 10 (zextV a 4) (zextV b 4)) 4 := by simp [halfV, halfB, halfX, halfY]
  have e' : halfE 10 = 0 := by simp [halfE, halfB]
  rw [e, e']
  clear e e'
  go_enter Tryz.func45, Tryz.ntmps45
  go_wp2_with (first
    | (go_at_call 74; (first | (with_reducible refine (rzext_4 a _ ha ha').mono ?_) | (with_reducible refine (rzext_4 b _ hb hb').mono ?_)); rintro e w' ⟨rfl, rfl⟩)
    | (go_at_call 44; (with_reducible refine (rdo_10 _ _ _ hx1 hx2 hy1 hy2).mono ?_); rintro e w' ⟨rfl, rfl⟩)
    | (go_at_call 68; (with_reducible refine (rsext_4 _ _ hv.1 hv.2).mono ?_); rintro e w' ⟨rfl, rfl⟩))
  go_ret2
  exact ⟨rfl, rfl⟩
theorem rhalf_14 (a b : Int) (w : World) (ha : 0 ≤ a) (ha' : a < 18446744073709551616) (hb : 0 ≤ b) (hb' : b < 18446744073709551616) : Calls Tryz.prog 45 #[.int .i64 14, .int .u64 a, .int .u64 b] w fun e w' => e = .returned (.tuple #[.int .u64 (halfV 14 a b), .int .i64 (halfE 14)]) ∧ w = w' := by
  obtain ⟨hx1, hx2⟩ := zextV_bd (s := 4) ha ha'
  obtain ⟨z1, z2⟩ := zextV_bd (s := 4) hb hb'
  obtain ⟨s1, s2⟩ := sextV_bd (s := 4) hb hb'
  have hy1 : 0 ≤ (zextV b 4 % 32) := by omega
  have hy2 : (zextV b 4 % 32) < 18446744073709551616 := by omega
  have hv := doV_bd (fn := 14) hx1 hx2 hy1 hy2
  have e : halfV 14 a b = sextV (doV 14 (zextV a 4) (zextV b 4 % 32)) 4 := by simp [halfV, halfB, halfX, halfY, zext_low5]
  have e' : halfE 14 = 0 := by simp [halfE, halfB]
  rw [e, e']
  clear e e'
  go_enter Tryz.func45, Tryz.ntmps45
  go_wp2_with (first
    | (go_at_call 74; (first | (with_reducible refine (rzext_4 a _ ha ha').mono ?_) | (with_reducible refine (rzext_4 b _ hb hb').mono ?_)); rintro e w' ⟨rfl, rfl⟩)
    | (go_at_call 44; (with_reducible refine (rdo_14 _ _ _ hx1 hx2 hy1 hy2).mono ?_); rintro e w' ⟨rfl, rfl⟩)
    | (go_at_call 68; (with_reducible refine (rsext_4 _ _ hv.1 hv.2).mono ?_); rintro e w' ⟨rfl, rfl⟩))
  go_ret2
  exact ⟨rfl, rfl⟩
theorem rhalf_15 (a b : Int) (w : World) (ha : 0 ≤ a) (ha' : a < 18446744073709551616) (hb : 0 ≤ b) (hb' : b < 18446744073709551616) : Calls Tryz.prog 45 #[.int .i64 15, .int .u64 a, .int .u64 b] w fun e w' => e = .returned (.tuple #[.int .u64 (halfV 15 a b), .int .i64 (halfE 15)]) ∧ w = w' := by
  obtain ⟨hx1, hx2⟩ := zextV_bd (s := 4) ha ha'
  obtain ⟨z1, z2⟩ := zextV_bd (s := 4) hb hb'
  obtain ⟨s1, s2⟩ := sextV_bd (s := 4) hb hb'
  have hy1 : 0 ≤ (zextV b 4 % 32) := by omega
  have hy2 : (zextV b 4 % 32) < 18446744073709551616 := by omega
  have hv := doV_bd (fn := 15) hx1 hx2 hy1 hy2
  have e : halfV 15 a b = sextV (doV 15 (zextV a 4) (zextV b 4 % 32)) 4 := by simp [halfV, halfB, halfX, halfY, zext_low5]
  have e' : halfE 15 = 0 := by simp [halfE, halfB]
  rw [e, e']
  clear e e'
  go_enter Tryz.func45, Tryz.ntmps45
  go_wp2_with (first
    | (go_at_call 74; (first | (with_reducible refine (rzext_4 a _ ha ha').mono ?_) | (with_reducible refine (rzext_4 b _ hb hb').mono ?_)); rintro e w' ⟨rfl, rfl⟩)
    | (go_at_call 44; (with_reducible refine (rdo_15 _ _ _ hx1 hx2 hy1 hy2).mono ?_); rintro e w' ⟨rfl, rfl⟩)
    | (go_at_call 68; (with_reducible refine (rsext_4 _ _ hv.1 hv.2).mono ?_); rintro e w' ⟨rfl, rfl⟩))
  go_ret2
  exact ⟨rfl, rfl⟩
theorem rhalf_16 (a b : Int) (w : World) (ha : 0 ≤ a) (ha' : a < 18446744073709551616) (hb : 0 ≤ b) (hb' : b < 18446744073709551616) : Calls Tryz.prog 45 #[.int .i64 16, .int .u64 a, .int .u64 b] w fun e w' => e = .returned (.tuple #[.int .u64 (halfV 16 a b), .int .i64 (halfE 16)]) ∧ w = w' := by
  obtain ⟨hx1, hx2⟩ := sextV_bd (s := 4) ha ha'
  obtain ⟨z1, z2⟩ := zextV_bd (s := 4) hb hb'
  obtain ⟨s1, s2⟩ := sextV_bd (s := 4) hb hb'
  have hy1 : 0 ≤ (sextV b 4 % 32) := by omega
  have hy2 : (sextV b 4 % 32) < 18446744073709551616 := by omega
  have hv := doV_bd (fn := 16) hx1 hx2 hy1 hy2
  have e : halfV 16 a b = sextV (doV 16 (sextV a 4) (sextV b 4 % 32)) 4 := by simp [halfV, halfB, halfX, halfY, sext_low5]
  have e' : halfE 16 = 0 := by simp [halfE, halfB]
  rw [e, e']
  clear e e'
  go_enter Tryz.func45, Tryz.ntmps45
  go_wp2_with (first
    | (go_at_call 74; (first | (with_reducible refine (rzext_4 a _ ha ha').mono ?_) | (with_reducible refine (rzext_4 b _ hb hb').mono ?_)); rintro e w' ⟨rfl, rfl⟩)
    | (go_at_call 68; (first | (with_reducible refine (rsext_4 a _ ha ha').mono ?_) | (with_reducible refine (rsext_4 b _ hb hb').mono ?_)); rintro e w' ⟨rfl, rfl⟩)
    | (go_at_call 44; (with_reducible refine (rdo_16 _ _ _ hx1 hx2 hy1 hy2).mono ?_); rintro e w' ⟨rfl, rfl⟩)
    | (go_at_call 68; (with_reducible refine (rsext_4 _ _ hv.1 hv.2).mono ?_); rintro e w' ⟨rfl, rfl⟩))
  go_ret2
  exact ⟨rfl, rfl⟩
theorem rhalf_no (fn a b : Int) (w : World) (ha : 0 ≤ a) (ha' : a < 18446744073709551616) (hb : 0 ≤ b) (hb' : b < 18446744073709551616) (h : halfB fn = false) : Calls Tryz.prog 45 #[.int .i64 fn, .int .u64 a, .int .u64 b] w fun e w' => e = .returned (.tuple #[.int .u64 (halfV fn a b), .int .i64 (halfE fn)]) ∧ w = w' := by
  have e : halfV fn a b = 0 := by simp [halfV, h]
  have e' : halfE fn = 2 := by simp [halfE, h]
  rw [e, e']
  clear e e'
  have hn := half_not h
  have b1 : (fn == 1) = false := by simp [hn]
  have b2 : (fn == 2) = false := by simp [hn]
  have b3 : (fn == 3) = false := by simp [hn]
  have b7 : (fn == 7) = false := by simp [hn]
  have b8 : (fn == 8) = false := by simp [hn]
  have b9 : (fn == 9) = false := by simp [hn]
  have b10 : (fn == 10) = false := by simp [hn]
  have b14 : (fn == 14) = false := by simp [hn]
  have b15 : (fn == 15) = false := by simp [hn]
  have b16 : (fn == 16) = false := by simp [hn]
  clear hn h
  go_enter Tryz.func45, Tryz.ntmps45
  go_wp2_with (go_at_call 74; (first | (with_reducible refine (rzext_4 a _ ha ha').mono ?_) | (with_reducible refine (rzext_4 b _ hb hb').mono ?_)); rintro e w' ⟨rfl, rfl⟩)
  go_ret2
  exact ⟨rfl, rfl⟩
theorem rhalf_any (fn a b : Int) (w : World) (ha : 0 ≤ a) (ha' : a < 18446744073709551616) (hb : 0 ≤ b) (hb' : b < 18446744073709551616) : Calls Tryz.prog 45 #[.int .i64 fn, .int .u64 a, .int .u64 b] w fun e w' => e = .returned (.tuple #[.int .u64 (halfV fn a b), .int .i64 (halfE fn)]) ∧ w = w' := by
  cases h : halfB fn
  · exact rhalf_no fn a b w ha ha' hb hb' h
  · rcases half_cases h with rfl | rfl | rfl | rfl | rfl | rfl | rfl | rfl | rfl | rfl
    · exact rhalf_1 a b w ha ha' hb hb'
    · exact rhalf_2 a b w ha ha' hb hb'
    · exact rhalf_3 a b w ha ha' hb hb'
    · exact rhalf_7 a b w ha ha' hb hb'
    · exact rhalf_8 a b w ha ha' hb hb'
    · exact rhalf_9 a b w ha ha' hb hb'
    · exact rhalf_10 a b w ha ha' hb hb'
    · exact rhalf_14 a b w ha ha' hb hb'
    · exact rhalf_15 a b w ha ha' hb hb'
    · exact rhalf_16 a b w ha ha' hb hb'
end Go.Proofs.YtnaceogkaiodnaaGreat

