/- What pushing and popping return, of package frame and of the document's own text: contracts for any numbers, in whatever memory, which stays as it was. -/
import Derived.Test.YtoalncjljchipaaFrame09B
namespace Go.Proofs.Ytoalncjljchipaa
open Go.RowKit
set_option linter.unusedVariables false

theorem edge_any (x : Int) (w : World) (h : 0 ≤ x) (h' : x < 18446744073709551616) :
    Calls Try.prog 30 #[.int .u64 x] w fun e w' => e = .returned (.bool (edgeV x)) ∧ w = w' := by
  have HC := Lib.hid (fun w => downU_any x w h h')
  by_cases h1 : x % 16 = 0
  · have e1 : (dnV x == x) = true := by simp only [beq_iff_eq]; unfold dnV; omega
    have HE := Lib.hid (show decide (x ≤ 65536) = edgeV x by unfold edgeV; rw [decide_eq_true h1]; rfl)
    clear h1
    go_enter Try.func30, Try.ntmps30
    go_wp2_with (go_at_call 29; (with_reducible refine (HC.out _).mono ?_); rintro e w' ⟨rfl, rfl⟩)
    go_ret
    exact ⟨ret_bool HE.out, rfl⟩
  · have e1 : (dnV x == x) = false := by simp only [beq_eq_false_iff_ne]; unfold dnV; omega
    have HE := Lib.hid (show false = edgeV x by unfold edgeV; rw [decide_eq_false h1]; rfl)
    clear h1
    go_enter Try.func30, Try.ntmps30
    go_wp2_with (go_at_call 29; (with_reducible refine (HC.out _).mono ?_); rintro e w' ⟨rfl, rfl⟩)
    go_ret
    exact ⟨ret_bool HE.out, rfl⟩
theorem redge_any (x : Int) (w : World) (h : 0 ≤ x) (h' : x < 18446744073709551616) :
    Calls Try.prog 31 #[.int .u64 x] w fun e w' => e = .returned (.bool (edgeV x)) ∧ w = w' := by
  by_cases h1 : x % 16 = 0
  · have e1 : (x % 16 == 0) = true := by simp only [beq_iff_eq]; exact h1
    have HE := Lib.hid (show decide (x ≤ 65536) = edgeV x by unfold edgeV; rw [decide_eq_true h1]; rfl)
    clear h1
    go_enter Try.func31, Try.ntmps31
    go_wp2
    go_ret
    exact ⟨ret_bool HE.out, rfl⟩
  · have e1 : (x % 16 == 0) = false := by simp only [beq_eq_false_iff_ne]; exact h1
    have HE := Lib.hid (show false = edgeV x by unfold edgeV; rw [decide_eq_false h1]; rfl)
    clear h1
    go_enter Try.func31, Try.ntmps31
    go_wp2
    go_ret
    exact ⟨ret_bool HE.out, rfl⟩
theorem pop_any (x r a : Int) (w : World) (h : 0 ≤ x) (h' : x < 18446744073709551616) (hr : -9223372036854775808 ≤ r) (hr' : r < 9223372036854775808) (ha : -9223372036854775808 ≤ a) (ha' : a < 9223372036854775808) :
    Calls Try.prog 21 #[.int .u64 x, .int .i64 r, .int .i64 a] w fun e w' => e = .returned (.tuple #[.int .u64 (popV x r a), .int .i64 (popE x r a)]) ∧ w = w' := by
  have hs := fun w => size_any r a w hr hr' ha ha'
  have hb := fs_bd r a
  have hd := fun w => edge_any x w h h'
  clear hr hr' ha ha'
  have ho := fsE_or r a
  have HV := Lib.hid (show popV x r a = if popE x r a = 0 then x + fsV r a else 0 from rfl)
  have HE := Lib.hid (show popE x r a = if fsE r a = 0 then (if edgeV x then 0 else 5) else 2 from rfl)
  generalize hz : fsE r a = z at hs ho HE
  generalize hy : fsV r a = y at hs hb HV
  have HS := Lib.hid hs
  have HD := Lib.hid hd
  clear hs hd hz hy
  rcases ho with rfl | rfl
  · cases hx : edgeV x with
    | true =>
      have HX := Lib.hid hx
      have hx2 := edge_iff.1 hx
      have e1 : y % 18446744073709551616 = y := by omega
      have e2 : (x + y) % 18446744073709551616 = x + y := by omega
      have HR := Lib.hid (show popE x r a = 0 by rw [HE.out, HX.out]; rfl)
      rw [hx] at HD
      clear hx hx2 h h' hb
      go_enter Try.func21, Try.ntmps21
      go_wp2_with (first
        | (go_at_call 8; (with_reducible refine (HS.out _).mono ?_); rintro e w' ⟨rfl, rfl⟩)
        | (go_at_call 30; (with_reducible refine (HD.out _).mono ?_); rintro e w' ⟨rfl, rfl⟩))
      go_ret2
      exact ⟨ret_int2 (by rw [HV.out, HR.out]; rfl) HR.out.symm, rfl⟩
    | false =>
      have HX := Lib.hid hx
      have HR := Lib.hid (show popE x r a = 5 by rw [HE.out, HX.out]; rfl)
      rw [hx] at HD
      clear hx h h' hb
      go_enter Try.func21, Try.ntmps21
      go_wp2_with (first
        | (go_at_call 8; (with_reducible refine (HS.out _).mono ?_); rintro e w' ⟨rfl, rfl⟩)
        | (go_at_call 30; (with_reducible refine (HD.out _).mono ?_); rintro e w' ⟨rfl, rfl⟩))
      go_ret2
      exact ⟨ret_int2 (by rw [HV.out, HR.out]; rfl) HR.out.symm, rfl⟩
  · have HR := Lib.hid (show popE x r a = 2 by rw [HE.out]; rfl)
    clear h h' hb
    go_enter Try.func21, Try.ntmps21
    go_wp2_with (go_at_call 8; (with_reducible refine (HS.out _).mono ?_); rintro e w' ⟨rfl, rfl⟩)
    go_ret2
    exact ⟨ret_int2 (by rw [HV.out, HR.out]; rfl) HR.out.symm, rfl⟩
theorem rpop_any (x r a : Int) (w : World) (h : 0 ≤ x) (h' : x < 18446744073709551616) (hr : -9223372036854775808 ≤ r) (hr' : r < 9223372036854775808) (ha : -9223372036854775808 ≤ a) (ha' : a < 9223372036854775808) :
    Calls Try.prog 22 #[.int .u64 x, .int .i64 r, .int .i64 a] w fun e w' => e = .returned (.tuple #[.int .u64 (popV x r a), .int .i64 (popE x r a)]) ∧ w = w' := by
  have hs := fun w => rsize_any r a w hr hr' ha ha'
  have hb := fs_bd r a
  have hd := fun w => redge_any x w h h'
  clear hr hr' ha ha'
  have ho := fsE_or r a
  have HV := Lib.hid (show popV x r a = if popE x r a = 0 then x + fsV r a else 0 from rfl)
  have HE := Lib.hid (show popE x r a = if fsE r a = 0 then (if edgeV x then 0 else 5) else 2 from rfl)
  generalize hz : fsE r a = z at hs ho HE
  generalize hy : fsV r a = y at hs hb HV
  have HS := Lib.hid hs
  have HD := Lib.hid hd
  clear hs hd hz hy
  rcases ho with rfl | rfl
  · cases hx : edgeV x with
    | true =>
      have HX := Lib.hid hx
      have hx2 := edge_iff.1 hx
      have e1 : y % 18446744073709551616 = y := by omega
      have e2 : (x + y) % 18446744073709551616 = x + y := by omega
      have HR := Lib.hid (show popE x r a = 0 by rw [HE.out, HX.out]; rfl)
      rw [hx] at HD
      clear hx hx2 h h' hb
      go_enter Try.func22, Try.ntmps22
      go_wp2_with (first
        | (go_at_call 9; (with_reducible refine (HS.out _).mono ?_); rintro e w' ⟨rfl, rfl⟩)
        | (go_at_call 31; (with_reducible refine (HD.out _).mono ?_); rintro e w' ⟨rfl, rfl⟩))
      go_ret2
      exact ⟨ret_int2 (by rw [HV.out, HR.out]; rfl) HR.out.symm, rfl⟩
    | false =>
      have HX := Lib.hid hx
      have HR := Lib.hid (show popE x r a = 5 by rw [HE.out, HX.out]; rfl)
      rw [hx] at HD
      clear hx h h' hb
      go_enter Try.func22, Try.ntmps22
      go_wp2_with (first
        | (go_at_call 9; (with_reducible refine (HS.out _).mono ?_); rintro e w' ⟨rfl, rfl⟩)
        | (go_at_call 31; (with_reducible refine (HD.out _).mono ?_); rintro e w' ⟨rfl, rfl⟩))
      go_ret2
      exact ⟨ret_int2 (by rw [HV.out, HR.out]; rfl) HR.out.symm, rfl⟩
  · have HR := Lib.hid (show popE x r a = 2 by rw [HE.out]; rfl)
    clear h h' hb
    go_enter Try.func22, Try.ntmps22
    go_wp2_with (go_at_call 9; (with_reducible refine (HS.out _).mono ?_); rintro e w' ⟨rfl, rfl⟩)
    go_ret2
    exact ⟨ret_int2 (by rw [HV.out, HR.out]; rfl) HR.out.symm, rfl⟩
set_option maxHeartbeats 1000000 in
theorem push_any (x r a f : Int) (w : World) (h : 0 ≤ x) (h' : x < 18446744073709551616) (hf : 0 ≤ f) (hf' : f < 18446744073709551616) (hr : -9223372036854775808 ≤ r) (hr' : r < 9223372036854775808) (ha : -9223372036854775808 ≤ a) (ha' : a < 9223372036854775808) :
    Calls Try.prog 19 #[.int .u64 x, .int .i64 r, .int .i64 a, .int .u64 f] w fun e w' => e = .returned (.tuple #[.int .u64 (pushV x r a f), .int .i64 (pushE x r a f)]) ∧ w = w' := by
  have hs := fun w => size_any r a w hr hr' ha ha'
  have hb := fs_bd r a
  have hd := fun w => edge_any x w h h'
  have hd2 := fun w => edge_any f w hf hf'
  clear hr hr' ha ha'
  have ho := fsE_or r a
  have HV := Lib.hid (show pushV x r a f = if pushE x r a f = 0 then x - fsV r a else 0 from rfl)
  have HE := Lib.hid (show pushE x r a f = if fsE r a = 0 then (if edgeV x && edgeV f then (if x < f + fsV r a then 8 else 0) else 5) else 2 from rfl)
  generalize hz : fsE r a = z at hs ho HE
  generalize hy : fsV r a = y at hs hb HV HE
  have HS := Lib.hid hs
  have HD := Lib.hid hd
  have HD2 := Lib.hid hd2
  have HB := Lib.hid (show (0 ≤ y ∧ y ≤ 4608) ∧ 0 ≤ x ∧ 0 ≤ f from ⟨⟨hb.1, hb.2.1⟩, h, hf⟩)
  clear hs hd hd2 hz hy h h' hf hf' hb
  have hi0 : ∀ w, (Instr.index 42 (.agg #[.int .u64 x, .int .u64 f]) (.int .i64 0)).run Try.prog w = .ok (.int .u64 x) w := by intro w; kernel_rfl
  have hi1 : ∀ w, (Instr.index 42 (.agg #[.int .u64 x, .int .u64 f]) (.int .i64 1)).run Try.prog w = .ok (.int .u64 f) w := by intro w; kernel_rfl
  rcases ho with rfl | rfl
  · go_enter Try.func19, Try.ntmps19
    go_wp2
    go_step3
    go_wp2_with (first
        | (go_at_call 8; (with_reducible refine (HS.out _).mono ?_); rintro e w' ⟨rfl, rfl⟩)
        | (go_at_call 30; (with_reducible refine (HD.out _).mono ?_); rintro e w' ⟨rfl, rfl⟩)
        | (go_at_call 30; (with_reducible refine (HD2.out _).mono ?_); rintro e w' ⟨rfl, rfl⟩))
    go_step3
    go_wp2
    go_loopw [11, 13, 26] (fun s11 s13 s26 wr => s11 = .int .i64 0 ∧ wr = w ∧ (s26 = .int .i64 0 ∨ (s26 = .int .i64 1 ∧ edgeV x = true) ∨ (s26 = .int .i64 2 ∧ edgeV x = true ∧ edgeV f = true))) (fun _ _ i _ => 2 - (intOf i).toNat)
    case atStart => exact ⟨rfl, rfl, Or.inl rfl⟩
    case round =>
      obtain ⟨rfl, rfl, hi⟩ := hrel
      rcases hi with rfl | ⟨rfl, hx⟩ | ⟨rfl, hx, hg⟩
      · cases hx : edgeV x with
        | false =>
          have HX := Lib.hid hx
          have HR := Lib.hid (show pushE x r a f = 5 by rw [HE.out, HX.out]; rfl)
          rw [hx] at HD
          clear hx
          go_wp2_with (first
        | (go_at_call 8; (with_reducible refine (HS.out _).mono ?_); rintro e w' ⟨rfl, rfl⟩)
        | (go_at_call 30; (with_reducible refine (HD.out _).mono ?_); rintro e w' ⟨rfl, rfl⟩)
        | (go_at_call 30; (with_reducible refine (HD2.out _).mono ?_); rintro e w' ⟨rfl, rfl⟩))
          try rw [Exit.noGoto_ret]
          go_ret2
          exact ⟨ret_int2 (by rw [HV.out, HR.out]; rfl) HR.out.symm, rfl⟩
        | true =>
          have HX := Lib.hid hx
          rw [hx] at HD
          clear hx
          go_wp2_with (first
        | (go_at_call 8; (with_reducible refine (HS.out _).mono ?_); rintro e w' ⟨rfl, rfl⟩)
        | (go_at_call 30; (with_reducible refine (HD.out _).mono ?_); rintro e w' ⟨rfl, rfl⟩)
        | (go_at_call 30; (with_reducible refine (HD2.out _).mono ?_); rintro e w' ⟨rfl, rfl⟩))
          go_roundw
          case rel => exact ⟨rfl, trivial, by simp⟩
          case measure => simp [intOf]
      · cases hg : edgeV f with
        | false =>
          have HG := Lib.hid hg
          have HR := Lib.hid (show pushE x r a f = 5 by rw [HE.out, hx, HG.out]; rfl)
          rw [hg] at HD2
          clear hx hg
          go_wp2_with (first
        | (go_at_call 8; (with_reducible refine (HS.out _).mono ?_); rintro e w' ⟨rfl, rfl⟩)
        | (go_at_call 30; (with_reducible refine (HD.out _).mono ?_); rintro e w' ⟨rfl, rfl⟩)
        | (go_at_call 30; (with_reducible refine (HD2.out _).mono ?_); rintro e w' ⟨rfl, rfl⟩))
          try rw [Exit.noGoto_ret]
          go_ret2
          exact ⟨ret_int2 (by rw [HV.out, HR.out]; rfl) HR.out.symm, rfl⟩
        | true =>
          have HX := Lib.hid hx
          have HG := Lib.hid hg
          rw [hg] at HD2
          clear hx hg
          go_wp2_with (first
        | (go_at_call 8; (with_reducible refine (HS.out _).mono ?_); rintro e w' ⟨rfl, rfl⟩)
        | (go_at_call 30; (with_reducible refine (HD.out _).mono ?_); rintro e w' ⟨rfl, rfl⟩)
        | (go_at_call 30; (with_reducible refine (HD2.out _).mono ?_); rintro e w' ⟨rfl, rfl⟩))
          go_roundw
          case rel => exact ⟨rfl, trivial, by simp [HX.out]⟩
          case measure => simp [intOf]
      · have hx2 := edge_iff.1 hx
        have hg2 := edge_iff.1 hg
        have hb := HB.out
        have e1 : y % 18446744073709551616 = y := by omega
        have e2 : (f + y) % 18446744073709551616 = f + y := by omega
        have HX := Lib.hid hx
        have HG := Lib.hid hg
        by_cases hl : x < f + y
        · have HR := Lib.hid (show pushE x r a f = 8 by rw [HE.out, HX.out, HG.out]; exact if_pos hl)
          have dl : decide (x < f + y) = true := by simpa using hl
          clear hx hg hl hx2 hg2 hb
          go_wp2_with (first
        | (go_at_call 8; (with_reducible refine (HS.out _).mono ?_); rintro e w' ⟨rfl, rfl⟩)
        | (go_at_call 30; (with_reducible refine (HD.out _).mono ?_); rintro e w' ⟨rfl, rfl⟩)
        | (go_at_call 30; (with_reducible refine (HD2.out _).mono ?_); rintro e w' ⟨rfl, rfl⟩))
          try rw [Exit.noGoto_ret]
          go_ret2
          exact ⟨ret_int2 (by rw [HV.out, HR.out]; rfl) HR.out.symm, rfl⟩
        · have HR := Lib.hid (show pushE x r a f = 0 by rw [HE.out, HX.out, HG.out]; exact if_neg hl)
          have dl : decide (x < f + y) = false := by simpa using hl
          have e3 : (x - y) % 18446744073709551616 = x - y := by omega
          clear hx hg hl hx2 hg2 hb
          go_wp2_with (first
        | (go_at_call 8; (with_reducible refine (HS.out _).mono ?_); rintro e w' ⟨rfl, rfl⟩)
        | (go_at_call 30; (with_reducible refine (HD.out _).mono ?_); rintro e w' ⟨rfl, rfl⟩)
        | (go_at_call 30; (with_reducible refine (HD2.out _).mono ?_); rintro e w' ⟨rfl, rfl⟩))
          try rw [Exit.noGoto_ret]
          go_ret2
          exact ⟨ret_int2 (by rw [HV.out, HR.out]; rfl) HR.out.symm, rfl⟩
  · have HR := Lib.hid (show pushE x r a f = 2 by rw [HE.out]; rfl)
    go_enter Try.func19, Try.ntmps19
    go_wp2
    go_step3
    go_wp2_with (first
        | (go_at_call 8; (with_reducible refine (HS.out _).mono ?_); rintro e w' ⟨rfl, rfl⟩)
        | (go_at_call 30; (with_reducible refine (HD.out _).mono ?_); rintro e w' ⟨rfl, rfl⟩)
        | (go_at_call 30; (with_reducible refine (HD2.out _).mono ?_); rintro e w' ⟨rfl, rfl⟩))
    go_step3
    go_wp2_with (first
        | (go_at_call 8; (with_reducible refine (HS.out _).mono ?_); rintro e w' ⟨rfl, rfl⟩)
        | (go_at_call 30; (with_reducible refine (HD.out _).mono ?_); rintro e w' ⟨rfl, rfl⟩)
        | (go_at_call 30; (with_reducible refine (HD2.out _).mono ?_); rintro e w' ⟨rfl, rfl⟩))
    try rw [Exit.noGoto_ret]
    go_ret2
    exact ⟨ret_int2 (by rw [HV.out, HR.out]; rfl) HR.out.symm, rfl⟩
set_option maxHeartbeats 1000000 in
theorem rpush_any (x r a f : Int) (w : World) (h : 0 ≤ x) (h' : x < 18446744073709551616) (hf : 0 ≤ f) (hf' : f < 18446744073709551616) (hr : -9223372036854775808 ≤ r) (hr' : r < 9223372036854775808) (ha : -9223372036854775808 ≤ a) (ha' : a < 9223372036854775808) :
    Calls Try.prog 20 #[.int .u64 x, .int .i64 r, .int .i64 a, .int .u64 f] w fun e w' => e = .returned (.tuple #[.int .u64 (pushV x r a f), .int .i64 (pushE x r a f)]) ∧ w = w' := by
  have hs := fun w => rsize_any r a w hr hr' ha ha'
  have hb := fs_bd r a
  have hd := fun w => redge_any x w h h'
  have hd2 := fun w => redge_any f w hf hf'
  clear hr hr' ha ha'
  have ho := fsE_or r a
  have HV := Lib.hid (show pushV x r a f = if pushE x r a f = 0 then x - fsV r a else 0 from rfl)
  have HE := Lib.hid (show pushE x r a f = if fsE r a = 0 then (if edgeV x && edgeV f then (if x < f + fsV r a then 8 else 0) else 5) else 2 from rfl)
  generalize hz : fsE r a = z at hs ho HE
  generalize hy : fsV r a = y at hs hb HV HE
  have HS := Lib.hid hs
  have HD := Lib.hid hd
  have HD2 := Lib.hid hd2
  clear hs hd hd2 hz hy
  rcases ho with rfl | rfl
  · cases hx : edgeV x with
    | false =>
      have HX := Lib.hid hx
      have HR := Lib.hid (show pushE x r a f = 5 by rw [HE.out, HX.out]; rfl)
      rw [hx] at HD
      clear hx h h' hf hf' hb
      go_enter Try.func20, Try.ntmps20
      go_wp2_with (first
        | (go_at_call 9; (with_reducible refine (HS.out _).mono ?_); rintro e w' ⟨rfl, rfl⟩)
        | (go_at_call 31; (with_reducible refine (HD.out _).mono ?_); rintro e w' ⟨rfl, rfl⟩)
        | (go_at_call 31; (with_reducible refine (HD2.out _).mono ?_); rintro e w' ⟨rfl, rfl⟩))
      go_ret2
      exact ⟨ret_int2 (by rw [HV.out, HR.out]; rfl) HR.out.symm, rfl⟩
    | true =>
    cases hg : edgeV f with
    | false =>
      have HX := Lib.hid hx
      have HG := Lib.hid hg
      have HR := Lib.hid (show pushE x r a f = 5 by rw [HE.out, HX.out, HG.out]; rfl)
      rw [hx] at HD
      rw [hg] at HD2
      clear hx hg h h' hf hf' hb
      go_enter Try.func20, Try.ntmps20
      go_wp2_with (first
        | (go_at_call 9; (with_reducible refine (HS.out _).mono ?_); rintro e w' ⟨rfl, rfl⟩)
        | (go_at_call 31; (with_reducible refine (HD.out _).mono ?_); rintro e w' ⟨rfl, rfl⟩)
        | (go_at_call 31; (with_reducible refine (HD2.out _).mono ?_); rintro e w' ⟨rfl, rfl⟩))
      go_ret2
      exact ⟨ret_int2 (by rw [HV.out, HR.out]; rfl) HR.out.symm, rfl⟩
    | true =>
      have HX := Lib.hid hx
      have HG := Lib.hid hg
      have hx2 := edge_iff.1 hx
      have hg2 := edge_iff.1 hg
      have e1 : y % 18446744073709551616 = y := by omega
      have e2 : (f + y) % 18446744073709551616 = f + y := by omega
      rw [hx] at HD
      rw [hg] at HD2
      by_cases hl : x < f + y
      · have HR := Lib.hid (show pushE x r a f = 8 by rw [HE.out, HX.out, HG.out, if_pos hl]; rfl)
        have dl : decide (x < f + y) = true := by simpa using hl
        clear hx hg h h' hf hf' hb hl hx2 hg2
        go_enter Try.func20, Try.ntmps20
        go_wp2_with (first
          | (go_at_call 9; (with_reducible refine (HS.out _).mono ?_); rintro e w' ⟨rfl, rfl⟩)
          | (go_at_call 31; (with_reducible refine (HD.out _).mono ?_); rintro e w' ⟨rfl, rfl⟩)
          | (go_at_call 31; (with_reducible refine (HD2.out _).mono ?_); rintro e w' ⟨rfl, rfl⟩))
        go_ret2
        exact ⟨ret_int2 (by rw [HV.out, HR.out]; rfl) HR.out.symm, rfl⟩
      · have HR := Lib.hid (show pushE x r a f = 0 by rw [HE.out, HX.out, HG.out, if_neg hl]; rfl)
        have dl : decide (x < f + y) = false := by simpa using hl
        have e3 : (x - y) % 18446744073709551616 = x - y := by omega
        clear hx hg h h' hf hf' hb hl hx2 hg2
        go_enter Try.func20, Try.ntmps20
        go_wp2_with (first
          | (go_at_call 9; (with_reducible refine (HS.out _).mono ?_); rintro e w' ⟨rfl, rfl⟩)
          | (go_at_call 31; (with_reducible refine (HD.out _).mono ?_); rintro e w' ⟨rfl, rfl⟩)
          | (go_at_call 31; (with_reducible refine (HD2.out _).mono ?_); rintro e w' ⟨rfl, rfl⟩))
        go_ret2
        exact ⟨ret_int2 (by rw [HV.out, HR.out]; rfl) HR.out.symm, rfl⟩
  · have HR := Lib.hid (show pushE x r a f = 2 by rw [HE.out]; rfl)
    clear h h' hf hf' hb
    go_enter Try.func20, Try.ntmps20
    go_wp2_with (first
      | (go_at_call 9; (with_reducible refine (HS.out _).mono ?_); rintro e w' ⟨rfl, rfl⟩)
      | (go_at_call 31; (with_reducible refine (HD.out _).mono ?_); rintro e w' ⟨rfl, rfl⟩)
      | (go_at_call 31; (with_reducible refine (HD2.out _).mono ?_); rintro e w' ⟨rfl, rfl⟩))
    go_ret2
    exact ⟨ret_int2 (by rw [HV.out, HR.out]; rfl) HR.out.symm, rfl⟩
end Go.Proofs.Ytoalncjljchipaa
