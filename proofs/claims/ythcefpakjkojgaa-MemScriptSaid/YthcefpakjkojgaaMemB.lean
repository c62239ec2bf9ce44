/- What cut of package mem returns, and what checks of numbers do: contracts for any memory, any place and any number, in whatever memory of the program. -/
import Derived.Test.YthcefpakjkojgaaMemA
namespace Go.Proofs.Ythcefpakjkojgaa
open Go.RowKit
set_option linter.unusedVariables false

theorem cut_eq {bb k m m' : Nat} (h : m' = m) : Ending.returned (.tuple #[.slice (some ⟨bb, k, none⟩) m' m', .int .i64 0]) = .returned (.tuple #[.slice (some ⟨bb, k, none⟩) m m, .int .i64 0]) := by rw [h]
theorem checkNumber_any {mb bb c : Nat} {xs : List Int} {w : World} (h : MemAt w mb bb c xs) (a n : Int) (ha : 0 ≤ a) (ha' : a < 18446744073709551616) (hn' : n < 9223372036854775808) :
    Calls Try.prog 32 #[.pointer (some ⟨mb, 0, none⟩), .int .u64 a, .int .i64 n] w fun e w' => e = .returned (.int .i64 (numE xs.length a n)) ∧ w = w' := by
  have HC := Lib.hid (checkBytes_any h a n ha ha' hn')
  have hE : ∀ z, numE xs.length a z = if sizedB z = true then accE xs.length a z else 2 := fun _ => rfl
  cases hs : sizedB n
  · rw [hE, if_neg (by simp [hs])]
    obtain ⟨h1, h2, h4, h8⟩ := sized_not hs
    have b1 : (n == 1) = false := by simpa using h1
    have b2 : (n == 2) = false := by simpa using h2
    have b4 : (n == 4) = false := by simpa using h4
    have b8 : (n == 8) = false := by simpa using h8
    clear hE h1 h2 h4 h8 hs h
    go_enter Try.func32, Try.ntmps32
    go_wp2
    go_ret
    exact ⟨rfl, rfl⟩
  · rw [hE, if_pos hs]
    clear hE h
    rcases sized_cases hs with rfl | rfl | rfl | rfl
    all_goals
      clear hs
      go_enter Try.func32, Try.ntmps32
      go_wp2_with (go_at_call 42; (with_reducible refine HC.out.mono ?_); rintro e w' ⟨rfl, rfl⟩)
      go_ret
      exact ⟨rfl, rfl⟩

theorem cutB_bad {mb bb c : Nat} {xs : List Int} {w : World} (h : MemAt w mb bb c xs) (a n : Int) (ha : 0 ≤ a) (ha' : a < 18446744073709551616) (hn' : n < 9223372036854775808) (he : accE xs.length a n ≠ 0) :
    Calls Try.prog 31 #[.pointer (some ⟨mb, 0, none⟩), .int .u64 a, .int .i64 n, .func (.func 42) #[.pointer (some ⟨mb, 0, none⟩)] #[]] w fun e w' => e = .returned (.tuple #[.slice none 0 0, .int .i64 (accE xs.length a n)]) ∧ w = w' := by
  have HV := Lib.hid (valid_yes h)
  have HC := Lib.hid (checkBytes_any h a n ha ha' hn')
  obtain ⟨E, hE⟩ : ∃ E, E = accE xs.length a n := ⟨_, rfl⟩
  rw [← hE] at HC he ⊢
  have he' : (E == 0) = false := by simpa using he
  clear h hE he
  go_enter Try.func31, Try.ntmps31
  go_wp2_with (first
    | (go_at_call 28; (with_reducible refine HV.out.mono ?_); rintro e w' ⟨rfl, rfl⟩)
    | (go_at_call 42; (with_reducible refine HC.out.mono ?_); rintro e w' ⟨rfl, rfl⟩))
  go_ret2
  exact ⟨rfl, rfl⟩
theorem cutB_ok {mb bb c : Nat} {xs : List Int} {w : World} (h : MemAt w mb bb c xs) (k m : Nat) (hk : 16 ≤ k) (hkm : k + m ≤ xs.length) (hm : 0 < m) :
    Calls Try.prog 31 #[.pointer (some ⟨mb, 0, none⟩), .int .u64 k, .int .i64 m, .func (.func 42) #[.pointer (some ⟨mb, 0, none⟩)] #[]] w fun e w' => e = .returned (.tuple #[.slice (some ⟨bb, k, none⟩) m m, .int .i64 0]) ∧ w = w' := by
  have hl := h.hi
  have HV := Lib.hid (valid_yes h)
  have hc := checkBytes_any h k m (by omega) (by omega) (by omega)
  rw [show accE xs.length k m = 0 by rw [accE_ok (by omega) (by omega) (by omega) (by omega)]] at hc
  have HC := Lib.hid hc
  have h1 := h.cell1
  have hcap := h.cap
  have hrow : xs.length ≤ c := by obtain ⟨_, _, _, _, h4⟩ := h.row; exact h4
  unfold maxLen at hcap
  obtain ⟨L, hL⟩ : ∃ L, L = xs.length := ⟨_, rfl⟩
  rw [← hL] at h1 hl hkm hrow
  clear h hL hc
  go_enter Try.func31, Try.ntmps31
  go_wp2_with (first
    | (go_at_call 28; (with_reducible refine HV.out.mono ?_); rintro e w' ⟨rfl, rfl⟩)
    | (go_at_call 42; (with_reducible refine HC.out.mono ?_); rintro e w' ⟨rfl, rfl⟩))
  go_ret2
  exact ⟨cut_eq (by omega), rfl⟩

theorem cutN_bad {mb bb c : Nat} {xs : List Int} {w : World} (h : MemAt w mb bb c xs) (a n : Int) (ha : 0 ≤ a) (ha' : a < 18446744073709551616) (hn' : n < 9223372036854775808) (he : numE xs.length a n ≠ 0) :
    Calls Try.prog 31 #[.pointer (some ⟨mb, 0, none⟩), .int .u64 a, .int .i64 n, .func (.func 32) #[.pointer (some ⟨mb, 0, none⟩)] #[]] w fun e w' => e = .returned (.tuple #[.slice none 0 0, .int .i64 (numE xs.length a n)]) ∧ w = w' := by
  have HV := Lib.hid (valid_yes h)
  have HC := Lib.hid (checkNumber_any h a n ha ha' hn')
  obtain ⟨E, hE⟩ : ∃ E, E = numE xs.length a n := ⟨_, rfl⟩
  rw [← hE] at HC he ⊢
  have he' : (E == 0) = false := by simpa using he
  clear h hE he
  go_enter Try.func31, Try.ntmps31
  go_wp2_with (first
    | (go_at_call 28; (with_reducible refine HV.out.mono ?_); rintro e w' ⟨rfl, rfl⟩)
    | (go_at_call 32; (with_reducible refine HC.out.mono ?_); rintro e w' ⟨rfl, rfl⟩))
  go_ret2
  exact ⟨rfl, rfl⟩
theorem cutN_ok {mb bb c : Nat} {xs : List Int} {w : World} (h : MemAt w mb bb c xs) (k m : Nat) (hk : 16 ≤ k) (hkm : k + m ≤ xs.length) (hs : sizedB m = true) (hm : 0 < m) :
    Calls Try.prog 31 #[.pointer (some ⟨mb, 0, none⟩), .int .u64 k, .int .i64 m, .func (.func 32) #[.pointer (some ⟨mb, 0, none⟩)] #[]] w fun e w' => e = .returned (.tuple #[.slice (some ⟨bb, k, none⟩) m m, .int .i64 0]) ∧ w = w' := by
  have hl := h.hi
  have HV := Lib.hid (valid_yes h)
  have hc := checkNumber_any h k m (by omega) (by omega) (by omega)
  rw [show numE xs.length k m = 0 by unfold numE; rw [if_pos hs, accE_ok (by omega) (by omega) (by omega) (by omega)]] at hc
  have HC := Lib.hid hc
  have h1 := h.cell1
  have hcap := h.cap
  have hrow : xs.length ≤ c := by obtain ⟨_, _, _, _, h4⟩ := h.row; exact h4
  unfold maxLen at hcap
  obtain ⟨L, hL⟩ : ∃ L, L = xs.length := ⟨_, rfl⟩
  rw [← hL] at h1 hl hkm hrow
  clear h hL hc
  go_enter Try.func31, Try.ntmps31
  go_wp2_with (first
    | (go_at_call 28; (with_reducible refine HV.out.mono ?_); rintro e w' ⟨rfl, rfl⟩)
    | (go_at_call 32; (with_reducible refine HC.out.mono ?_); rintro e w' ⟨rfl, rfl⟩))
  go_ret2
  exact ⟨cut_eq (by omega), rfl⟩

theorem cutB_nil {mb bb c : Nat} {xs : List Int} {w : World} (h : MemAt w mb bb c xs) (k : Nat) (hk : 16 ≤ k) (hkm : k ≤ xs.length) :
    Calls Try.prog 31 #[.pointer (some ⟨mb, 0, none⟩), .int .u64 k, .int .i64 0, .func (.func 42) #[.pointer (some ⟨mb, 0, none⟩)] #[]] w fun e w' => e = .returned (.tuple #[.slice (some ⟨bb, 0, none⟩) 0 0, .int .i64 0]) ∧ w = w' := by
  have hl := h.hi
  have HV := Lib.hid (valid_yes h)
  have hc := checkBytes_any h k 0 (by omega) (by omega) (by omega)
  rw [show accE xs.length k 0 = 0 by rw [accE_ok (by omega) (by omega) (by omega) (by omega)]] at hc
  have HC := Lib.hid hc
  have h1 := h.cell1
  have hcap := h.cap
  have hrow : xs.length ≤ c := by obtain ⟨_, _, _, _, h4⟩ := h.row; exact h4
  unfold maxLen at hcap
  obtain ⟨L, hL⟩ : ∃ L, L = xs.length := ⟨_, rfl⟩
  rw [← hL] at h1 hl hkm hrow
  clear h hL hc
  go_enter Try.func31, Try.ntmps31
  go_wp2_with (first
    | (go_at_call 28; (with_reducible refine HV.out.mono ?_); rintro e w' ⟨rfl, rfl⟩)
    | (go_at_call 42; (with_reducible refine HC.out.mono ?_); rintro e w' ⟨rfl, rfl⟩))
  go_ret2
  exact ⟨by simp, rfl⟩
end Go.Proofs.Ythcefpakjkojgaa
