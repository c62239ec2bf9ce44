/- The document's own way of counting letters and of looking at a number (twinshaftref06.has, number). Contracts; no condition but that texts are short. -/
import Derived.Test.YtobbjphpngckgaaRefA06
import Derived.Test.YtobbjphpngckgaaMath06
namespace Go.Proofs.Ytobbjphpngckgaa
open Go.RowKit
set_option linter.unusedVariables false
set_option linter.unusedSimpArgs false

def Drawn3 (w : World) (v : Value) (e : Ending) (w' : World) : Prop := e = .returned v ∧ ∃ k, w' = w.drewN k
/-- How often a text has one of some letters. -/
def hasL (L T : List Int) : Nat := (L.map fun x => T.count x).sum
def hasV (s t : ByteArray) : Nat := hasL (lettersOf s) (lettersOf t)
theorem letters_len (s : ByteArray) : (lettersOf s).length = s.size := by simp [lettersOf]
theorem letters_at (s : ByteArray) {k : Nat} (h : k < s.size) : (lettersOf s)[k]'(by rw [letters_len]; exact h) = (s[k].toNat : Int) := by
  simp [lettersOf]
  rfl
theorem has_step (L T : List Int) {k : Nat} (h : k < L.length) : hasL (L.take (k + 1)) T = hasL (L.take k) T + T.count L[k] := by
  unfold hasL
  rw [List.take_succ_eq_append_getElem h, List.map_append, List.sum_append]
  rfl
theorem count_step (T : List Int) (x : Int) {k : Nat} (h : k < T.length) : (T.take (k + 1)).count x = (T.take k).count x + (if x = T[k] then 1 else 0) := by
  rw [List.take_succ_eq_append_getElem h, List.count_append]
  by_cases e : x = T[k]
  · subst e; simp
  · have : T[k] ≠ x := fun h => e h.symm
    simp [e, this]
theorem count_le' (T : List Int) (x : Int) (k : Nat) : (T.take k).count x ≤ k := Nat.le_trans (List.count_le_length) (by simp; omega)
theorem has_le (L T : List Int) (k : Nat) (hT : T.length ≤ 100) : hasL (L.take k) T ≤ 100 * k := by
  induction k with
  | zero => simp [hasL]
  | succ k ih =>
    by_cases h : k < L.length
    · rw [has_step L T h]
      have := List.count_le_length (l := T) (a := L[k])
      omega
    · rw [List.take_of_length_le (by omega)]
      rw [List.take_of_length_le (by omega)] at ih
      omega
set_option maxHeartbeats 4000000 in
theorem has_any (s t : ByteArray) (w : World) (hs : s.size ≤ 100) (ht : t.size ≤ 100) : Calls Try.prog 69 #[.string s, .string t] w (Drawn3 w (.int .i64 (hasV s t))) := by
  obtain ⟨L, hL⟩ : ∃ L, L = lettersOf s := ⟨_, rfl⟩
  obtain ⟨T, hT⟩ : ∃ T, T = lettersOf t := ⟨_, rfl⟩
  have HT := Lib.hid hT
  have HL := Lib.hid hL
  have HTl : Hid (T.length = t.size) := Lib.hid (by rw [hT, letters_len])
  have HLl : Hid (L.length = s.size) := Lib.hid (by rw [hL, letters_len])
  unfold hasV
  rw [← hL, ← hT]
  clear hL hT
  go_enter Try.func69, Try.ntmps69
  go_wp2
  go_loopw [5, 6] (fun n i wr => ∃ k q : Nat, k ≤ s.size ∧ i = .int .i64 k ∧ n = .int .i64 (hasL (L.take k) T) ∧ wr = w.drewN q) (fun _ i _ => s.size - (intOf i).toNat)
  case atStart => exact ⟨0, 0, by omega, rfl, by simp [hasL], rfl⟩
  case round =>
    obtain ⟨k, q, hk, rfl, rfl, rfl⟩ := hrel
    by_cases hlt : k < s.size
    · have hx := letters_at s hlt
      obtain ⟨x, hx'⟩ : ∃ x : Int, x = (s[k].toNat : Int) := ⟨_, rfl⟩
      have hstep := has_step L T (k := k) (by rw [HLl.out]; exact hlt)
      have hLk : L[k]'(by rw [HLl.out]; exact hlt) = x := by
        have h2 : L = lettersOf s := HL.out
        subst h2
        rw [hx, hx']
      rw [hLk] at hstep
      have hle := has_le L T k (by rw [HTl.out]; exact ht)
      obtain ⟨c0, hc0⟩ : ∃ c0, c0 = hasL (L.take k) T := ⟨_, rfl⟩
      rw [← hc0] at hstep hle ⊢
      have HStep := Lib.hid hstep
      have HX := Lib.hid hx'
      have k0 : (0 : Int) ≤ (k : Int) := by omega
      clear hx hx' hstep hLk hc0
      go_wp2
      go_loopw [5, 7] (fun n j wi => ∃ i p : Nat, i ≤ t.size ∧ j = .int .i64 i ∧ n = .int .i64 ((c0 + (T.take i).count x : Nat) : Int) ∧ wi = w.drewN p) (fun _ j _ => t.size - (intOf j).toNat)
      case atStart => exact ⟨0, q, by omega, rfl, by simp, rfl⟩
      case round =>
        obtain ⟨i, p, hi, rfl, rfl, rfl⟩ := hrel
        by_cases hlt2 : i < t.size
        · have hst2 := count_step T x (k := i) (by rw [HTl.out]; exact hlt2)
          have hTi : T[i]'(by rw [HTl.out]; exact hlt2) = (t[i].toNat : Int) := by
            have h2 : T = lettersOf t := HT.out
            subst h2
            exact letters_at t hlt2
          rw [hTi] at hst2
          have hcl := count_le' T x i
          obtain ⟨c1, hc1⟩ : ∃ c1, c1 = (T.take i).count x := ⟨_, rfl⟩
          rw [← hc1] at hst2 hcl ⊢
          have i0 : (0 : Int) ≤ (i : Int) := by omega
          rw [HX.out] at hst2
          by_cases he : (s[k].toNat : Int) = (t[i].toNat : Int)
          · rw [if_pos he] at hst2
            have e1 : ((s[k].toNat : Int) == (t[i].toNat : Int)) = true := by simpa using he
            rw [← HX.out] at hst2
            have HS2 := Lib.hid hst2
            clear hst2 hc1 hTi he
            go_wp2
            go_quiet (fail)
            go_wp2
            all_goals
              go_roundw
              case rel => exact ⟨i + 1, _, by omega, by go_num, by rw [HS2.out]; go_num, rfl⟩
              case measure => simp [intOf]; omega
          · rw [if_neg he] at hst2
            have e1 : ((s[k].toNat : Int) == (t[i].toNat : Int)) = false := by simpa using he
            rw [← HX.out] at hst2
            have HS2 := Lib.hid hst2
            clear hst2 hc1 hTi he
            go_wp2
            go_quiet (fail)
            go_wp2
            all_goals
              go_roundw
              case rel => exact ⟨i + 1, _, by omega, by go_num, by rw [HS2.out]; go_num, rfl⟩
              case measure => simp [intOf]; omega
        · obtain rfl : i = t.size := by omega
          have hfull : T.take t.size = T := List.take_of_length_le (by rw [HTl.out]; exact Nat.le_refl _)
          rw [hfull]
          rw [← HStep.out]
          have hl2 := has_le L T (k + 1) (by rw [HTl.out]; exact ht)
          clear hfull HStep
          go_wp2
          go_roundw
          case rel => exact ⟨k + 1, p, by omega, by go_num, rfl, rfl⟩
          case measure => simp [intOf]; omega
    · obtain rfl : k = s.size := by omega
      have hfull : L.take s.size = L := List.take_of_length_le (by rw [HLl.out]; exact Nat.le_refl _)
      rw [hfull]
      have hl2 := has_le L T s.size (by rw [HTl.out]; exact ht)
      rw [hfull] at hl2
      clear hfull
      go_wp2
      go_ret
      exact ⟨rfl, q, rfl⟩

/-- Is the number as a letter says? -/
def numB (q n area : Int) : Bool := if q = 107 then decide (1 ≤ n ∧ n ≤ 6) else if q = 109 then decide (1 ≤ n ∧ n ≤ 7) else if q = 122 then decide (n = 1 ∨ n = 2 ∨ n = 4 ∨ n = 8) else if q = 102 then decide (0 ≤ n ∧ n ≤ area)
  else if q = 100 then decide (0 ≤ n ∧ n ≤ 8192) else if q = 116 then decide (0 ≤ n ∧ n < 4096) else if q = 99 then decide (0 ≤ n ∧ n < 64) else true
set_option maxHeartbeats 4000000 in
theorem number_any (q n area : Int) (w : World) : Calls Try.prog 60 #[.int .u8 q, .int .i64 n, .int .i64 area] w fun e w' => e = .returned (.bool (numB q n area)) ∧ w = w' := by
  by_cases h107 : q = 107
  · subst h107
    by_cases h1 : 1 ≤ n
    · by_cases h2 : n ≤ 6
      · rw [show numB 107 n area = true from decide_eq_true ⟨h1, h2⟩]
        go_enter Try.func60, Try.ntmps60
        go_wp2
        go_ret
        exact ⟨rfl, rfl⟩
      · rw [show numB 107 n area = false from decide_eq_false (by omega)]
        go_enter Try.func60, Try.ntmps60
        go_wp2
        go_ret
        exact ⟨rfl, rfl⟩
    · rw [show numB 107 n area = false from decide_eq_false (by omega)]
      go_enter Try.func60, Try.ntmps60
      go_wp2
      go_ret
      exact ⟨rfl, rfl⟩
  by_cases h109 : q = 109
  · subst h109
    by_cases h1 : 1 ≤ n
    · by_cases h2 : n ≤ 7
      · rw [show numB 109 n area = true from decide_eq_true ⟨h1, h2⟩]
        go_enter Try.func60, Try.ntmps60
        go_wp2
        go_ret
        exact ⟨rfl, rfl⟩
      · rw [show numB 109 n area = false from decide_eq_false (by omega)]
        go_enter Try.func60, Try.ntmps60
        go_wp2
        go_ret
        exact ⟨rfl, rfl⟩
    · rw [show numB 109 n area = false from decide_eq_false (by omega)]
      go_enter Try.func60, Try.ntmps60
      go_wp2
      go_ret
      exact ⟨rfl, rfl⟩
  by_cases h122 : q = 122
  · subst h122
    by_cases z1 : n = 1
    · subst z1
      rw [show numB 122 1 area = true from rfl]
      go_enter Try.func60, Try.ntmps60
      go_wp2
      go_ret
      exact ⟨rfl, rfl⟩
    by_cases z2 : n = 2
    · subst z2
      rw [show numB 122 2 area = true from rfl]
      go_enter Try.func60, Try.ntmps60
      go_wp2
      go_ret
      exact ⟨rfl, rfl⟩
    by_cases z4 : n = 4
    · subst z4
      rw [show numB 122 4 area = true from rfl]
      go_enter Try.func60, Try.ntmps60
      go_wp2
      go_ret
      exact ⟨rfl, rfl⟩
    by_cases z8 : n = 8
    · subst z8
      rw [show numB 122 8 area = true from rfl]
      go_enter Try.func60, Try.ntmps60
      go_wp2
      go_ret
      exact ⟨rfl, rfl⟩
    rw [show numB 122 n area = false from decide_eq_false (by omega)]
    have e1 : (n == 1) = false := by simpa using z1
    have e2 : (n == 2) = false := by simpa using z2
    have e4 : (n == 4) = false := by simpa using z4
    have e8 : (n == 8) = false := by simpa using z8
    clear z1 z2 z4 z8
    go_enter Try.func60, Try.ntmps60
    go_wp2
    go_ret
    exact ⟨rfl, rfl⟩
  by_cases h102 : q = 102
  · subst h102
    by_cases h1 : 0 ≤ n
    · by_cases h2 : n ≤ area
      · rw [show numB 102 n area = true from decide_eq_true ⟨h1, h2⟩]
        go_enter Try.func60, Try.ntmps60
        go_wp2
        go_ret
        exact ⟨rfl, rfl⟩
      · rw [show numB 102 n area = false from decide_eq_false (by omega)]
        go_enter Try.func60, Try.ntmps60
        go_wp2
        go_ret
        exact ⟨rfl, rfl⟩
    · rw [show numB 102 n area = false from decide_eq_false (by omega)]
      go_enter Try.func60, Try.ntmps60
      go_wp2
      go_ret
      exact ⟨rfl, rfl⟩
  by_cases h100 : q = 100
  · subst h100
    by_cases h1 : 0 ≤ n
    · by_cases h2 : n ≤ 8192
      · rw [show numB 100 n area = true from decide_eq_true ⟨h1, h2⟩]
        go_enter Try.func60, Try.ntmps60
        go_wp2
        go_ret
        exact ⟨rfl, rfl⟩
      · rw [show numB 100 n area = false from decide_eq_false (by omega)]
        go_enter Try.func60, Try.ntmps60
        go_wp2
        go_ret
        exact ⟨rfl, rfl⟩
    · rw [show numB 100 n area = false from decide_eq_false (by omega)]
      go_enter Try.func60, Try.ntmps60
      go_wp2
      go_ret
      exact ⟨rfl, rfl⟩
  by_cases h116 : q = 116
  · subst h116
    by_cases h1 : 0 ≤ n
    · by_cases h2 : n < 4096
      · rw [show numB 116 n area = true from decide_eq_true ⟨h1, h2⟩]
        go_enter Try.func60, Try.ntmps60
        go_wp2
        go_ret
        exact ⟨rfl, rfl⟩
      · rw [show numB 116 n area = false from decide_eq_false (by omega)]
        go_enter Try.func60, Try.ntmps60
        go_wp2
        go_ret
        exact ⟨rfl, rfl⟩
    · rw [show numB 116 n area = false from decide_eq_false (by omega)]
      go_enter Try.func60, Try.ntmps60
      go_wp2
      go_ret
      exact ⟨rfl, rfl⟩
  by_cases h99 : q = 99
  · subst h99
    by_cases h1 : 0 ≤ n
    · by_cases h2 : n < 64
      · rw [show numB 99 n area = true from decide_eq_true ⟨h1, h2⟩]
        go_enter Try.func60, Try.ntmps60
        go_wp2
        go_ret
        exact ⟨rfl, rfl⟩
      · rw [show numB 99 n area = false from decide_eq_false (by omega)]
        go_enter Try.func60, Try.ntmps60
        go_wp2
        go_ret
        exact ⟨rfl, rfl⟩
    · rw [show numB 99 n area = false from decide_eq_false (by omega)]
      go_enter Try.func60, Try.ntmps60
      go_wp2
      go_ret
      exact ⟨rfl, rfl⟩
  have hn : numB q n area = true := by unfold numB; simp only [h107, h109, h122, h102, h100, h116, h99, if_false]
  rw [hn]
  have e107 : (q == 107) = false := by simpa using h107
  have e109 : (q == 109) = false := by simpa using h109
  have e122 : (q == 122) = false := by simpa using h122
  have e102 : (q == 102) = false := by simpa using h102
  have e100 : (q == 100) = false := by simpa using h100
  have e116 : (q == 116) = false := by simpa using h116
  have e99 : (q == 99) = false := by simpa using h99
  clear hn h107 h109 h122 h102 h100 h116 h99
  go_enter Try.func60, Try.ntmps60
  go_wp2
  go_ret
  exact ⟨rfl, rfl⟩

end Go.Proofs.Ytobbjphpngckgaa
