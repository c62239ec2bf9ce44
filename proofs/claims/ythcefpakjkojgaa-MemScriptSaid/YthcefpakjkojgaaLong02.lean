/- What Long of the statements of layer 2 returns: a contract for any acts, in whatever memory of the program. -/
import Derived.Test.YthcefpakjkojgaaActs02
namespace Go.Proofs.Ythcefpakjkojgaa
open Go.RowKit
set_option linter.unusedVariables false

/-- Are acts more than are gone through? -/
def longB (l : List ActV) : Bool := l.any (fun A => decide (200 < A.bs.length)) || decide (60 < l.length)
theorem longB_false {l : List ActV} (h : longB l = false) : l.length ≤ 60 ∧ ∀ A ∈ l, A.bs.length ≤ 200 := by
  unfold longB at h
  simp at h
  exact ⟨by omega, fun A hA => by have := h.1 A hA; omega⟩
theorem longB_at {l : List ActV} {k : Nat} (hk : k < l.length) (h : 200 < (l.getD k .zero).bs.length) : longB l = true := by
  unfold longB
  simp
  left
  refine ⟨l[k], List.getElem_mem hk, ?_⟩
  simpa [List.getD, List.getElem?_eq_getElem hk] using h
theorem longB_end {l : List ActV} (h : ∀ i, i < l.length → (l.getD i .zero).bs.length ≤ 200) : longB l = decide (60 < l.length) := by
  unfold longB
  have : l.any (fun A => decide (200 < A.bs.length)) = false := by
    simp
    intro A hA
    obtain ⟨i, hi, rfl⟩ := List.getElem_of_mem hA
    have := h i hi
    simpa [List.getD, List.getElem?_eq_getElem hi] using this
  rw [this, Bool.false_or]
theorem long_empty (a : Option Addr) (cap : Nat) (w : World) : Calls Try.prog 8 #[.slice a 0 cap] w fun e w' => e = .returned (.bool false) ∧ w = w' := by
  go_enter Try.func8, Try.ntmps8
  go_wp2
  go_loop [3] (fun i => i = .int .i64 0) (fun _ => 0)
  case atStart => rfl
  case round =>
    obtain rfl := hrel
    go_wp2
    go_ret
    exact ⟨rfl, rfl⟩
set_option maxHeartbeats 1000000 in
theorem long_some (b off cap n : Nat) (l : List ActV) (w : World) (hn : n = l.length) (hm : n ≤ 9223372036854775807) (hcap : n ≤ cap)
    (hB : ∀ i, i < n → ∃ A c, w.cell? ⟨b, off + i * 5 + 4, none⟩ = some (.slice A (l.getD i .zero).bs.length c) ∧ (l.getD i .zero).bs.length ≤ 9223372036854775807) :
    Calls Try.prog 8 #[.slice (some ⟨b, off, none⟩) n cap] w fun e w' => e = .returned (.bool (longB l)) ∧ w = w' := by
  have HB := Lib.hid hB
  have HN := Lib.hid hn
  clear hB hn
  go_enter Try.func8, Try.ntmps8
  go_wp2
  go_loop [3] (fun i => ∃ k : Nat, k ≤ n ∧ i = .int .i64 k ∧ ∀ i, i < k → (l.getD i .zero).bs.length ≤ 200) (fun i => n - (intOf i).toNat)
  case atStart => exact ⟨0, by omega, rfl, fun i hi => by omega⟩
  case round =>
    obtain ⟨k, hk, rfl, hall⟩ := hrel
    have HA := Lib.hid hall
    clear hall
    by_cases hlt : k < n
    · obtain ⟨A, c, hcell, hlen⟩ := HB.out k hlt
      obtain ⟨m, hm2⟩ : ∃ m, m = (l.getD k .zero).bs.length := ⟨_, rfl⟩
      rw [← hm2] at hcell hlen
      have HM := Lib.hid hm2
      clear hm2
      by_cases hgt : 200 < m
      · have e := longB_at (l := l) (k := k) (by rw [← HN.out]; exact hlt) (by rw [← HM.out]; exact hgt)
        have E := Lib.hid e
        clear e
        go_wp2
        go_ret
        exact ⟨ret_bool E.out.symm, rfl⟩
      · have hle : m ≤ 200 := by omega
        clear hgt
        go_wp2
        go_round
        case rel => exact ⟨k + 1, by omega, by go_num, fun i hi => by
            by_cases e : i < k
            · exact HA.out i e
            · obtain rfl : i = k := by omega
              rw [← HM.out]
              exact hle⟩
        case measure => simp [intOf]; omega
    · obtain rfl : k = n := by omega
      have e := Lib.hid (longB_end (l := l) (by rw [← HN.out]; exact HA.out))
      go_wp2
      go_ret
      exact ⟨ret_bool (by rw [e.out, ← HN.out]; apply decide_eq_decide.2; omega), rfl⟩
theorem long_any (V : Value) (l : List ActV) (w : World) (B : Nat) (h : IsActs w B V l) : Calls Try.prog 8 #[V] w fun e w' => e = .returned (.bool (longB l)) ∧ w = w' := by
  have hm := h.1
  unfold maxLen at hm
  rcases h.2.2 with ⟨rfl, a, cap, rfl⟩ | ⟨b, off, cap, rfl, h2, h3, h4⟩
  · exact long_empty a cap w
  · refine long_some b off cap l.length l w rfl (by omega) h2 (fun i hi => ?_)
    have hc := h4 i hi 4 (by omega)
    have hok := (h.2.1 (l.getD i .zero) (by rw [show l.getD i .zero = l[i] by simp [List.getD, List.getElem?_eq_getElem hi]]; exact List.getElem_mem hi)).b
    obtain ⟨A, c, e, hb⟩ := isBytes_value hok
    exact ⟨A, c, by rw [hc]; exact congrArg some e, hb⟩
end Go.Proofs.Ythcefpakjkojgaa
