/- A set that is made whole by sweeps. Plain mathematics. -/
import Derived.Test.YtgoedemibdkpdaaReach10
namespace Go.Proofs.Ytgoedemibdkpdaa
set_option linter.unusedVariables false
set_option linter.unusedSimpArgs false

/-- What a sweep has done that stands at place j of what comes behind k. -/
structure Swp (n : Nat) (nx : Nat → List Int) (m0 m : Nat → Bool) (k j : Nat) : Prop where
  mono : ∀ i, m0 i = true → m i = true
  done : ∀ a, a < k → m0 a = true → ∀ x ∈ nx a, m x.toNat = true
  here : m0 k = true → ∀ x ∈ (nx k).take j, m x.toNat = true
  same : Closed n nx m0 → ∀ i, i < n → m i = m0 i
section
variable {n : Nat} {nx : Nat → List Int} {m0 m : Nat → Bool} {k j t : Nat}
theorem Swp.start : Swp n nx m m 0 0 := ⟨fun _ h => h, fun a h => absurd h (by omega), fun _ x hx => by simp at hx, fun _ _ _ => rfl⟩
theorem Swp.step (h : Swp n nx m0 m k j) (hk : k < n) (hj : j < (nx k).length) : Swp n nx m0 (fun i => if i = ((nx k).getD j 0).toNat then m ((nx k).getD j 0).toNat || m k else m i) k (j + 1) := by
  have hg : (nx k).getD j 0 = (nx k)[j] := by simp [List.getD, List.getElem?_eq_getElem hj]
  have hup : ∀ i, m i = true → (if i = ((nx k).getD j 0).toNat then m ((nx k).getD j 0).toNat || m k else m i) = true := by
    intro i hi
    by_cases e : i = ((nx k).getD j 0).toNat
    · subst e; rw [if_pos rfl, hi]; rfl
    · rw [if_neg e, hi]
  refine ⟨fun i hi => hup i (h.mono i hi), fun a ha h0 x hx => hup _ (h.done a ha h0 x hx), fun h0 x hx => ?_, fun hc i hi => ?_⟩
  · rw [List.take_add_one, List.getElem?_eq_getElem hj] at hx
    rcases List.mem_append.1 hx with hx | hx
    · exact hup _ (h.here h0 x hx)
    · simp at hx
      subst hx
      show (if _ then _ else _) = true
      rw [hg, if_pos rfl, h.mono k h0]
      simp
  · show (if _ then _ else _) = _
    by_cases e : i = ((nx k).getD j 0).toNat
    · rw [if_pos e, ← e, h.same hc i hi, h.same hc k hk]
      cases hk0 : m0 k with
      | false => simp
      | true =>
        have := hc k hk hk0 ((nx k).getD j 0) (by rw [hg]; exact List.getElem_mem hj)
        rw [← e] at this
        simp [this]
    · rw [if_neg e]
      exact h.same hc i hi
theorem Swp.row (h : Swp n nx m0 m k (nx k).length) : Swp n nx m0 m (k + 1) 0 := by
  refine ⟨h.mono, fun a ha h0 x hx => ?_, fun _ x hx => by simp at hx, h.same⟩
  rcases Nat.lt_or_ge a k with h1 | h1
  · exact h.done a h1 h0 x hx
  · obtain rfl : a = k := by omega
    exact h.here h0 x (by rw [List.take_length]; exact hx)
/-- Whole, or so many sweeps have each brought one more. -/
structure Clo (n : Nat) (nx : Nat → List Int) (t : Nat) (m : Nat → Bool) : Prop where
  zero : m 0 = true
  clo : Closed n nx m ∨ cntV m n + t + 1 ≤ n
theorem Clo.start (hn : 0 < n) (h0 : m 0 = true) : Clo n nx 0 m := by
  refine ⟨h0, .inr ?_⟩
  have := cnt_lt (r := fun _ => false) (s := m) (fun _ h => by simp at h) (n := n) (p := 0) hn rfl h0
  have := cnt_le (fun _ => false) n
  omega
theorem Clo.next (h : Clo n nx t m0) (hs : Swp n nx m0 m n 0) (hb : ∀ i, i < n → ∀ x ∈ nx i, 0 ≤ x ∧ x < n) : Clo n nx (t + 1) m := by
  refine ⟨hs.mono 0 h.zero, ?_⟩
  have hcl : (∀ i, i < n → m i = m0 i) → Closed n nx m0 → Closed n nx m := by
    intro he hc i hi hm x hx
    have hxb := hb i hi x hx
    rw [he x.toNat (by omega)]
    exact hc i hi (by rw [← he i hi]; exact hm) x hx
  rcases h.clo with hc | hc
  · exact .inl (hcl (hs.same hc) hc)
  · by_cases hp : ∃ p, p < n ∧ m0 p = false ∧ m p = true
    · obtain ⟨p, hp, h1, h2⟩ := hp
      have := cnt_lt hs.mono hp h1 h2
      exact .inr (by omega)
    · have he : ∀ i, i < n → m i = m0 i := by
        intro i hi
        cases h0 : m0 i with
        | true => exact hs.mono i h0
        | false =>
          cases h1 : m i with
          | false => rfl
          | true => exact absurd ⟨i, hi, h0, h1⟩ hp
      refine .inl (hcl he fun i hi hm x hx => ?_)
      have hxb := hb i hi x hx
      rw [← he x.toNat (by omega)]
      exact hs.done i hi hm x hx
theorem Clo.done (h : Clo n nx n m) : Closed n nx m := h.clo.resolve_right (by omega)
end
end Go.Proofs.Ytgoedemibdkpdaa
