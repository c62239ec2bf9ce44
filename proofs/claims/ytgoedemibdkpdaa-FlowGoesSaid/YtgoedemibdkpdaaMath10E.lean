/- A sweep that goes on till nothing more is reached. Plain mathematics. -/
import Derived.Test.YtgoedemibdkpdaaReach10
namespace Go.Proofs.Ytgoedemibdkpdaa
set_option linter.unusedVariables false
set_option linter.unusedSimpArgs false

/-- What a sweep has done that stands at place q of what comes behind a: m0 is the set ahead of the sweep, m the set now, b whether it has grown. -/
structure Swr (n : Nat) (nx : Nat → List Int) (m0 m : Nat → Bool) (b : Bool) (a q : Nat) : Prop where
  mono : ∀ i, m0 i = true → m i = true
  rch : ∀ i, i < n → m i = true → Rch nx i
  same : b = false → ∀ i, i < n → m i = m0 i
  grow : b = true → ∃ p, p < n ∧ m0 p = false ∧ m p = true
  done : b = false → ∀ c, c < a → m0 c = true → ∀ x ∈ nx c, m0 x.toNat = true
  here : b = false → m0 a = true → ∀ x ∈ (nx a).take q, m0 x.toNat = true
section
variable {n : Nat} {nx : Nat → List Int} {m0 m : Nat → Bool} {b : Bool} {a q : Nat}
theorem Swr.start (h : ∀ i, i < n → m i = true → Rch nx i) : Swr n nx m m false 0 0 :=
  ⟨fun _ h => h, h, fun _ _ _ => rfl, fun h => by simp at h, fun _ c hc => absurd hc (by omega), fun _ _ x hx => by simp at hx⟩
theorem Swr.step (h : Swr n nx m0 m b a q) (ha : a < n) (hq : q < (nx a).length) (hma : m a = true) (hb : ∀ i, i < n → ∀ x ∈ nx i, 0 ≤ x ∧ x < n) :
    Swr n nx m0 (fun i => if i = ((nx a).getD q 0).toNat then true else m i) (b || !m ((nx a).getD q 0).toNat) a (q + 1) := by
  have hg : (nx a).getD q 0 = (nx a)[q] := by simp [List.getD, List.getElem?_eq_getElem hq]
  have hmem : (nx a).getD q 0 ∈ nx a := by rw [hg]; exact List.getElem_mem hq
  have hxb := hb a ha _ hmem
  have htk : (nx a).take (q + 1) = (nx a).take q ++ [(nx a).getD q 0] := by rw [List.take_add_one, List.getElem?_eq_getElem hq, hg]; rfl
  generalize (nx a).getD q 0 = x at *
  have hx : x.toNat < n := by omega
  have hup : ∀ i, m i = true → (if i = x.toNat then true else m i) = true := by
    intro i hi
    by_cases e : i = x.toNat
    · rw [if_pos e]
    · rw [if_neg e, hi]
  have hsp : (b || !m x.toNat) = false → b = false ∧ m x.toNat = true := by
    intro h0
    cases hb0 : b <;> cases hm0 : m x.toNat <;> simp_all
  refine ⟨fun i hi => hup i (h.mono i hi), fun i hi hmi => ?_, fun h0 i hi => ?_, fun h0 => ?_, fun h0 => h.done (hsp h0).1, fun h0 h1 y hy => ?_⟩
  · by_cases e : i = x.toNat
    · subst e
      exact .step (h.rch a ha hma) (by rw [Int.toNat_of_nonneg hxb.1]; exact hmem)
    · exact h.rch i hi (by have hmi : (if i = x.toNat then true else m i) = true := hmi; rw [if_neg e] at hmi; exact hmi)
  · obtain ⟨h1, h2⟩ := hsp h0
    show (if i = x.toNat then true else m i) = m0 i
    by_cases e : i = x.toNat
    · rw [if_pos e, ← h.same h1 i hi, e, h2]
    · rw [if_neg e]
      exact h.same h1 i hi
  · cases hb0 : b with
    | true =>
      obtain ⟨p, hp, h1, h2⟩ := h.grow hb0
      exact ⟨p, hp, h1, hup p h2⟩
    | false =>
      rw [hb0] at h0
      have hm : m x.toNat = false := by simpa using h0
      exact ⟨x.toNat, hx, by rw [← h.same hb0 _ hx]; exact hm, by show (if _ then _ else _) = true; rw [if_pos rfl]⟩
  · obtain ⟨h2, h3⟩ := hsp h0
    rw [htk] at hy
    rcases List.mem_append.1 hy with hy | hy
    · exact h.here h2 h1 y hy
    · simp at hy
      subst hy
      rw [← h.same h2 _ hx]
      exact h3
theorem Swr.row_yes (h : Swr n nx m0 m b a (nx a).length) : Swr n nx m0 m b (a + 1) 0 := by
  refine ⟨h.mono, h.rch, h.same, h.grow, fun h0 c hc h1 x hx => ?_, fun _ _ x hx => by simp at hx⟩
  rcases Nat.lt_or_ge c a with h2 | h2
  · exact h.done h0 c h2 h1 x hx
  · obtain rfl : c = a := by omega
    exact h.here h0 h1 x (by rw [List.take_length]; exact hx)
theorem Swr.row_no (h : Swr n nx m0 m b a q) (ha : a < n) (hma : m a = false) : Swr n nx m0 m b (a + 1) 0 := by
  refine ⟨h.mono, h.rch, h.same, h.grow, fun h0 c hc h1 x hx => ?_, fun _ _ x hx => by simp at hx⟩
  rcases Nat.lt_or_ge c a with h2 | h2
  · exact h.done h0 c h2 h1 x hx
  · obtain rfl : c = a := by omega
    rw [← h.same h0 c ha, hma] at h1
    cases h1
theorem Swr.shut (h : Swr n nx m0 m false n 0) (hb : ∀ i, i < n → ∀ x ∈ nx i, 0 ≤ x ∧ x < n) : Closed n nx m := by
  intro i hi hm x hx
  have hxb := hb i hi x hx
  rw [h.same rfl _ (by omega)]
  exact h.done rfl i hi (by rw [← h.same rfl i hi]; exact hm) x hx
theorem Swr.less (h : Swr n nx m0 m true n 0) : cntV m n < cntV m0 n := by
  obtain ⟨p, hp, h1, h2⟩ := h.grow rfl
  exact cnt_lt h.mono hp h1 h2
theorem closed_reach (hn : 0 < n) (hb : ∀ i, i < n → ∀ x ∈ nx i, 0 ≤ x ∧ x < n) (h0 : m 0 = true) (hc : Closed n nx m) (hr : ∀ i, i < n → m i = true → Rch nx i) : IsReach n nx ((List.range n).map m) := by
  refine ⟨by simp, fun i hi => ?_⟩
  have e : ((List.range n).map m).getD i false = m i := by simp [List.getD, hi]
  rw [e]
  exact ⟨hr i hi, fun h => (Rch.within hn hb h0 hc h).2⟩
end
end Go.Proofs.Ytgoedemibdkpdaa
