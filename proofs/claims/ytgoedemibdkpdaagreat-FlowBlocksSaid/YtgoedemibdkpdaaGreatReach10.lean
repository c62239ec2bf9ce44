/- What is reached, found by a stack, and by going through all till nothing is new. Plain mathematics. -/
import Derived.Test.YtgoedemibdkpdaaGreatMath10
namespace Go.Proofs.YtgoedemibdkpdaaGreat
set_option linter.unusedVariables false
set_option linter.unusedSimpArgs false

def cntV (r : Nat → Bool) (n : Nat) : Nat := (List.range n).countP fun i => !r i
theorem cnt_succ (r : Nat → Bool) (n : Nat) : cntV r (n + 1) = cntV r n + (if r n then 0 else 1) := by
  unfold cntV
  rw [List.range_succ, List.countP_append, List.countP_singleton]
  cases r n <;> rfl
theorem cnt_congr {r s : Nat → Bool} : ∀ {n : Nat}, (∀ i, i < n → r i = s i) → cntV r n = cntV s n
  | 0, _ => rfl
  | n + 1, h => by rw [cnt_succ, cnt_succ, cnt_congr (fun i hi => h i (by omega)), h n (by omega)]
theorem cnt_set {r : Nat → Bool} {p : Nat} : ∀ {n : Nat}, p < n → r p = false → cntV (fun i => if i = p then true else r i) n + 1 = cntV r n
  | 0, h, _ => absurd h (by omega)
  | n + 1, h, hr => by
    rw [cnt_succ, cnt_succ]
    by_cases e : p = n
    · subst e
      rw [cnt_congr (r := fun i => if i = p then true else r i) (s := r) (fun i hi => by simp [show i ≠ p by omega])]
      simp [hr]
    · have := cnt_set (r := r) (p := p) (n := n) (by omega) hr
      simp only [show n ≠ p from fun h => e h.symm, if_false]
      omega
theorem cnt_le (r : Nat → Bool) (n : Nat) : cntV r n ≤ n := by
  have := List.countP_le_length (p := fun i => !r i) (l := List.range n)
  simpa [cntV] using this
theorem cnt_mono {r s : Nat → Bool} (h : ∀ i, r i = true → s i = true) : ∀ n, cntV s n ≤ cntV r n
  | 0 => Nat.le_refl _
  | n + 1 => by
    rw [cnt_succ, cnt_succ]
    have := cnt_mono h n
    have h1 := h n
    cases hr : r n <;> cases hs : s n <;> simp_all <;> omega
theorem cnt_lt {r s : Nat → Bool} (h : ∀ i, r i = true → s i = true) : ∀ {n p : Nat}, p < n → r p = false → s p = true → cntV s n < cntV r n
  | 0, p, hp, _, _ => absurd hp (by omega)
  | n + 1, p, hp, hr, hs => by
    rw [cnt_succ, cnt_succ]
    by_cases e : p = n
    · subst e
      rw [hr, hs]
      have := cnt_mono h p
      simp
      omega
    · have := cnt_lt h (n := n) (p := p) (by omega) hr hs
      have h1 := h n
      cases hrn : r n <;> cases hsn : s n <;> simp_all <;> omega
/-- What has been met so far: those that are marked, and those that still wait. -/
structure Dfs (n : Nat) (nx : Nat → List Int) (r : Nat → Bool) (ws : List Int) : Prop where
  yes : ∀ i, i < n → r i = true → Rch nx i
  wait : ∀ x ∈ ws, 0 ≤ x ∧ x < n ∧ Rch nx x.toNat
  zero : r 0 = true ∨ (0 : Int) ∈ ws
  shut : ∀ i, i < n → r i = true → ∀ x ∈ nx i, r x.toNat = true ∨ x ∈ ws
section
variable {n : Nat} {nx : Nat → List Int} {r : Nat → Bool} {ws : List Int} {p : Int}
theorem Dfs.start (hn : 0 < n) : Dfs n nx (fun _ => false) [0] :=
  ⟨fun i _ h => by simp at h, fun x hx => by simp at hx; subst hx; exact ⟨by omega, by omega, .zero⟩, .inr (by simp), fun i _ h => by simp at h⟩
theorem Dfs.old (h : Dfs n nx r (ws ++ [p])) (hp : r p.toNat = true) : Dfs n nx r ws := by
  refine ⟨h.yes, fun x hx => h.wait x (by simp [hx]), ?_, fun i hi hr x hx => ?_⟩
  · rcases h.zero with h0 | h0
    · exact .inl h0
    · rcases List.mem_append.1 h0 with h1 | h1
      · exact .inr h1
      · simp at h1
        subst h1
        exact .inl (by simpa using hp)
  · rcases h.shut i hi hr x hx with h0 | h0
    · exact .inl h0
    · rcases List.mem_append.1 h0 with h1 | h1
      · exact .inr h1
      · simp at h1
        subst h1
        exact .inl hp
theorem Dfs.new (h : Dfs n nx r (ws ++ [p])) (hb : ∀ i, i < n → ∀ x ∈ nx i, 0 ≤ x ∧ x < n) : Dfs n nx (fun i => if i = p.toNat then true else r i) (ws ++ nx p.toNat) := by
  have hw := h.wait p (by simp)
  refine ⟨fun i hi hr => ?_, fun x hx => ?_, ?_, fun i hi hr x hx => ?_⟩
  · by_cases e : i = p.toNat
    · subst e; exact hw.2.2
    · exact h.yes i hi (by simpa [e] using hr)
  · rcases List.mem_append.1 hx with h1 | h1
    · exact h.wait x (by simp [h1])
    · have := hb p.toNat (by omega) x h1
      exact ⟨this.1, this.2, .step hw.2.2 (by rwa [Int.toNat_of_nonneg this.1])⟩
  · rcases h.zero with h0 | h0
    · left; simp [h0]
    · rcases List.mem_append.1 h0 with h1 | h1
      · right; simp [h1]
      · simp at h1
        subst h1
        left; simp
  · by_cases e : i = p.toNat
    · subst e
      right
      simp [hx]
    · rcases h.shut i hi (by simpa [e] using hr) x hx with h0 | h0
      · left; simp [h0]
      · rcases List.mem_append.1 h0 with h1 | h1
        · right; simp [h1]
        · simp at h1
          subst h1
          left; simp
theorem Dfs.done (h : Dfs n nx r []) (hn : 0 < n) (hb : ∀ i, i < n → ∀ x ∈ nx i, 0 ≤ x ∧ x < n) : IsReach n nx ((List.range n).map r) := by
  refine ⟨by simp, fun i hi => ?_⟩
  have e : ((List.range n).map r).getD i false = r i := by simp [List.getD, hi]
  rw [e]
  refine ⟨h.yes i hi, fun hr => (Rch.within hn hb (by simpa using h.zero) (fun j hj hr x hx => ?_) hr).2⟩
  simpa using h.shut j hj hr x hx
end
end Go.Proofs.YtgoedemibdkpdaaGreat
