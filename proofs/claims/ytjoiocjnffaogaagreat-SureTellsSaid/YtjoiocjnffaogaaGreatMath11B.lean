/- Which registers are sure: what is reached without a register's being written; masks; the first register that is read and is not sure. Plain mathematics. -/
import Derived.Test.YtjoiocjnffaogaaGreatMath11
import Derived.Test.YtjoiocjnffaogaaGreatS16
namespace Go.Proofs.YtjoiocjnffaogaaGreat
set_option linter.unusedVariables false
set_option linter.unusedSimpArgs false

/-- What is reached, as a list. -/
def swL (n : Nat) (nx : Nat → List Int) (m : List Bool) : List Bool := (List.range n).map fun i => m.getD i false || (List.range n).any fun a => m.getD a false && (nx a).contains (i : Int)
def itL (n : Nat) (nx : Nat → List Int) : Nat → List Bool
  | 0 => (List.range n).map fun i => decide (i = 0)
  | t + 1 => swL n nx (itL n nx t)
def reachL (n : Nat) (nx : Nat → List Int) : List Bool := itL n nx n
section
variable {n : Nat} {nx : Nat → List Int}
theorem itL_length (t : Nat) : (itL n nx t).length = n := by cases t <;> simp [itL, swL]
theorem itL_out {t i : Nat} (h : (itL n nx t).getD i false = true) : i < n := by
  rcases Nat.lt_or_ge i n with h1 | h1
  · exact h1
  · rw [List.getD, List.getElem?_eq_none (by rw [itL_length]; exact h1)] at h
    cases h
theorem itL_zero {i : Nat} (h : i < n) : (itL n nx 0).getD i false = decide (i = 0) := by simp [itL, List.getD, h]
theorem itL_succ {t i : Nat} (h : i < n) : (itL n nx (t + 1)).getD i false = ((itL n nx t).getD i false || (List.range n).any fun a => (itL n nx t).getD a false && (nx a).contains (i : Int)) := by simp [itL, swL, List.getD, h]
theorem itL_any {t i : Nat} : ((List.range n).any fun a => (itL n nx t).getD a false && (nx a).contains (i : Int)) = true ↔ ∃ a, a < n ∧ (itL n nx t).getD a false = true ∧ (i : Int) ∈ nx a := by
  simp [List.any_eq_true]
theorem itL_sound (hn : 0 < n) : ∀ t i, (itL n nx t).getD i false = true → Rch nx i
  | 0, i, h => by
    rw [itL_zero (itL_out h)] at h
    have : i = 0 := of_decide_eq_true h
    subst this
    exact .zero
  | t + 1, i, h => by
    rw [itL_succ (itL_out h), Bool.or_eq_true] at h
    rcases h with h | h
    · exact itL_sound hn t i h
    · obtain ⟨a, ha, h1, h2⟩ := itL_any.1 h
      exact .step (itL_sound hn t a h1) h2
theorem itL_swp (hb : ∀ i, i < n → ∀ x ∈ nx i, 0 ≤ x ∧ x < n) (t : Nat) : Swp n nx (fun i => (itL n nx t).getD i false) (fun i => (itL n nx (t + 1)).getD i false) n 0 := by
  refine ⟨fun i h => ?_, fun a ha h x hx => ?_, fun _ x hx => by simp at hx, fun hc i hi => ?_⟩
  · show (itL n nx (t + 1)).getD i false = true
    rw [itL_succ (itL_out h), Bool.or_eq_true]
    exact .inl h
  · have hxb := hb a ha x hx
    show (itL n nx (t + 1)).getD x.toNat false = true
    rw [itL_succ (by omega), Bool.or_eq_true]
    exact .inr (itL_any.2 ⟨a, ha, h, by rw [Int.toNat_of_nonneg hxb.1]; exact hx⟩)
  · show (itL n nx (t + 1)).getD i false = (itL n nx t).getD i false
    rw [itL_succ hi]
    cases hh : (itL n nx t).getD i false with
    | true => rfl
    | false =>
      rw [Bool.false_or]
      rw [Bool.eq_false_iff]
      intro hany
      obtain ⟨a, ha, h1, h2⟩ := itL_any.1 hany
      have := hc a ha h1 (i : Int) h2
      rw [Int.toNat_natCast] at this
      have this : (itL n nx t).getD i false = true := this
      rw [this] at hh
      cases hh
theorem itL_clo (hn : 0 < n) (hb : ∀ i, i < n → ∀ x ∈ nx i, 0 ≤ x ∧ x < n) : ∀ t, Clo n nx t (fun i => (itL n nx t).getD i false)
  | 0 => Clo.start hn (by rw [itL_zero hn]; rfl)
  | t + 1 => (itL_clo hn hb t).next (itL_swp hb t) hb
theorem reachL_is (hn : 0 < n) (hb : ∀ i, i < n → ∀ x ∈ nx i, 0 ≤ x ∧ x < n) : IsReach n nx (reachL n nx) := by
  refine ⟨itL_length n, fun i hi => ⟨itL_sound hn n i, fun h => ?_⟩⟩
  have hc := itL_clo hn hb n
  exact (Rch.within hn hb hc.zero hc.done h).2
end
/-- What comes behind an instruction that does not write a register. -/
def nextR (l : List InsV) (r : Int) (a : Nat) : List Int := if wrtV (l.getD a .zero) = r then [] else nextV l a
theorem nextR_bd {l : List InsV} (h : Good10 l) (r : Int) : ∀ i, i < l.length → ∀ x ∈ nextR l r i, 0 ≤ x ∧ x < l.length := by
  intro i hi x hx
  unfold nextR at hx
  split at hx
  · simp at hx
  · exact h.next hi x hx
theorem nextR_two (l : List InsV) (r : Int) (i : Nat) : (nextR l r i).length ≤ 2 := by
  unfold nextR
  split
  · simp
  · exact nxV_len _ _ _
/-- To which instructions there is a way on which a register was not written. -/
def wayL (l : List InsV) (r : Nat) : List Bool := reachL l.length (nextR l r)
theorem wayL_is {l : List InsV} (h : Good10 l) (r : Nat) : IsReach l.length (nextR l r) (wayL l r) := reachL_is h.pos (nextR_bd h r)
def sureB (l : List InsV) (p r i : Nat) : Bool := decide (r < p) || !((wayL l r).getD i false)
/-- A mask's lowest bits. -/
def pmask (l : List InsV) (p i : Nat) : Nat → Nat
  | 0 => 0
  | r + 1 => pmask l p i r + if sureB l p r i then 2 ^ r else 0
def maskV (l : List InsV) (p i : Nat) : Nat := pmask l p i 64
theorem pmask_lt (l : List InsV) (p i : Nat) : ∀ k, pmask l p i k < 2 ^ k
  | 0 => by simp [pmask]
  | k + 1 => by
    have := pmask_lt l p i k
    simp only [pmask, Nat.pow_succ]
    split <;> omega
theorem pmask_bit (l : List InsV) (p i : Nat) : ∀ {k r : Nat}, r < k → pmask l p i k / 2 ^ r % 2 = if sureB l p r i then 1 else 0
  | 0, r, h => absurd h (by omega)
  | k + 1, r, h => by
    have hlt := pmask_lt l p i k
    simp only [pmask]
    rcases Nat.lt_or_ge r k with h1 | h1
    · have ih := pmask_bit l p i h1
      split
      · obtain ⟨d, rfl⟩ : ∃ d, k = r + 1 + d := ⟨k - (r + 1), by omega⟩
        have e : 2 ^ (r + 1 + d) = 2 ^ r * (2 * 2 ^ d) := by rw [Nat.pow_add, Nat.pow_succ]; simp [Nat.mul_assoc]
        rw [e, Nat.add_mul_div_left _ _ (Nat.two_pow_pos r), Nat.add_mod, Nat.mul_mod_right, Nat.add_zero, Nat.mod_mod]
        exact ih
      · exact ih
    · obtain rfl : r = k := by omega
      split
      · rw [Nat.add_div_right _ (Nat.two_pow_pos r), Nat.div_eq_of_lt hlt]
      · rw [Nat.add_zero, Nat.div_eq_of_lt hlt]
theorem maskV_lt (l : List InsV) (p i : Nat) : maskV l p i < 18446744073709551616 := pmask_lt l p i 64
theorem maskV_bit (l : List InsV) (p i : Nat) {r : Nat} (h : r < 64) : maskV l p i / 2 ^ r % 2 = if sureB l p r i then 1 else 0 := pmask_bit l p i h
/-- Two masks of the same bits are the same. -/
theorem bits_uniq : ∀ {k a b : Nat}, a < 2 ^ k → b < 2 ^ k → (∀ r, r < k → a / 2 ^ r % 2 = b / 2 ^ r % 2) → a = b
  | 0, a, b, ha, hb, _ => by simp at ha hb; omega
  | k + 1, a, b, ha, hb, h => by
    have h0 := h 0 (by omega)
    simp at h0
    have ih := bits_uniq (k := k) (a := a / 2) (b := b / 2) (by rw [Nat.pow_succ] at ha; omega) (by rw [Nat.pow_succ] at hb; omega) (fun r hr => by
      have := h (r + 1) (by omega)
      rw [Nat.pow_succ, Nat.mul_comm, ← Nat.div_div_eq_div_mul, ← Nat.div_div_eq_div_mul] at this
      exact this)
    omega
/-- The first register that is read and is not sure. -/
def SureUpto (l : List InsV) (p i : Nat) : Prop := ∀ a, a < i → ∀ x ∈ rdsV (l.getD a .zero), sureB l p x.toNat a = true
def UnsIs (l : List InsV) (p : Nat) (i r : Int) : Prop :=
  (i = -1 ∧ r = -1 ∧ SureUpto l p l.length) ∨
  ∃ a q, a < l.length ∧ q < (rdsV (l.getD a .zero)).length ∧ i = (a : Int) ∧ r = (rdsV (l.getD a .zero)).getD q 0 ∧ SureUpto l p a ∧
    (∀ k, k < q → sureB l p ((rdsV (l.getD a .zero)).getD k 0).toNat a = true) ∧ sureB l p r.toNat a = false
theorem UnsIs.uniq {l : List InsV} {p : Nat} {i r j s : Int} (h : UnsIs l p i r) (k : UnsIs l p j s) : i = j ∧ r = s := by
  have hmem : ∀ (a q : Nat), q < (rdsV (l.getD a .zero)).length → (rdsV (l.getD a .zero)).getD q 0 ∈ rdsV (l.getD a .zero) := fun a q hq => by
    generalize rdsV (l.getD a .zero) = rs at *
    rw [List.getD, List.getElem?_eq_getElem hq]
    exact List.getElem_mem hq
  rcases h with ⟨rfl, rfl, h⟩ | ⟨a, q, ha, hq, rfl, rfl, h1, h2, h3⟩
  · rcases k with ⟨rfl, rfl, _⟩ | ⟨b, t, hb, ht, rfl, rfl, k1, k2, k3⟩
    · exact ⟨rfl, rfl⟩
    · have := h b hb _ (hmem b t ht)
      rw [this] at k3
      cases k3
  · rcases k with ⟨rfl, rfl, k⟩ | ⟨b, t, hb, ht, rfl, rfl, k1, k2, k3⟩
    · have := k a ha _ (hmem a q hq)
      rw [this] at h3
      cases h3
    · have e : a = b := by
        rcases Nat.lt_trichotomy a b with e | e | e
        · have := k1 a e _ (hmem a q hq)
          rw [this] at h3
          cases h3
        · exact e
        · have := h1 b e _ (hmem b t ht)
          rw [this] at k3
          cases k3
      subst e
      have e : q = t := by
        rcases Nat.lt_trichotomy q t with e | e | e
        · have := k2 q e
          rw [this] at h3
          cases h3
        · exact e
        · have := h2 t e
          rw [this] at k3
          cases k3
      subst e
      exact ⟨rfl, rfl⟩
end Go.Proofs.YtjoiocjnffaogaaGreat
