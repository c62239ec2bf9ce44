/- Where a function's instructions go: goals, what comes behind, leaders, blocks, what is reached. Plain mathematics. -/
import Derived.Test.YtgoedemibdkpdaaGreatGoes10
import Derived.Lib.SlicesCompact
import Derived.Sort.AssemblyPlain
namespace Go.Proofs.YtgoedemibdkpdaaGreat
set_option linter.unusedVariables false
set_option linter.unusedSimpArgs false

/-- The place that an instruction says; below 0: none. -/
def tgtV (y : InsV) : Int := firstV 116 (itemsOf (shapeI y.op) y.a y.b y.c y.n y.args)
def flsV (y : InsV) : Bool := fallsV y.op
/-- The number of a place among some; below 0: it is none of them. -/
def atV : List Int → Int → Int
  | [], _ => -1
  | p :: ps, t => if p = t then 0 else if atV ps t < 0 then -1 else atV ps t + 1
theorem atV_lb : ∀ (ps : List Int) (t : Int), -1 ≤ atV ps t ∧ atV ps t < ps.length
  | [], t => by simp [atV]
  | p :: ps, t => by
    have := atV_lb ps t
    simp only [atV, List.length_cons]
    split
    · omega
    · split <;> omega
theorem atV_some : ∀ {ps : List Int} {t : Int} {k : Nat}, atV ps t = (k : Int) → k < ps.length ∧ ps.getD k 0 = t
  | [], t, k, h => by simp only [atV] at h; omega
  | p :: ps, t, k, h => by
    simp only [atV] at h
    split at h
    · have : k = 0 := by omega
      subst this
      rename_i hp
      exact ⟨by simp, by simpa using hp⟩
    · split at h
      · omega
      · cases k with
        | zero => omega
        | succ k =>
          have := atV_some (ps := ps) (t := t) (k := k) (by omega)
          simpa using this
theorem atV_none : ∀ {ps : List Int} {t : Int}, atV ps t < 0 → ∀ k, k < ps.length → ps.getD k 0 ≠ t
  | [], t, h, k, hk => by simp at hk
  | p :: ps, t, h, k, hk => by
    simp only [atV] at h
    split at h
    · omega
    · rename_i hp
      have h0 : atV ps t < 0 := by
        split at h
        · assumption
        · omega
      cases k with
      | zero => simpa using hp
      | succ k => simpa using atV_none h0 k (by simpa using hk)
theorem atV_snoc (ps : List Int) (q t : Int) : atV (ps ++ [q]) t = if atV ps t < 0 then (if q = t then (ps.length : Int) else -1) else atV ps t := by
  induction ps with
  | nil => simp [atV]
  | cons p ps ih =>
    simp only [List.cons_append, atV, ih, List.length_cons]
    by_cases h : p = t
    · simp [h]
    · rw [if_neg h, if_neg h]
      by_cases h0 : atV ps t < 0
      · rw [if_pos h0, if_pos h0]
        by_cases hq : q = t
        · simp [hq]; omega
        · simp [hq]
      · rw [if_neg h0, if_neg h0]
        have := atV_lb ps t
        rw [if_neg (by omega)]
/-- Places that rise. -/
theorem places_rise (l : List InsV) {i j : Nat} (hij : i < j) (hj : j < l.length) : (placesV l 0).getD i 0 < (placesV l 0).getD j 0 := by
  rw [placesV_at l 0 (by omega), placesV_at l 0 hj]
  have h : ∀ (a b : Nat), a ≤ b → b ≤ l.length → (allB (l.take a)).length + (b - a) ≤ (allB (l.take b)).length := by
    intro a b hab hb
    induction b with
    | zero =>
      obtain rfl : a = 0 := by omega
      simp
    | succ b ih =>
      rcases Nat.lt_or_ge b a with h1 | h1
      · have : a = b + 1 := by omega
        subst this
        omega
      · have h2 := ih h1 (by omega)
        rw [(all_at (l := l) (i := b) (by omega)).2, List.length_append]
        have := bytes_pos (l.getD b .zero)
        omega
  have := h i j (by omega) (by omega)
  omega
theorem places_inj (l : List InsV) {i j : Nat} (hi : i < l.length) (hj : j < l.length) (h : (placesV l 0).getD i 0 = (placesV l 0).getD j 0) : i = j := by
  rcases Nat.lt_trichotomy i j with h1 | h1 | h1
  · have := places_rise l h1 hj; omega
  · exact h1
  · have := places_rise l h1 hi; omega
theorem places_nat (l : List InsV) {i : Nat} (hi : i < l.length) : 0 ≤ (placesV l 0).getD i 0 := by
  rw [placesV_at l 0 hi]; omega
theorem at_place (l : List InsV) {i : Nat} (hi : i < l.length) : atV (placesV l 0) ((placesV l 0).getD i 0) = i := by
  have hb := atV_lb (placesV l 0) ((placesV l 0).getD i 0)
  rw [placesV_length] at hb
  by_cases h : atV (placesV l 0) ((placesV l 0).getD i 0) < 0
  · exact absurd rfl (atV_none h i (by rw [placesV_length]; exact hi))
  · obtain ⟨k, hk⟩ : ∃ k : Nat, atV (placesV l 0) ((placesV l 0).getD i 0) = k := ⟨_, (Int.toNat_of_nonneg (by omega)).symm⟩
    have := atV_some hk
    rw [placesV_length] at this
    rw [hk, places_inj l this.1 hi this.2]

/-- The number of the instruction at an instruction's target; below 0: it has none. -/
def goalV (ps : List Int) (y : InsV) : Int := if 0 ≤ tgtV y then atV ps (tgtV y) else -1
theorem goal_bd (ps : List Int) (y : InsV) : -1 ≤ goalV ps y ∧ goalV ps y < ps.length := by
  unfold goalV
  split
  · exact atV_lb ps _
  · omega
def goalsV (l : List InsV) : List Int := l.map (goalV (placesV l 0))
def strayB (ps : List Int) (y : InsV) : Bool := decide (0 ≤ tgtV y ∧ atV ps (tgtV y) < 0)
def lastV (l : List InsV) : InsV := l.getD (l.length - 1) .zero
def check10 (l : List InsV) : Int :=
  if joinE l ≠ 0 then joinE l else if l.length = 0 then 10 else if l.any (strayB (placesV l 0)) then 13 else if flsV (lastV l) then 10 else 0
def nxV (f : Bool) (g : Int) (n : Nat) : List Int :=
  if f then (if g < 0 then [(n : Int) + 1] else if (n : Int) + 1 < g then [(n : Int) + 1, g] else if g = (n : Int) + 1 then [(n : Int) + 1] else [g, (n : Int) + 1]) else if g < 0 then [] else [g]
def nextV (l : List InsV) (n : Nat) : List Int := nxV (flsV (l.getD n .zero)) (goalV (placesV l 0) (l.getD n .zero)) n
def nextsV (l : List InsV) : List (List Int) := (List.range l.length).map (nextV l)
theorem nextsV_length (l : List InsV) : (nextsV l).length = l.length := by simp [nextsV]
theorem nextsV_at {l : List InsV} {n : Nat} (h : n < l.length) : (nextsV l).getD n [] = nextV l n := by
  simp [nextsV, List.getD, h]
theorem nxV_mem {f : Bool} {g : Int} {n : Nat} {x : Int} : x ∈ nxV f g n ↔ (f = true ∧ x = (n : Int) + 1) ∨ (0 ≤ g ∧ x = g) := by
  unfold nxV
  cases f with
  | true =>
    rw [if_pos rfl]
    split
    · simp; omega
    · split
      · simp; omega
      · split
        · simp; omega
        · simp; omega
  | false =>
    rw [if_neg (by simp)]
    split
    · simp; omega
    · simp; omega
theorem nxV_rise (f : Bool) (g : Int) (n : Nat) : (nxV f g n).Pairwise (· < ·) := by
  unfold nxV
  split
  · split
    · simp
    · split
      · simp; omega
      · split
        · simp
        · simp; omega
  · split <;> simp
theorem nxV_len (f : Bool) (g : Int) (n : Nat) : (nxV f g n).length ≤ 2 := by
  unfold nxV
  (repeat' split) <;> simp
/-- Code that goes nowhere else. -/
structure Good10 (l : List InsV) : Prop where
  join : joinE l = 0
  pos : 0 < l.length
  goal : ∀ n, n < l.length → 0 ≤ tgtV (l.getD n .zero) → 0 ≤ goalV (placesV l 0) (l.getD n .zero)
  last : flsV (lastV l) = false
theorem good10 {l : List InsV} (h : check10 l = 0) : Good10 l := by
  unfold check10 at h
  split at h
  · rename_i h0; exact absurd h h0
  · rename_i h0
    split at h
    · omega
    · split at h
      · omega
      · rename_i h1 h2
        split at h
        · omega
        · rename_i h3
          refine ⟨by simpa using h0, by omega, fun n hn ht => ?_, by simpa using h3⟩
          have hm : l.getD n .zero ∈ l := by simp [List.getD, List.getElem?_eq_getElem hn]
          have h4 : strayB (placesV l 0) (l.getD n .zero) = false := by
            have := h2
            simp only [List.any_eq_true, not_exists] at this
            have := this (l.getD n .zero)
            have h6 : ¬ strayB (placesV l 0) (l.getD n .zero) = true := fun hc => this ⟨hm, hc⟩
            simpa using h6
          unfold goalV
          rw [if_pos ht]
          unfold strayB at h4
          have := of_decide_eq_false h4
          omega
theorem Good10.check {l : List InsV} (h : Good10 l) : check10 l = 0 := by
  unfold check10
  rw [if_neg (not_not_intro h.join), if_neg (by have := h.pos; omega), if_neg, if_neg (by simp [h.last])]
  intro hc
  obtain ⟨y, hy, hs⟩ := List.any_eq_true.1 hc
  obtain ⟨n, hn, rfl⟩ := List.getElem_of_mem hy
  have e : l.getD n .zero = l[n] := by simp [List.getD, List.getElem?_eq_getElem hn]
  have h1 := h.goal n hn
  rw [e] at h1
  unfold strayB at hs
  have hs := of_decide_eq_true hs
  have := h1 hs.1
  unfold goalV at this
  rw [if_pos hs.1] at this
  omega
section
variable {l : List InsV}
theorem Good10.fall (h : Good10 l) {n : Nat} (hn : n < l.length) (hf : flsV (l.getD n .zero) = true) : n + 1 < l.length := by
  rcases Nat.lt_or_ge (n + 1) l.length with h1 | h1
  · exact h1
  · have : n = l.length - 1 := by omega
    subst this
    have := h.last
    unfold lastV at this
    rw [this] at hf
    cases hf
theorem goal_lt {n : Nat} : goalV (placesV l 0) (l.getD n .zero) < l.length := by
  have := (goal_bd (placesV l 0) (l.getD n .zero)).2
  rwa [placesV_length] at this
theorem Good10.next (h : Good10 l) {n : Nat} (hn : n < l.length) : ∀ x ∈ nextV l n, 0 ≤ x ∧ x < l.length := by
  intro x hx
  rcases nxV_mem.1 hx with ⟨hf, rfl⟩ | ⟨h0, rfl⟩
  · have := h.fall hn hf
    omega
  · exact ⟨h0, goal_lt⟩
/-- What stands at a target. -/
theorem Good10.tgt (h : Good10 l) {n k : Nat} (hn : n < l.length) (hk : k < l.length) : tgtV (l.getD n .zero) = (placesV l 0).getD k 0 ↔ goalV (placesV l 0) (l.getD n .zero) = (k : Int) := by
  constructor
  · intro e
    unfold goalV
    rw [e, if_pos (places_nat l hk), at_place l hk]
  · intro e
    unfold goalV at e
    split at e
    · exact (atV_some e).2.symm
    · omega
theorem Good10.neg (h : Good10 l) {n : Nat} (hn : n < l.length) : goalV (placesV l 0) (l.getD n .zero) < 0 ↔ tgtV (l.getD n .zero) < 0 := by
  constructor
  · intro e
    rcases Int.lt_or_le (tgtV (l.getD n .zero)) 0 with h1 | h1
    · exact h1
    · have := h.goal n hn h1
      omega
  · intro e
    unfold goalV
    rw [if_neg (by omega)]
    omega
end

/-- What is reached. -/
inductive Rch (nx : Nat → List Int) : Nat → Prop
  | zero : Rch nx 0
  | step {a b : Nat} : Rch nx a → (b : Int) ∈ nx a → Rch nx b
def IsReach (n : Nat) (nx : Nat → List Int) (r : List Bool) : Prop := r.length = n ∧ ∀ i, i < n → (r.getD i false = true ↔ Rch nx i)
theorem IsReach.uniq {n : Nat} {nx : Nat → List Int} {r s : List Bool} (h : IsReach n nx r) (k : IsReach n nx s) : r = s := by
  apply List.ext_getElem (by rw [h.1, k.1])
  intro i h1 h2
  have e1 := h.2 i (by rw [← h.1]; exact h1)
  have e2 := k.2 i (by rw [← h.1]; exact h1)
  simp only [List.getD, List.getElem?_eq_getElem h1, List.getElem?_eq_getElem h2, Option.getD_some] at e1 e2
  rw [Bool.eq_iff_iff, e1, e2]
/-- A set that has the first one and what comes behind each of its own. -/
def Closed (n : Nat) (nx : Nat → List Int) (r : Nat → Bool) : Prop := ∀ i, i < n → r i = true → ∀ x ∈ nx i, r x.toNat = true
theorem Rch.within {n : Nat} {nx : Nat → List Int} {r : Nat → Bool} (hn : 0 < n) (hb : ∀ i, i < n → ∀ x ∈ nx i, 0 ≤ x ∧ x < n) (h0 : r 0 = true) (hc : Closed n nx r) : ∀ {i : Nat}, Rch nx i → i < n ∧ r i = true := by
  intro i hi
  induction hi with
  | zero => exact ⟨hn, h0⟩
  | step h1 h2 ih =>
    have := hb _ ih.1 _ h2
    have h3 := hc _ ih.1 ih.2 _ h2
    exact ⟨by omega, by simpa using h3⟩
end Go.Proofs.YtgoedemibdkpdaaGreat
