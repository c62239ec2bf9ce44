/- What is said of the masks, outright: the least. Plain mathematics. -/
import Derived.Test.YtjoiocjnffaogaaMath11D
namespace Go.Proofs.Ytjoiocjnffaogaa
set_option linter.unusedVariables false
set_option linter.unusedSimpArgs false

theorem way_rch {l : List InsV} (hg : Good10 l) {r i : Nat} (hi : i < l.length) : (wayL l r).getD i false = true ↔ Rch (nextR l r) i := (wayL_is hg r).2 i hi
theorem rch_nextR {l : List InsV} {r : Int} {i : Nat} (h : Rch (nextR l r) i) : Rch (nextV l) i := by
  induction h with
  | zero => exact .zero
  | step h1 h2 ih =>
    refine .step ih ?_
    unfold nextR at h2
    split at h2
    · cases h2
    · exact h2
theorem mask_full {l : List InsV} (hg : Good10 l) {p i : Nat} (hi : i < l.length) (h : ¬ Rch (nextV l) i) : maskV l p i = 18446744073709551615 := by
  have e : (18446744073709551615 : Nat) = 2 ^ 64 - 1 := by decide
  rw [e]
  apply Nat.eq_of_testBit_eq
  intro r
  rw [Nat.testBit_two_pow_sub_one]
  by_cases hr : r < 64
  · rw [mask_test l p i hr]
    have hw : (wayL l r).getD i false = false := by
      cases hb : (wayL l r).getD i false with
      | false => rfl
      | true => exact absurd (rch_nextR ((way_rch hg hi).1 hb)) h
    unfold sureB
    rw [hw]
    simp [hr]
  · have := maskV_lt l p i
    rw [Nat.testBit_lt_two_pow (Nat.lt_of_lt_of_le this (show 2 ^ 64 ≤ 2 ^ r from Nat.pow_le_pow_right (by decide) (by omega)))]
    simp [hr]
theorem mask_more (l : List InsV) (p i : Nat) : maskV l p i &&& (18446744073709551615 - maskV l (p + 1) i) = 0 := by
  apply Nat.eq_of_testBit_eq
  intro r
  rw [Nat.testBit_and, Nat.zero_testBit]
  have hm := maskV_lt l p i
  have hm2 := maskV_lt l (p + 1) i
  by_cases hr : r < 64
  · have e : (18446744073709551615 - maskV l (p + 1) i).testBit r = !(maskV l (p + 1) i).testBit r := by
      have := Nat.testBit_two_pow_sub_succ (n := 64) (x := maskV l (p + 1) i) hm2 r
      have e2 : 2 ^ 64 - (maskV l (p + 1) i + 1) = 18446744073709551615 - maskV l (p + 1) i := by omega
      rw [e2] at this
      rw [this]
      simp [hr]
    rw [e, mask_test l p i hr, mask_test l (p + 1) i hr]
    unfold sureB
    cases (wayL l r).getD i false
    · simp
    · by_cases h1 : r < p
      · simp [h1, show r < p + 1 by omega]
      · simp [h1]
  · rw [Nat.testBit_lt_two_pow (Nat.lt_of_lt_of_le hm (show 2 ^ 64 ≤ 2 ^ r from Nat.pow_le_pow_right (by decide) (by omega)))]
    rfl
/-- What the last sweep asks at one place. -/
structure LstAt (l : List InsV) (p r i : Nat) (wy rc : Bool) (mk mo : Nat) : Prop where
  bit : mk / 2 ^ r % 2 = if wy = true ∧ p ≤ r then 0 else 1
  full : rc = false → mk = 18446744073709551615
  more : mk &&& (18446744073709551615 - mo) = 0
  lt : mk < 18446744073709551616
  lt2 : mo < 18446744073709551616
theorem lst_at {l : List InsV} (hg : Good10 l) {p r i : Nat} (hr : r < 64) (hi : i < l.length) {rr : Nat → Bool} (hd : IsReach l.length (nextR l r) ((List.range l.length).map rr)) {rl : List Bool} (hrl : IsReach l.length (nextV l) rl) :
    LstAt l p r i (rr i) (rl.getD i false) (maskV l p i) (maskV l (p + 1) i) := by
  have e : rr i = (wayL l r).getD i false := by
    have h1 := hd.2 i hi
    have e : ((List.range l.length).map rr).getD i false = rr i := by simp [List.getD, hi]
    rw [e] at h1
    have h2 := way_rch (r := r) hg hi
    cases ha : rr i <;> cases hb : (wayL l r).getD i false
    · rfl
    · rw [h2.1 hb |> h1.2] at ha; cases ha
    · rw [h1.1 ha |> h2.2] at hb; cases hb
    · rfl
  refine ⟨?_, fun h => mask_full hg hi fun hc => ?_, mask_more l p i, maskV_lt l p i, maskV_lt l (p + 1) i⟩
  · rw [maskV_bit l p i hr, e]
    unfold sureB
    cases (wayL l r).getD i false
    · simp
    · by_cases h1 : r < p
      · simp [h1]
      · simp [h1, show p ≤ r by omega]
  · rw [(hrl.2 i hi).2 hc] at h
    cases h
end Go.Proofs.Ytjoiocjnffaogaa
