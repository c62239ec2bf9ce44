/- What was written on a way, as a word of bits. Plain mathematics. -/
import Derived.Test.YtjoiocjnffaogaaGreatMath11C
import Derived.Laws.BitsAllLaws
namespace Go.Proofs.YtjoiocjnffaogaaGreat
set_option linter.unusedVariables false
set_option linter.unusedSimpArgs false

theorem mask_test (l : List InsV) (p i : Nat) {r : Nat} (h : r < 64) : (maskV l p i).testBit r = sureB l p r i := by
  rw [Nat.testBit_eq_decide_div_mod_eq, maskV_bit l p i h]
  cases sureB l p r i <;> simp
/-- What is known where a way stands. -/
structure WkInv (l : List InsV) (p at' wv : Nat) : Prop where
  lt : at' < l.length
  wd : wv < 18446744073709551616
  un : ∀ r, r < 64 → wv.testBit r = false → ¬ r < p ∧ Rch (nextR l r) at'
theorem WkInv.start {l : List InsV} {p : Nat} (h : Good10 l) (hp : p ≤ 8) : WkInv l p 0 (2 ^ p - 1) := by
  refine ⟨h.pos, ?_, fun r hr hb => ?_⟩
  · have : 2 ^ p ≤ 2 ^ 8 := Nat.pow_le_pow_right (by decide) hp
    omega
  · rw [Nat.testBit_two_pow_sub_one] at hb
    exact ⟨of_decide_eq_false hb, .zero⟩
theorem WkInv.none {l : List InsV} {p at' wv : Nat} (h : WkInv l p at' wv) (hg : Good10 l) : maskV l p at' &&& (18446744073709551615 - wv) = 0 := by
  apply Nat.eq_of_testBit_eq
  intro r
  rw [Nat.testBit_and, Nat.zero_testBit]
  have hm := maskV_lt l p at'
  by_cases hr : r < 64
  · have e : (18446744073709551615 - wv).testBit r = !wv.testBit r := by
      have := Nat.testBit_two_pow_sub_succ (n := 64) (x := wv) h.wd r
      have e2 : 2 ^ 64 - (wv + 1) = 18446744073709551615 - wv := by omega
      rw [e2] at this
      rw [this]
      simp [hr]
    rw [e, mask_test l p at' hr]
    cases hb : wv.testBit r with
    | true => simp
    | false =>
      obtain ⟨h1, h2⟩ := h.un r hr hb
      have hw := ((wayL_is hg r).2 at' h.lt).2 h2
      have : sureB l p r at' = false := by unfold sureB; rw [hw]; simp [h1]
      rw [this]
      rfl
  · have : (maskV l p at').testBit r = false := Nat.testBit_lt_two_pow (Nat.lt_of_lt_of_le hm (show 2 ^ 64 ≤ 2 ^ r from Nat.pow_le_pow_right (by decide) (by omega)))
    rw [this]
    rfl
/-- What an instruction writes is written. -/
def wroteV (wv : Nat) (x : Int) : Nat := if 0 ≤ x then wv ||| 2 ^ x.toNat else wv
theorem wrote_lt {wv : Nat} {x : Int} (h : wv < 18446744073709551616) (hx : x < 64) : wroteV wv x < 18446744073709551616 := by
  unfold wroteV
  split
  · exact Nat.or_lt_two_pow (n := 64) h (Nat.pow_lt_pow_right (by decide) (by omega))
  · exact h
theorem WkInv.step {l : List InsV} {p at' wv : Nat} (h : WkInv l p at' wv) (hg : Good10 l) {b : Nat} (hb : (b : Int) ∈ nextV l at') : WkInv l p b (wroteV wv (wrtV (l.getD at' .zero))) := by
  have hn := hg.next h.lt _ hb
  have hw := wrt_bd (good_chk hg h.lt)
  refine ⟨by omega, wrote_lt h.wd hw.2, fun r hr hf => ?_⟩
  have hne : wv.testBit r = false ∧ wrtV (l.getD at' .zero) ≠ (r : Int) := by
    unfold wroteV at hf
    split at hf
    · rename_i h0
      rw [Nat.testBit_or, Bool.or_eq_false_iff, Nat.testBit_two_pow] at hf
      exact ⟨hf.1, fun e => by have := of_decide_eq_false hf.2; omega⟩
    · exact ⟨hf, fun e => by omega⟩
  obtain ⟨h1, h2⟩ := h.un r hr hne.1
  exact ⟨h1, .step h2 (by unfold nextR; rw [if_neg hne.2]; exact hb)⟩
end Go.Proofs.YtjoiocjnffaogaaGreat
