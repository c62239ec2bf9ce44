/- Masks that are visited again till no path takes any more away: what stands while some are still to be visited, that each visit brings the end nearer, and what stands at the end. Plain mathematics. -/
import Derived.Test.YtjoiocjnffaogaaGreatMath11D
namespace Go.Proofs.YtjoiocjnffaogaaGreat
set_option linter.unusedVariables false
set_option linter.unusedSimpArgs false

/-- The mask of what an instruction writes. -/
def wmV (x : Int) : Nat := if 0 ≤ x then 2 ^ x.toNat else 0
theorem wmV_lt {x : Int} (h : x < 64) : wmV x < 18446744073709551616 := by
  unfold wmV
  split
  · exact Nat.pow_lt_pow_right (n := 64) (by decide) (by omega)
  · decide
theorem wmV_bit {x : Int} {r : Nat} : (wmV x).testBit r = decide (x = (r : Int)) := by
  unfold wmV
  split
  · rw [Nat.testBit_two_pow]
    by_cases h : x = (r : Int)
    · simp [h]
    · rw [decide_eq_false h, decide_eq_false (by omega)]
  · rw [Nat.zero_testBit, decide_eq_false (by omega)]
/-- How many of the lowest bits a mask has. -/
def pop (v : Nat) : Nat → Nat
  | 0 => 0
  | k + 1 => pop v k + if v.testBit k then 1 else 0
theorem pop_le (v : Nat) : ∀ k, pop v k ≤ k
  | 0 => Nat.le_refl _
  | k + 1 => by have := pop_le v k; unfold pop; split <;> omega
theorem pop_mono {u v : Nat} : ∀ k, (∀ r, r < k → u.testBit r = true → v.testBit r = true) → pop u k ≤ pop v k
  | 0, _ => Nat.le_refl _
  | k + 1, h => by
    have ih := pop_mono k (fun r hr => h r (by omega))
    have hk := h k (by omega)
    unfold pop
    cases hu : u.testBit k <;> cases hv : v.testBit k <;> simp_all <;> omega
theorem pop_lt {u v : Nat} : ∀ k, (∀ r, r < k → u.testBit r = true → v.testBit r = true) → (∃ r, r < k ∧ u.testBit r = false ∧ v.testBit r = true) → pop u k < pop v k
  | 0, _, h => by obtain ⟨r, hr, _⟩ := h; omega
  | k + 1, h, he => by
    have hm := pop_mono k (fun r hr => h r (by omega))
    obtain ⟨r, hr, h1, h2⟩ := he
    by_cases e : r = k
    · subst e
      unfold pop
      rw [h1, h2]
      simp
      omega
    · have ih := pop_lt k (fun r hr => h r (by omega)) ⟨r, by omega, h1, h2⟩
      have hk := h k (by omega)
      unfold pop
      cases hu : u.testBit k <;> cases hv : v.testBit k <;> simp_all <;> omega
/-- How many bits there are in all masks. -/
def popS (m : Nat → Nat) : Nat → Nat
  | 0 => 0
  | n + 1 => popS m n + pop (m n) 64
theorem popS_le (m : Nat → Nat) : ∀ n, popS m n ≤ 64 * n
  | 0 => Nat.le_refl _
  | n + 1 => by have h1 := popS_le m n; have h2 := pop_le (m n) 64; unfold popS; omega
theorem popS_congr {m m' : Nat → Nat} : ∀ n, (∀ i, i < n → m i = m' i) → popS m n = popS m' n
  | 0, _ => rfl
  | n + 1, h => by unfold popS; rw [popS_congr n (fun i hi => h i (by omega)), h n (by omega)]
/-- One mask is laid anew. -/
def putM (m : Nat → Nat) (i v : Nat) : Nat → Nat := fun k => if k = i then v else m k
theorem putM_same (m : Nat → Nat) (i v : Nat) : putM m i v i = v := by simp [putM]
theorem putM_other (m : Nat → Nat) {i v k : Nat} (h : k ≠ i) : putM m i v k = m k := by simp [putM, h]
theorem putM_self (m : Nat → Nat) (i : Nat) : putM m i (m i) = m := by funext k; unfold putM; split <;> simp_all
theorem popS_put_lt {m : Nat → Nat} {i v : Nat} (h : pop v 64 < pop (m i) 64) : ∀ n, i < n → popS (putM m i v) n < popS m n
  | 0, hi => absurd hi (by omega)
  | n + 1, hi => by
    unfold popS
    by_cases e : i = n
    · subst e
      rw [putM_same, popS_congr i (m := putM m i v) (m' := m) (fun k hk => putM_other m (by omega))]
      omega
    · have := popS_put_lt h n (by omega)
      rw [putM_other m (fun h => e h.symm)]
      omega
/-- Two masks of the same 64 bits are the same. -/
theorem mask_ext {u v : Nat} (hu : u < 18446744073709551616) (hv : v < 18446744073709551616) (h : ∀ r, r < 64 → u.testBit r = v.testBit r) : u = v := by
  apply Nat.eq_of_testBit_eq
  intro r
  by_cases hr : r < 64
  · exact h r hr
  · have e : ∀ x, x < 18446744073709551616 → x.testBit r = false := fun x hx => Nat.testBit_lt_two_pow (Nat.lt_of_lt_of_le hx (show 2 ^ 64 ≤ 2 ^ r from Nat.pow_le_pow_right (by decide) (by omega)))
    rw [e u hu, e v hv]
section
variable {n p : Nat} {nx : Nat → List Int} {wx : Nat → Int} {m : Nat → Nat} {Q : List Int}
/-- What comes behind an instruction that does not write a register. -/
def nxR (nx : Nat → List Int) (wx : Nat → Int) (r : Int) (a : Nat) : List Int := if wx a = r then [] else nx a
/-- What a mask loses on a way is lost behind it. -/
def Ok1 (wx : Nat → Int) (m : Nat → Nat) (a b r : Nat) : Prop := (m b).testBit r = true → (m a ||| wmV (wx a)).testBit r = true
/-- What the masks around one leave it. -/
def FB (n p : Nat) (nx : Nat → List Int) (wx : Nat → Int) (m : Nat → Nat) (i r : Nat) : Prop := (i = 0 → r < p) ∧ ∀ a, a < n → (i : Int) ∈ nx a → (m a ||| wmV (wx a)).testBit r = true
structure Fix (n p : Nat) (nx : Nat → List Int) (wx : Nat → Int) (m : Nat → Nat) (Q : List Int) : Prop where
  wd : ∀ i, i < n → m i < 18446744073709551616
  un : ∀ i, i < n → ∀ r, r < 64 → (m i).testBit r = false → ¬ r < p ∧ Rch (nxR nx wx r) i
  ed : ∀ a, a < n → ∀ b : Nat, (b : Int) ∈ nx a → (b : Int) ∈ Q ∨ ∀ r, r < 64 → Ok1 wx m a b r
  ze : (0 : Int) ∈ Q ∨ ∀ r, r < 64 → (m 0).testBit r = true → r < p
  up : ∀ i, i < n → ∀ r, r < 64 → FB n p nx wx m i r → (m i).testBit r = true
  qb : ∀ x ∈ Q, 0 ≤ x ∧ x < n
  nd : Q.Nodup
theorem all_bits {r : Nat} (h : r < 64) : (18446744073709551615 : Nat).testBit r = true := by
  have := Nat.testBit_two_pow_sub_one (n := 64) (i := r)
  rw [show (18446744073709551615 : Nat) = 2 ^ 64 - 1 from rfl, this]
  exact decide_eq_true h
theorem Fix.start (hn : 0 < n) : Fix n p nx wx (fun _ => 18446744073709551615) [0] := by
  refine ⟨fun i _ => by decide, fun i _ r hr h => ?_, fun a _ b _ => .inr fun r hr _ => ?_, .inl (by simp), fun i _ r hr _ => all_bits hr, fun x hx => ?_, by simp⟩
  · have h : (18446744073709551615 : Nat).testBit r = false := h
    rw [all_bits hr] at h
    cases h
  · show ((18446744073709551615 : Nat) ||| _).testBit r = true
    rw [Nat.testBit_or, all_bits hr, Bool.true_or]
  · simp at hx
    subst hx
    exact ⟨by omega, by omega⟩
theorem Fix.perm {Q' : List Int} (h : Fix n p nx wx m Q) (hp : Q'.Perm Q) : Fix n p nx wx m Q' :=
  ⟨h.wd, h.un, fun a ha b hb => (h.ed a ha b hb).imp_left hp.mem_iff.2, h.ze.imp_left hp.mem_iff.2, h.up, fun x hx => h.qb x (hp.mem_iff.1 hx), hp.nodup_iff.2 h.nd⟩
def meas (n : Nat) (m : Nat → Nat) (Q : List Int) : Nat := popS m n * (n + 1) + Q.length
theorem len_le : ∀ {n : Nat} {Q : List Int}, Q.Nodup → (∀ x ∈ Q, 0 ≤ x ∧ x < n) → Q.length ≤ n
  | 0, Q, _, hb => by
    cases Q with
    | nil => exact Nat.le_refl _
    | cons x Q => have := hb x (by simp); omega
  | n + 1, Q, hn, hb => by
    by_cases h : (n : Int) ∈ Q
    · have h1 := len_le (n := n) (hn.erase (n : Int)) (fun x hx => by
        have h2 := (hn.mem_erase_iff).1 hx
        have h3 := hb x h2.2
        exact ⟨h3.1, by omega⟩)
      have := List.length_erase_of_mem h
      omega
    · have := len_le (n := n) hn (fun x hx => by
        have h3 := hb x hx
        exact ⟨h3.1, Classical.byContradiction fun hc => h (by rw [show (n : Int) = x by omega]; exact hx)⟩)
      omega
/-- While those behind one that is visited are gone through: i has the mask v now; the first k of those behind it have been seen. -/
structure Mid (n p : Nat) (nx : Nat → List Int) (wx : Nat → Int) (m : Nat → Nat) (Q : List Int) (i v : Nat) (k : Nat) (R : List Int) : Prop where
  old : ∀ x ∈ Q, x ∈ R
  qb : ∀ x ∈ R, 0 ≤ x ∧ x < n
  nd : R.Nodup
  seen : ∀ j, j < k → ∀ b : Nat, (nx i)[j]? = some (b : Int) → (b : Int) ∈ R ∨ ∀ r, r < 64 → Ok1 wx (putM m i v) i b r
  same : v = m i → R.length = Q.length
theorem Mid.start {i v : Nat} (h : Fix n p nx wx m ((i : Int) :: Q)) : Mid n p nx wx m Q i v 0 Q :=
  ⟨fun x hx => hx, fun x hx => h.qb x (List.mem_cons_of_mem _ hx), (List.nodup_cons.1 h.nd).2, fun j hj => absurd hj (by omega), fun _ => rfl⟩
theorem Mid.perm {i v k : Nat} {R R' : List Int} (h : Mid n p nx wx m Q i v k R) (hp : R'.Perm R) : Mid n p nx wx m Q i v k R' :=
  ⟨fun x hx => hp.mem_iff.2 (h.old x hx), fun x hx => h.qb x (hp.mem_iff.1 hx), hp.nodup_iff.2 h.nd, fun j hj b hb => (h.seen j hj b hb).imp_left hp.mem_iff.2, fun e => hp.length_eq.trans (h.same e)⟩
/-- One behind loses nothing. -/
theorem Mid.keep {i v k : Nat} {R : List Int} {b : Nat} (h : Mid n p nx wx m Q i v k R) (hk : (nx i)[k]? = some (b : Int)) (hb : (b : Int) ∈ R ∨ ∀ r, r < 64 → Ok1 wx (putM m i v) i b r) : Mid n p nx wx m Q i v (k + 1) R := by
  refine ⟨h.old, h.qb, h.nd, fun j hj c hc => ?_, h.same⟩
  by_cases e : j = k
  · subst e
    rw [hk] at hc
    injection hc with hc
    have : b = c := by omega
    subst this
    exact hb
  · exact h.seen j (by omega) c hc
/-- One behind loses some, and is not waiting yet. -/
theorem Mid.add {i v k : Nat} {R : List Int} {b : Nat} (h : Mid n p nx wx m Q i v k R) (hF : Fix n p nx wx m ((i : Int) :: Q)) (hi : i < n) (hk : (nx i)[k]? = some (b : Int)) (hbn : b < n) (hR : (b : Int) ∉ R)
    (hl : ∃ r, r < 64 ∧ ¬ Ok1 wx (putM m i v) i b r) : Mid n p nx wx m Q i v (k + 1) (R ++ [(b : Int)]) := by
  have hmem : (b : Int) ∈ nx i := List.mem_of_getElem? hk
  refine ⟨fun x hx => List.mem_append.2 (.inl (h.old x hx)), fun x hx => ?_, ?_, fun j hj c hc => ?_, fun e => ?_⟩
  · rcases List.mem_append.1 hx with h1 | h1
    · exact h.qb x h1
    · simp at h1
      subst h1
      exact ⟨by omega, by omega⟩
  · rw [List.nodup_append]
    exact ⟨h.nd, by simp, fun x hx y hy e => by simp at hy; subst hy; subst e; exact hR hx⟩
  · by_cases e : j = k
    · subst e
      rw [hk] at hc
      injection hc with hc
      left
      rw [← hc]
      simp
    · exact (h.seen j (by omega) c hc).imp_left (fun h => List.mem_append.2 (.inl h))
  · exfalso
    obtain ⟨r, hr, hno⟩ := hl
    subst e
    rw [putM_self] at hno
    by_cases e2 : b = i
    · subst e2
      exact hno (fun h => by rw [Nat.testBit_or, h, Bool.true_or])
    · rcases hF.ed i hi b hmem with h1 | h1
      · rcases List.mem_cons.1 h1 with h2 | h2
        · exact e2 (by omega)
        · exact hR (h.old _ h2)
      · exact hno (h1 r hr)
theorem Mid.done {i v : Nat} {R : List Int} (h : Mid n p nx wx m Q i v (nx i).length R) (hF : Fix n p nx wx m ((i : Int) :: Q)) (hi : i < n) (hv : v < 18446744073709551616) (hvb : ∀ r, r < 64 → (v.testBit r = true ↔ FB n p nx wx m i r)) :
    Fix n p nx wx (putM m i v) R ∧ meas n (putM m i v) R + 1 ≤ meas n m ((i : Int) :: Q) := by
  have hle : ∀ r, r < 64 → v.testBit r = true → (m i).testBit r = true := fun r hr hb => hF.up i hi r hr ((hvb r hr).1 hb)
  have hall : ∀ a, ∀ r, r < 64 → (putM m i v a).testBit r = true → (m a).testBit r = true := fun a r hr hb => by
    by_cases e : a = i
    · subst e; rw [putM_same] at hb; exact hle r hr hb
    · rwa [putM_other m e] at hb
  have hOk : ∀ a b r, r < 64 → a ≠ i → b ≠ i → Ok1 wx m a b r → Ok1 wx (putM m i v) a b r := fun a b r hr ha hb hk => by
    unfold Ok1
    rw [putM_other m ha, putM_other m hb]
    exact hk
  refine ⟨⟨fun k hk => ?_, fun k hk r hr hb => ?_, fun a ha b hb => ?_, ?_, fun k hk r hr hf => ?_, h.qb, h.nd⟩, ?_⟩
  · by_cases e : k = i
    · subst e; rw [putM_same]; exact hv
    · rw [putM_other m e]; exact hF.wd k hk
  · by_cases e : k = i
    · subst e
      rw [putM_same] at hb
      have hnf : ¬ FB n p nx wx m k r := fun hc => by rw [(hvb r hr).2 hc] at hb; cases hb
      by_cases hz : k = 0 → r < p
      · have : ∃ a, a < n ∧ (k : Int) ∈ nx a ∧ (m a ||| wmV (wx a)).testBit r = false := by
          refine Classical.byContradiction fun hc => hnf ⟨hz, fun a ha hm => ?_⟩
          cases hh : (m a ||| wmV (wx a)).testBit r with
          | true => rfl
          | false => exact absurd ⟨a, ha, hm, hh⟩ hc
        obtain ⟨a, ha, hm, hf⟩ := this
        rw [Nat.testBit_or, Bool.or_eq_false_iff, wmV_bit] at hf
        obtain ⟨h1, h2⟩ := hF.un a ha r hr hf.1
        exact ⟨h1, .step h2 (by unfold nxR; rw [if_neg (of_decide_eq_false hf.2)]; exact hm)⟩
      · have hk0 : k = 0 := Classical.byContradiction fun hc => hz (fun h => absurd h hc)
        subst hk0
        exact ⟨fun hc => hz (fun _ => hc), .zero⟩
    · rw [putM_other m e] at hb
      exact hF.un k hk r hr hb
  · by_cases ea : a = i
    · subst ea
      obtain ⟨j, hj⟩ := List.getElem?_of_mem hb
      exact h.seen j (by have := (List.getElem?_eq_some_iff.1 hj).1; exact this) b hj
    · by_cases eb : b = i
      · subst eb
        right
        intro r hr hbt
        rw [putM_same] at hbt
        rw [putM_other m ea]
        exact ((hvb r hr).1 hbt).2 a ha hb
      · rcases hF.ed a ha b hb with h1 | h1
        · rcases List.mem_cons.1 h1 with h2 | h2
          · exact absurd h2 (by omega)
          · exact .inl (h.old _ h2)
        · exact .inr fun r hr => hOk a b r hr ea eb (h1 r hr)
  · by_cases e : i = 0
    · subst e
      right
      intro r hr hb
      rw [putM_same] at hb
      exact ((hvb r hr).1 hb).1 rfl
    · rcases hF.ze with h1 | h1
      · rcases List.mem_cons.1 h1 with h2 | h2
        · exact absurd h2 (by omega)
        · exact .inl (h.old _ h2)
      · exact .inr fun r hr hb => h1 r hr (hall 0 r hr hb)
  · have hf' : FB n p nx wx m k r := ⟨hf.1, fun a ha hm => by
      have := hf.2 a ha hm
      rw [Nat.testBit_or, Bool.or_eq_true] at this ⊢
      exact this.imp_left (hall a r hr)⟩
    by_cases e : k = i
    · subst e
      rw [putM_same]
      exact (hvb r hr).2 hf'
    · rw [putM_other m e]
      exact hF.up k hk r hr hf'
  · unfold meas
    have hRl : R.length ≤ n := len_le h.nd h.qb
    by_cases e : v = m i
    · have hs := h.same e
      subst e
      rw [putM_self, List.length_cons]
      omega
    · have hlt : pop v 64 < pop (m i) 64 := by
        refine pop_lt 64 hle (Classical.byContradiction fun hc => e (mask_ext hv (hF.wd i hi) fun r hr => ?_))
        cases h1 : v.testBit r with
        | true => rw [hle r hr h1]
        | false =>
          cases h2 : (m i).testBit r with
          | false => rfl
          | true => exact absurd ⟨r, hr, h1, h2⟩ hc
      have hp := popS_put_lt hlt n hi
      have : (popS (putM m i v) n + 1) * (n + 1) ≤ popS m n * (n + 1) := Nat.mul_le_mul_right _ hp
      rw [Nat.add_mul, Nat.one_mul] at this
      rw [List.length_cons]
      omega
theorem Fix.ends (h : Fix n p nx wx m []) (hn : 0 < n) (hb : ∀ i, i < n → ∀ x ∈ nx i, 0 ≤ x ∧ x < n) {r : Nat} (hr : r < 64) (hp : ¬ r < p) : ∀ {i : Nat}, Rch (nxR nx wx r) i → i < n ∧ (m i).testBit r = false := by
  intro i hi
  induction hi with
  | zero =>
    refine ⟨hn, ?_⟩
    cases hh : (m 0).testBit r with
    | false => rfl
    | true => exact absurd ((h.ze.resolve_left (by simp)) r hr hh) hp
  | step ha hm ih =>
    rename_i a b
    obtain ⟨h1, h2⟩ := ih
    unfold nxR at hm
    split at hm
    · simp at hm
    · rename_i hne
      have hbb := hb a h1 _ hm
      refine ⟨by omega, ?_⟩
      cases hh : (m b).testBit r with
      | false => rfl
      | true =>
        have := ((h.ed a h1 b hm).resolve_left (by simp)) r hr hh
        rw [Nat.testBit_or, h2, Bool.false_or, wmV_bit] at this
        exact absurd (of_decide_eq_true this) hne
end
/-- At the end the masks are those that the chapter tells. -/
theorem Fix.masks {l : List InsV} {p : Nat} {m : Nat → Nat} (h : Fix l.length p (nextV l) (fun a => wrtV (l.getD a .zero)) m []) (hg : Good10 l) : ∀ i, i < l.length → m i = maskV l p i := by
  intro i hi
  refine mask_ext (h.wd i hi) (maskV_lt l p i) fun r hr => ?_
  rw [mask_test l p i hr]
  have e : ∀ a, nxR (nextV l) (fun a => wrtV (l.getD a .zero)) r a = nextR l r a := fun a => rfl
  have e2 : nxR (nextV l) (fun a => wrtV (l.getD a .zero)) (r : Int) = nextR l (r : Int) := funext e
  cases hs : sureB l p r i with
  | true =>
    cases hb : (m i).testBit r with
    | true => rfl
    | false =>
      obtain ⟨h1, h2⟩ := h.un i hi r hr hb
      rw [e2] at h2
      have hw := ((wayL_is hg r).2 i hi).2 h2
      unfold sureB at hs
      rw [hw] at hs
      simp [h1] at hs
  | false =>
    unfold sureB at hs
    rw [Bool.or_eq_false_iff] at hs
    have h1 := of_decide_eq_false hs.1
    have hw : (wayL l r).getD i false = true := by simpa using hs.2
    have h2 := ((wayL_is hg r).2 i hi).1 hw
    rw [← e2] at h2
    exact (h.ends hg.pos (fun i hi => hg.next hi) hr h1 h2).2
end Go.Proofs.YtjoiocjnffaogaaGreat
