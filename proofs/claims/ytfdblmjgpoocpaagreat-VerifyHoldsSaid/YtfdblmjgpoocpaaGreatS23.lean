/- Lemmas of Fix11, Wrt11, Set11, Set11B, Mask11, Uns11, each with its own remark. -/
import Derived.Test.YtfdblmjgpoocpaaGreatS20
import Derived.Test.YtfdblmjgpoocpaaGreatS22
import Derived.Test.YtfdblmjgpoocpaaGreatS19
import Derived.BigQuiet
import Derived.Deep.QuietTactic
import Derived.Deep.LoopGhost
import Derived.Test.YtfdblmjgpoocpaaGreatS21
/- (Fix11) Masks that are visited again till no path takes any more away: what stands while some are still to be visited, that each visit brings the end nearer, and what stands at the end. Plain mathematics. -/
namespace Go.Proofs.YtfdblmjgpoocpaaGreat
set_option linter.unusedVariables false
set_option linter.unusedSimpArgs false

/-- The mask of what an instruction writes. -/
def wmV (x : Int) : Nat := if 0 ≤ x then 2 ^ x.toNat else 0
theorem wmV_lt {x : Int} (h : x < 64) : wmV x < 18446744073709551616 := by
  unfold wmV
  split
  · exact Nat.pow_lt_pow_right (n := 64) (by decide) (by omega)
  · decide
theorem wmV_bit {x : Int} {r : Nat} : (wmV x).testBit r = decide (x = (r : Int)) := by
  unfold wmV
  split
  · rw [Nat.testBit_two_pow]
    by_cases h : x = (r : Int)
    · simp [h]
    · rw [decide_eq_false h, decide_eq_false (by omega)]
  · rw [Nat.zero_testBit, decide_eq_false (by omega)]
/-- How many of the lowest bits a mask has. -/
def pop (v : Nat) : Nat → Nat
  | 0 => 0
  | k + 1 => pop v k + if v.testBit k then 1 else 0
theorem pop_le (v : Nat) : ∀ k, pop v k ≤ k
  | 0 => Nat.le_refl _
  | k + 1 => by have := pop_le v k; unfold pop; split <;> omega
theorem pop_mono {u v : Nat} : ∀ k, (∀ r, r < k → u.testBit r = true → v.testBit r = true) → pop u k ≤ pop v k
  | 0, _ => Nat.le_refl _
  | k + 1, h => by
    have ih := pop_mono k (fun r hr => h r (by omega))
    have hk := h k (by omega)
    unfold pop
    cases hu : u.testBit k <;> cases hv : v.testBit k <;> simp_all <;> omega
theorem pop_lt {u v : Nat} : ∀ k, (∀ r, r < k → u.testBit r = true → v.testBit r = true) → (∃ r, r < k ∧ u.testBit r = false ∧ v.testBit r = true) → pop u k < pop v k
  | 0, _, h => by obtain ⟨r, hr, _⟩ := h; omega
  | k + 1, h, he => by
    have hm := pop_mono k (fun r hr => h r (by omega))
    obtain ⟨r, hr, h1, h2⟩ := he
    by_cases e : r = k
    · subst e
      unfold pop
      rw [h1, h2]
      simp
      omega
    · have ih := pop_lt k (fun r hr => h r (by omega)) ⟨r, by omega, h1, h2⟩
      have hk := h k (by omega)
      unfold pop
      cases hu : u.testBit k <;> cases hv : v.testBit k <;> simp_all <;> omega
/-- How many bits there are in all masks. -/
def popS (m : Nat → Nat) : Nat → Nat
  | 0 => 0
  | n + 1 => popS m n + pop (m n) 64
theorem popS_le (m : Nat → Nat) : ∀ n, popS m n ≤ 64 * n
  | 0 => Nat.le_refl _
  | n + 1 => by have h1 := popS_le m n; have h2 := pop_le (m n) 64; unfold popS; omega
theorem popS_congr {m m' : Nat → Nat} : ∀ n, (∀ i, i < n → m i = m' i) → popS m n = popS m' n
  | 0, _ => rfl
  | n + 1, h => by unfold popS; rw [popS_congr n (fun i hi => h i (by omega)), h n (by omega)]
/-- One mask is laid anew. -/
def putM (m : Nat → Nat) (i v : Nat) : Nat → Nat := fun k => if k = i then v else m k
theorem putM_same (m : Nat → Nat) (i v : Nat) : putM m i v i = v := by simp [putM]
theorem putM_other (m : Nat → Nat) {i v k : Nat} (h : k ≠ i) : putM m i v k = m k := by simp [putM, h]
theorem putM_self (m : Nat → Nat) (i : Nat) : putM m i (m i) = m := by funext k; unfold putM; split <;> simp_all
theorem popS_put_lt {m : Nat → Nat} {i v : Nat} (h : pop v 64 < pop (m i) 64) : ∀ n, i < n → popS (putM m i v) n < popS m n
  | 0, hi => absurd hi (by omega)
  | n + 1, hi => by
    unfold popS
    by_cases e : i = n
    · subst e
      rw [putM_same, popS_congr i (m := putM m i v) (m' := m) (fun k hk => putM_other m (by omega))]
      omega
    · have := popS_put_lt h n (by omega)
      rw [putM_other m (fun h => e h.symm)]
      omega
/-- Two masks of the same 64 bits are the same. -/
theorem mask_ext {u v : Nat} (hu : u < 18446744073709551616) (hv : v < 18446744073709551616) (h : ∀ r, r < 64 → u.testBit r = v.testBit r) : u = v := by
  apply Nat.eq_of_testBit_eq
  intro r
  by_cases hr : r < 64
  · exact h r hr
  · have e : ∀ x, x < 18446744073709551616 → x.testBit r = false := fun x hx => Nat.testBit_lt_two_pow (Nat.lt_of_lt_of_le hx (show 2 ^ 64 ≤ 2 ^ r from Nat.pow_le_pow_right (by decide) (by omega)))
    rw [e u hu, e v hv]
section
variable {n p : Nat} {nx : Nat → List Int} {wx : Nat → Int} {m : Nat → Nat} {Q : List Int}
/-- What comes behind an instruction that does not write a register. -/
def nxR (nx : Nat → List Int) (wx : Nat → Int) (r : Int) (a : Nat) : List Int := if wx a = r then [] else nx a
/-- What a mask loses on a way is lost behind it. -/
def Ok1 (wx : Nat → Int) (m : Nat → Nat) (a b r : Nat) : Prop := (m b).testBit r = true → (m a ||| wmV (wx a)).testBit r = true
/-- What the masks around one leave it. -/
def FB (n p : Nat) (nx : Nat → List Int) (wx : Nat → Int) (m : Nat → Nat) (i r : Nat) : Prop := (i = 0 → r < p) ∧ ∀ a, a < n → (i : Int) ∈ nx a → (m a ||| wmV (wx a)).testBit r = true
structure Fix (n p : Nat) (nx : Nat → List Int) (wx : Nat → Int) (m : Nat → Nat) (Q : List Int) : Prop where
  wd : ∀ i, i < n → m i < 18446744073709551616
  un : ∀ i, i < n → ∀ r, r < 64 → (m i).testBit r = false → ¬ r < p ∧ Rch (nxR nx wx r) i
  ed : ∀ a, a < n → ∀ b : Nat, (b : Int) ∈ nx a → (b : Int) ∈ Q ∨ ∀ r, r < 64 → Ok1 wx m a b r
  ze : (0 : Int) ∈ Q ∨ ∀ r, r < 64 → (m 0).testBit r = true → r < p
  up : ∀ i, i < n → ∀ r, r < 64 → FB n p nx wx m i r → (m i).testBit r = true
  qb : ∀ x ∈ Q, 0 ≤ x ∧ x < n
  nd : Q.Nodup
theorem all_bits {r : Nat} (h : r < 64) : (18446744073709551615 : Nat).testBit r = true := by
  have := Nat.testBit_two_pow_sub_one (n := 64) (i := r)
  rw [show (18446744073709551615 : Nat) = 2 ^ 64 - 1 from rfl, this]
  exact decide_eq_true h
theorem Fix.start (hn : 0 < n) : Fix n p nx wx (fun _ => 18446744073709551615) [0] := by
  refine ⟨fun i _ => by decide, fun i _ r hr h => ?_, fun a _ b _ => .inr fun r hr _ => ?_, .inl (by simp), fun i _ r hr _ => all_bits hr, fun x hx => ?_, by simp⟩
  · have h : (18446744073709551615 : Nat).testBit r = false := h
    rw [all_bits hr] at h
    cases h
  · show ((18446744073709551615 : Nat) ||| _).testBit r = true
    rw [Nat.testBit_or, all_bits hr, Bool.true_or]
  · simp at hx
    subst hx
    exact ⟨by omega, by omega⟩
theorem Fix.perm {Q' : List Int} (h : Fix n p nx wx m Q) (hp : Q'.Perm Q) : Fix n p nx wx m Q' :=
  ⟨h.wd, h.un, fun a ha b hb => (h.ed a ha b hb).imp_left hp.mem_iff.2, h.ze.imp_left hp.mem_iff.2, h.up, fun x hx => h.qb x (hp.mem_iff.1 hx), hp.nodup_iff.2 h.nd⟩
def meas (n : Nat) (m : Nat → Nat) (Q : List Int) : Nat := popS m n * (n + 1) + Q.length
theorem len_le : ∀ {n : Nat} {Q : List Int}, Q.Nodup → (∀ x ∈ Q, 0 ≤ x ∧ x < n) → Q.length ≤ n
  | 0, Q, _, hb => by
    cases Q with
    | nil => exact Nat.le_refl _
    | cons x Q => have := hb x (by simp); omega
  | n + 1, Q, hn, hb => by
    by_cases h : (n : Int) ∈ Q
    · have h1 := len_le (n := n) (hn.erase (n : Int)) (fun x hx => by
        have h2 := (hn.mem_erase_iff).1 hx
        have h3 := hb x h2.2
        exact ⟨h3.1, by omega⟩)
      have := List.length_erase_of_mem h
      omega
    · have := len_le (n := n) hn (fun x hx => by
        have h3 := hb x hx
        exact ⟨h3.1, Classical.byContradiction fun hc => h (by rw [show (n : Int) = x by omega]; exact hx)⟩)
      omega
/-- While those behind one that is visited are gone through: i has the mask v now; the first k of those behind it have been seen. -/
structure Mid (n p : Nat) (nx : Nat → List Int) (wx : Nat → Int) (m : Nat → Nat) (Q : List Int) (i v : Nat) (k : Nat) (R : List Int) : Prop where
  old : ∀ x ∈ Q, x ∈ R
  qb : ∀ x ∈ R, 0 ≤ x ∧ x < n
  nd : R.Nodup
  seen : ∀ j, j < k → ∀ b : Nat, (nx i)[j]? = some (b : Int) → (b : Int) ∈ R ∨ ∀ r, r < 64 → Ok1 wx (putM m i v) i b r
  same : v = m i → R.length = Q.length
theorem Mid.start {i v : Nat} (h : Fix n p nx wx m ((i : Int) :: Q)) : Mid n p nx wx m Q i v 0 Q :=
  ⟨fun x hx => hx, fun x hx => h.qb x (List.mem_cons_of_mem _ hx), (List.nodup_cons.1 h.nd).2, fun j hj => absurd hj (by omega), fun _ => rfl⟩
theorem Mid.perm {i v k : Nat} {R R' : List Int} (h : Mid n p nx wx m Q i v k R) (hp : R'.Perm R) : Mid n p nx wx m Q i v k R' :=
  ⟨fun x hx => hp.mem_iff.2 (h.old x hx), fun x hx => h.qb x (hp.mem_iff.1 hx), hp.nodup_iff.2 h.nd, fun j hj b hb => (h.seen j hj b hb).imp_left hp.mem_iff.2, fun e => hp.length_eq.trans (h.same e)⟩
/-- One behind loses nothing. -/
theorem Mid.keep {i v k : Nat} {R : List Int} {b : Nat} (h : Mid n p nx wx m Q i v k R) (hk : (nx i)[k]? = some (b : Int)) (hb : (b : Int) ∈ R ∨ ∀ r, r < 64 → Ok1 wx (putM m i v) i b r) : Mid n p nx wx m Q i v (k + 1) R := by
  refine ⟨h.old, h.qb, h.nd, fun j hj c hc => ?_, h.same⟩
  by_cases e : j = k
  · subst e
    rw [hk] at hc
    injection hc with hc
    have : b = c := by omega
    subst this
    exact hb
  · exact h.seen j (by omega) c hc
/-- One behind loses some, and is not waiting yet. -/
theorem Mid.add {i v k : Nat} {R : List Int} {b : Nat} (h : Mid n p nx wx m Q i v k R) (hF : Fix n p nx wx m ((i : Int) :: Q)) (hi : i < n) (hk : (nx i)[k]? = some (b : Int)) (hbn : b < n) (hR : (b : Int) ∉ R)
    (hl : ∃ r, r < 64 ∧ ¬ Ok1 wx (putM m i v) i b r) : Mid n p nx wx m Q i v (k + 1) (R ++ [(b : Int)]) := by
  have hmem : (b : Int) ∈ nx i := List.mem_of_getElem? hk
  refine ⟨fun x hx => List.mem_append.2 (.inl (h.old x hx)), fun x hx => ?_, ?_, fun j hj c hc => ?_, fun e => ?_⟩
  · rcases List.mem_append.1 hx with h1 | h1
    · exact h.qb x h1
    · simp at h1
      subst h1
      exact ⟨by omega, by omega⟩
  · rw [List.nodup_append]
    exact ⟨h.nd, by simp, fun x hx y hy e => by simp at hy; subst hy; subst e; exact hR hx⟩
  · by_cases e : j = k
    · subst e
      rw [hk] at hc
      injection hc with hc
      left
      rw [← hc]
      simp
    · exact (h.seen j (by omega) c hc).imp_left (fun h => List.mem_append.2 (.inl h))
  · exfalso
    obtain ⟨r, hr, hno⟩ := hl
    subst e
    rw [putM_self] at hno
    by_cases e2 : b = i
    · subst e2
      exact hno (fun h => by rw [Nat.testBit_or, h, Bool.true_or])
    · rcases hF.ed i hi b hmem with h1 | h1
      · rcases List.mem_cons.1 h1 with h2 | h2
        · exact e2 (by omega)
        · exact hR (h.old _ h2)
      · exact hno (h1 r hr)
theorem Mid.done {i v : Nat} {R : List Int} (h : Mid n p nx wx m Q i v (nx i).length R) (hF : Fix n p nx wx m ((i : Int) :: Q)) (hi : i < n) (hv : v < 18446744073709551616) (hvb : ∀ r, r < 64 → (v.testBit r = true ↔ FB n p nx wx m i r)) :
    Fix n p nx wx (putM m i v) R ∧ meas n (putM m i v) R + 1 ≤ meas n m ((i : Int) :: Q) := by
  have hle : ∀ r, r < 64 → v.testBit r = true → (m i).testBit r = true := fun r hr hb => hF.up i hi r hr ((hvb r hr).1 hb)
  have hall : ∀ a, ∀ r, r < 64 → (putM m i v a).testBit r = true → (m a).testBit r = true := fun a r hr hb => by
    by_cases e : a = i
    · subst e; rw [putM_same] at hb; exact hle r hr hb
    · rwa [putM_other m e] at hb
  have hOk : ∀ a b r, r < 64 → a ≠ i → b ≠ i → Ok1 wx m a b r → Ok1 wx (putM m i v) a b r := fun a b r hr ha hb hk => by
    unfold Ok1
    rw [putM_other m ha, putM_other m hb]
    exact hk
  refine ⟨⟨fun k hk => ?_, fun k hk r hr hb => ?_, fun a ha b hb => ?_, ?_, fun k hk r hr hf => ?_, h.qb, h.nd⟩, ?_⟩
  · by_cases e : k = i
    · subst e; rw [putM_same]; exact hv
    · rw [putM_other m e]; exact hF.wd k hk
  · by_cases e : k = i
    · subst e
      rw [putM_same] at hb
      have hnf : ¬ FB n p nx wx m k r := fun hc => by rw [(hvb r hr).2 hc] at hb; cases hb
      by_cases hz : k = 0 → r < p
      · have : ∃ a, a < n ∧ (k : Int) ∈ nx a ∧ (m a ||| wmV (wx a)).testBit r = false := by
          refine Classical.byContradiction fun hc => hnf ⟨hz, fun a ha hm => ?_⟩
          cases hh : (m a ||| wmV (wx a)).testBit r with
          | true => rfl
          | false => exact absurd ⟨a, ha, hm, hh⟩ hc
        obtain ⟨a, ha, hm, hf⟩ := this
        rw [Nat.testBit_or, Bool.or_eq_false_iff, wmV_bit] at hf
        obtain ⟨h1, h2⟩ := hF.un a ha r hr hf.1
        exact ⟨h1, .step h2 (by unfold nxR; rw [if_neg (of_decide_eq_false hf.2)]; exact hm)⟩
      · have hk0 : k = 0 := Classical.byContradiction fun hc => hz (fun h => absurd h hc)
        subst hk0
        exact ⟨fun hc => hz (fun _ => hc), .zero⟩
    · rw [putM_other m e] at hb
      exact hF.un k hk r hr hb
  · by_cases ea : a = i
    · subst ea
      obtain ⟨j, hj⟩ := List.getElem?_of_mem hb
      exact h.seen j (by have := (List.getElem?_eq_some_iff.1 hj).1; exact this) b hj
    · by_cases eb : b = i
      · subst eb
        right
        intro r hr hbt
        rw [putM_same] at hbt
        rw [putM_other m ea]
        exact ((hvb r hr).1 hbt).2 a ha hb
      · rcases hF.ed a ha b hb with h1 | h1
        · rcases List.mem_cons.1 h1 with h2 | h2
          · exact absurd h2 (by omega)
          · exact .inl (h.old _ h2)
        · exact .inr fun r hr => hOk a b r hr ea eb (h1 r hr)
  · by_cases e : i = 0
    · subst e
      right
      intro r hr hb
      rw [putM_same] at hb
      exact ((hvb r hr).1 hb).1 rfl
    · rcases hF.ze with h1 | h1
      · rcases List.mem_cons.1 h1 with h2 | h2
        · exact absurd h2 (by omega)
        · exact .inl (h.old _ h2)
      · exact .inr fun r hr hb => h1 r hr (hall 0 r hr hb)
  · have hf' : FB n p nx wx m k r := ⟨hf.1, fun a ha hm => by
      have := hf.2 a ha hm
      rw [Nat.testBit_or, Bool.or_eq_true] at this ⊢
      exact this.imp_left (hall a r hr)⟩
    by_cases e : k = i
    · subst e
      rw [putM_same]
      exact (hvb r hr).2 hf'
    · rw [putM_other m e]
      exact hF.up k hk r hr hf'
  · unfold meas
    have hRl : R.length ≤ n := len_le h.nd h.qb
    by_cases e : v = m i
    · have hs := h.same e
      subst e
      rw [putM_self, List.length_cons]
      omega
    · have hlt : pop v 64 < pop (m i) 64 := by
        refine pop_lt 64 hle (Classical.byContradiction fun hc => e (mask_ext hv (hF.wd i hi) fun r hr => ?_))
        cases h1 : v.testBit r with
        | true => rw [hle r hr h1]
        | false =>
          cases h2 : (m i).testBit r with
          | false => rfl
          | true => exact absurd ⟨r, hr, h1, h2⟩ hc
      have hp := popS_put_lt hlt n hi
      have : (popS (putM m i v) n + 1) * (n + 1) ≤ popS m n * (n + 1) := Nat.mul_le_mul_right _ hp
      rw [Nat.add_mul, Nat.one_mul] at this
      rw [List.length_cons]
      omega
theorem Fix.ends (h : Fix n p nx wx m []) (hn : 0 < n) (hb : ∀ i, i < n → ∀ x ∈ nx i, 0 ≤ x ∧ x < n) {r : Nat} (hr : r < 64) (hp : ¬ r < p) : ∀ {i : Nat}, Rch (nxR nx wx r) i → i < n ∧ (m i).testBit r = false := by
  intro i hi
  induction hi with
  | zero =>
    refine ⟨hn, ?_⟩
    cases hh : (m 0).testBit r with
    | false => rfl
    | true => exact absurd ((h.ze.resolve_left (by simp)) r hr hh) hp
  | step ha hm ih =>
    rename_i a b
    obtain ⟨h1, h2⟩ := ih
    unfold nxR at hm
    split at hm
    · simp at hm
    · rename_i hne
      have hbb := hb a h1 _ hm
      refine ⟨by omega, ?_⟩
      cases hh : (m b).testBit r with
      | false => rfl
      | true =>
        have := ((h.ed a h1 b hm).resolve_left (by simp)) r hr hh
        rw [Nat.testBit_or, h2, Bool.false_or, wmV_bit] at this
        exact absurd (of_decide_eq_true this) hne
end
/-- At the end the masks are those that the chapter tells. -/
theorem Fix.masks {l : List InsV} {p : Nat} {m : Nat → Nat} (h : Fix l.length p (nextV l) (fun a => wrtV (l.getD a .zero)) m []) (hg : Good10 l) : ∀ i, i < l.length → m i = maskV l p i := by
  intro i hi
  refine mask_ext (h.wd i hi) (maskV_lt l p i) fun r hr => ?_
  rw [mask_test l p i hr]
  have e : ∀ a, nxR (nextV l) (fun a => wrtV (l.getD a .zero)) r a = nextR l r a := fun a => rfl
  have e2 : nxR (nextV l) (fun a => wrtV (l.getD a .zero)) (r : Int) = nextR l (r : Int) := funext e
  cases hs : sureB l p r i with
  | true =>
    cases hb : (m i).testBit r with
    | true => rfl
    | false =>
      obtain ⟨h1, h2⟩ := h.un i hi r hr hb
      rw [e2] at h2
      have hw := ((wayL_is hg r).2 i hi).2 h2
      unfold sureB at hs
      rw [hw] at hs
      simp [h1] at hs
  | false =>
    unfold sureB at hs
    rw [Bool.or_eq_false_iff] at hs
    have h1 := of_decide_eq_false hs.1
    have hw : (wayL l r).getD i false = true := by simpa using hs.2
    have h2 := ((wayL_is hg r).2 i hi).1 hw
    rw [← e2] at h2
    exact (h.ends hg.pos (fun i hi => hg.next hi) hr h1 h2).2
end Go.Proofs.YtfdblmjgpoocpaaGreat

/- (Wrt11) The landed bit and written. Contracts; no condition but that the instructions flow. -/
namespace Go.Proofs.YtfdblmjgpoocpaaGreat
open Go.RowKit Go.Shelf
set_option linter.unusedVariables false
set_option linter.unusedSimpArgs false

theorem bit11 (r : Nat) (hr : r < 64) (w : World) : Calls Tryz.prog 85 #[.int .i64 r] w fun e w' => e = .returned (.int .u64 ((2 ^ r : Nat) : Int)) ∧ w = w' := by
  obtain ⟨e, he⟩ : ∃ e, e = 2 ^ r := ⟨_, rfl⟩
  have he64 : e < 18446744073709551616 := by rw [he]; exact (show 2 ^ r < 2 ^ 64 from Nat.pow_lt_pow_right (by decide) hr)
  have f2 : IntKind.u64.wrap (2 ^ r) = ((e : Nat) : Int) := by
    have h3 : ((2 ^ r : Nat) : Int) = (2 : Int) ^ r := by simp
    rw [IntKind.wrap_u64, ← h3, ← he]
    omega
  have r0 : ¬ (r : Int) < 0 := by omega
  have r1 : min r 64 = r := by omega
  rw [← he]
  clear he
  go_enter Tryz.func85, Tryz.ntmps85
  go_wp2
  go_ret
  exact ⟨rfl, rfl⟩
def WrtDone (w : World) (l : List InsV) (n : Nat) (e : Ending) (w' : World) : Prop :=
  e = .returned (.slice (some ⟨w.heap.size, 0, none⟩) n n) ∧ MkAt w w' n (fun i => wmV (wrtV (l.getD i .zero)))
set_option maxRecDepth 100000 in
set_option maxHeartbeats 16000000 in
theorem written11 (A : Option Addr) (n cap : Nat) (l : List InsV) (w : World) (hn : n = l.length) (h : IsCode w w.heap.size (.slice A n cap) l) (hg : Good10 l) (h4 : n ≤ 4096) :
    Calls Tryz.prog 111 #[.slice A n cap] w (WrtDone w l n) := by
  have HC := Lib.hid h
  have HN := Lib.hid hn
  have HG := Lib.hid hg
  have hmk := make_u64s n (by omega)
  have HMM : Hid (MkAt w (w.alloc (.cells (madeCells (Value.int .u64 0).cells (n * 1)) 112)) n (fun _ => 0)) := Lib.hid (MkAt.made n w)
  generalize madeCells (Value.int .u64 0).cells (n * 1) = mb at *
  have hnI : (n : Int) ≤ 4096 := by omega
  have HN4 := Lib.hid h4
  clear h hn hg
  go_enter Tryz.func111, Tryz.ntmps111
  go_wp2
  go_loopw [12] (fun v wr => ∃ k : Nat, k ≤ n ∧ v = .int .i64 k ∧ Hid (MkAt w wr n (fun i => if i < k then wmV (wrtV (l.getD i .zero)) else 0))) (fun v _ => n - (intOf v).toNat)
  case atStart => exact ⟨0, by omega, rfl, HMM.out.congr fun i hi => by simp⟩
  case round =>
    obtain ⟨k, hk, rfl, HR⟩ := hrel
    by_cases hlt : k < n
    · have hadd : wrap64 ((k : Int) + 1) = (k : Int) + 1 := by unfold wrap64; omega
      have k0 : (0 : Int) ≤ (k : Int) := by omega
      have k1 : (k : Int) < (n : Int) := by omega
      obtain ⟨cb, co, op, ca, b1, c, n1, args, YA, Yc, hA, hy, hin, hcc⟩ := code_cells HC.out HN.out hlt
      cases hA
      obtain ⟨hXr, c0, c1, c2, c3, c4, c5⟩ := hcc wr HR.out.bel
      have hkl : k < l.length := by rw [← HN.out]; exact hlt
      have hwb := wrt_bd (good_chk HG.out hkl)
      have hbox : Below wr.heap.size wr (wr.alloc (.cells (insCells op ca b1 c n1 (.slice YA args.length Yc)) 37)) := (Below.refl _ _).alloc (Nat.le_refl _) _
      have HWT : Hid (Calls Tryz.prog 23 #[.agg (insCells op ca b1 c n1 (.slice YA args.length Yc))] (wr.alloc (.cells (insCells op ca b1 c n1 (.slice YA args.length Yc)) 37)) (Makes (wr.alloc (.cells (insCells op ca b1 c n1 (.slice YA args.length Yc)) 37)) (.int .i64 (wrtV (l.getD k .zero))))) := Lib.hid (by
        rw [hy]
        exact writes_any op ca b1 c n1 (.slice YA args.length Yc) args _ ((hXr.below hbox (by have := HR.out.bel.size; omega)).more (by have := hbox.size; have := HR.out.bel.size; omega)))
      have HMB := Lib.hid (HR.out.grow hbox)
      have HWM : Hid (wmV (wrtV (l.getD k .zero)) = if 0 ≤ wrtV (l.getD k .zero) then 2 ^ (wrtV (l.getD k .zero)).toNat else 0) := Lib.hid rfl
      obtain ⟨xw, hxw⟩ : ∃ xw, xw = wrtV (l.getD k .zero) := ⟨_, rfl⟩
      have HXW := Lib.hid hxw
      rw [← hxw] at HWT hwb HWM
      have HLT := Lib.hid hlt
      clear hXr hy hin hxw hcc hbox hlt
      by_cases hw : 0 ≤ xw
      · obtain ⟨xn, rfl⟩ : ∃ xn : Nat, xw = xn := ⟨xw.toNat, by omega⟩
        have x0 : ((xn : Int) != (-1)) = true := by simp
        have HBI := Lib.hid (fun W => bit11 xn (by omega) W)
        have HW2 : Hid (wmV (xn : Int) = 2 ^ xn) := Lib.hid (by rw [HWM.out, if_pos hw, Int.toNat_natCast])
        obtain ⟨e2, he2⟩ : ∃ e2, e2 = 2 ^ xn := ⟨_, rfl⟩
        rw [← he2] at HBI HW2
        clear he2 hw hwb
        go_wp2_with (first
          | (go_at_call 23; (with_reducible refine HWT.out.mono ?_); rintro e w2 ⟨rfl, hb⟩; have HM2 := Lib.hid (HMB.out.grow hb); have r2 := HM2.out.row.cell HLT.out; have q2 := HM2.out.row.frozen k; unfold wordsU at r2; dsimp only at r2; rw [if_neg (Nat.lt_irrefl k)] at r2; clear hb)
          | (go_at_call 85; (with_reducible refine (HBI.out _).mono ?_); rintro e w3 ⟨rfl, rfl⟩))
        go_roundw
        case rel =>
          refine ⟨k + 1, by have := HLT.out; omega, by go_num, (HM2.out.set k e2).congr fun i hi => ?_⟩
          by_cases e : i = k
          · subst e
            rw [if_pos rfl, if_pos (by omega), ← HXW.out, HW2.out]
          · rw [if_neg e]
            by_cases e3 : i < k
            · rw [if_pos e3, if_pos (by omega)]
            · rw [if_neg e3, if_neg (by omega)]
        case measure => have := HLT.out; simp [intOf]; omega
      · obtain rfl : xw = -1 := by omega
        have x0 : ((-1 : Int) != (-1)) = false := by decide
        clear hw hwb
        go_wp2_with (go_at_call 23; (with_reducible refine HWT.out.mono ?_); rintro e w2 ⟨rfl, hb⟩; have HM2 := Lib.hid (HMB.out.grow hb); clear hb)
        go_roundw
        case rel =>
          refine ⟨k + 1, by have := HLT.out; omega, by go_num, HM2.out.congr fun i hi => ?_⟩
          by_cases e : i = k
          · subst e
            rw [if_neg (Nat.lt_irrefl _), if_pos (by omega), ← HXW.out, HWM.out, if_neg (by decide)]
          · by_cases e3 : i < k
            · rw [if_pos e3, if_pos (by omega)]
            · rw [if_neg e3, if_neg (by omega)]
        case measure => have := HLT.out; simp [intOf]; omega
    · obtain rfl : k = n := by omega
      go_wp2
      go_ret
      exact ⟨rfl, HR.out.congr fun i hi => if_pos hi⟩
end Go.Proofs.YtfdblmjgpoocpaaGreat

/- (Set11) The landed settled: masks that are visited again till no path takes any more away. Contract; no condition but that what follows is in rows, and what is written in words. -/
namespace Go.Proofs.YtfdblmjgpoocpaaGreat
open Go.RowKit Go.Shelf
set_option linter.unusedVariables false
set_option linter.unusedSimpArgs false

theorem common11 (a b : Nat) (ha : a < 18446744073709551616) (hb : b < 18446744073709551616) (w : World) : Calls Tryz.prog 134 #[.int .u64 a, .int .u64 b] w fun e w' => e = .returned (.int .u64 ((a &&& b : Nat) : Int)) ∧ w = w' := by
  have h := u64_and_nat a b ha hb
  generalize (a &&& b) = c at *
  clear ha hb
  go_enter Tryz.func134, Tryz.ntmps134
  go_wp2
  go_ret
  exact ⟨rfl, rfl⟩
theorem and_ne {a b : Nat} (ha : a < 18446744073709551616) (hb : b < 18446744073709551616) (h : (a &&& b) ≠ a) : ∃ r, r < 64 ∧ a.testBit r = true ∧ b.testBit r = false := by
  refine Classical.byContradiction fun hc => h (mask_ext (Nat.lt_of_le_of_lt Nat.and_le_left ha) ha fun r hr => ?_)
  rw [Nat.testBit_and]
  cases h1 : a.testBit r with
  | false => rfl
  | true =>
    cases h2 : b.testBit r with
    | true => rfl
    | false => exact absurd ⟨r, hr, h1, h2⟩ hc
theorem and_eq {a b : Nat} (h : (a &&& b) = a) {r : Nat} (hr : a.testBit r = true) : b.testBit r = true := by
  have := congrArg (fun x => x.testBit r) h
  simp only [Nat.testBit_and, hr, Bool.true_and] at this
  exact this
/-- What settled has in memory. -/
structure SetAt (w w2 wr : World) (mb pb B qb wb n : Nat) (m : Nat → Nat) (V : Value) (Q : List Int) : Prop where
  bel : Below w.heap.size w wr
  row : RowAt wr mb n 112 (wordsU m)
  pre : ∀ b, pb ≤ b → b < B → wr.heap[b]? = w2.heap[b]?
  q : QAt B wr qb wb n V (wf Q) Q
  lo : w.heap.size ≤ mb ∧ mb < pb ∧ pb ≤ B
section
variable {w w2 wr W : World} {mb pb B qb wb n : Nat} {m : Nat → Nat} {V V' : Value} {Q Q' : List Int}
theorem SetAt.queue (h : SetAt w w2 wr mb pb B qb wb n m V Q) (hq : QAt B W qb wb n V' (wf Q') Q') (hb : Below B wr W) : SetAt w w2 W mb pb B qb wb n m V' Q' :=
  ⟨h.bel.trans (hb.mono (by have := h.lo; omega)), h.row.below hb (by have := h.lo; omega), fun b h1 h2 => (hb.block b h2).trans (h.pre b h1 h2), hq, h.lo⟩
theorem SetAt.put (h : SetAt w w2 wr mb pb B qb wb n m V Q) (i v : Nat) : SetAt w w2 (wr.setCell ⟨mb, i, none⟩ (.int .u64 ((v : Nat) : Int))) mb pb B qb wb n (putM m i v) V Q := by
  have hs := (But.refl (OneBlock mb) wr).setCell (p := ⟨mb, i, none⟩) (.inl rfl) (.int .u64 ((v : Nat) : Int))
  have hne : ∀ b, mb < b → (wr.setCell ⟨mb, i, none⟩ (.int .u64 ((v : Nat) : Int))).heap[b]? = wr.heap[b]? := fun b hb => Below.heap_setCell _ _ _ _ (by show b ≠ mb; omega)
  have hlo := h.lo
  refine ⟨h.bel.setCell (p := ⟨mb, i, none⟩) hlo.1 _, (h.row.set i _).congr fun k hk => ?_, fun b h1 h2 => (hne b (by omega)).trans (h.pre b h1 h2), h.q.of_blocks (fun k h1 _ => hne k (by omega)) (by simp [World.setCell]), hlo⟩
  unfold wordsU putM
  by_cases e : k = i <;> simp [e]
theorem SetAt.drewN (h : SetAt w w2 wr mb pb B qb wb n m V Q) (k : Nat) : SetAt w w2 (wr.drewN k) mb pb B qb wb n m V Q :=
  ⟨below_drewN h.bel k, h.row.heap rfl, h.pre, h.q.drewN k, h.lo⟩
theorem SetAt.size (h : SetAt w w2 wr mb pb B qb wb n m V Q) : w.heap.size ≤ wr.heap.size := h.bel.size
end
/-- While the masks of those that one follows are gone through. -/
structure MaskAt (p : Nat) (wx : Nat → Int) (m : Nat → Nat) (z : Nat) (L : List Int) (j v : Nat) : Prop where
  wd : v < 18446744073709551616
  bit : ∀ r, r < 64 → (v.testBit r = true ↔ (z = 0 → r < p) ∧ ∀ k, k < j → (m (L.getD k 0).toNat ||| wmV (wx (L.getD k 0).toNat)).testBit r = true)
theorem MaskAt.start {p : Nat} {wx : Nat → Int} {m : Nat → Nat} {z : Nat} {L : List Int} (hp : p ≤ 8) : MaskAt p wx m z L 0 (if z = 0 then 2 ^ p - 1 else 18446744073709551615) := by
  have h8 : 2 ^ p ≤ 2 ^ 8 := Nat.pow_le_pow_right (by decide) hp
  refine ⟨by split <;> omega, fun r hr => ?_⟩
  by_cases hz : z = 0
  · rw [if_pos hz, Nat.testBit_two_pow_sub_one]
    simp [hz]
  · rw [if_neg hz]
    simp [hz, all_bits hr]
theorem MaskAt.next {p : Nat} {wx : Nat → Int} {m : Nat → Nat} {z j v a : Nat} {L : List Int} (h : MaskAt p wx m z L j v) (ha : L.getD j 0 = (a : Int)) : MaskAt p wx m z L (j + 1) (v &&& (m a ||| wmV (wx a))) := by
  refine ⟨Nat.lt_of_le_of_lt Nat.and_le_left h.wd, fun r hr => ?_⟩
  rw [Nat.testBit_and, Bool.and_eq_true, h.bit r hr]
  constructor
  · rintro ⟨⟨h1, h2⟩, h3⟩
    refine ⟨h1, fun k hk => ?_⟩
    by_cases e : k = j
    · subst e; rw [ha, Int.toNat_natCast]; exact h3
    · exact h2 k (by omega)
  · rintro ⟨h1, h2⟩
    refine ⟨⟨h1, fun k hk => h2 k (by omega)⟩, ?_⟩
    have := h2 j (by omega)
    rwa [ha, Int.toNat_natCast] at this
theorem MaskAt.done {n p : Nat} {nx : Nat → List Int} {wx : Nat → Int} {m : Nat → Nat} {z v : Nat} {L : List Int} (h : MaskAt p wx m z L L.length v) (hm : ∀ a : Int, a ∈ L ↔ ∃ b, b < n ∧ a = (b : Int) ∧ (z : Int) ∈ nx b) : ∀ r, r < 64 → (v.testBit r = true ↔ FB n p nx wx m z r) := by
  intro r hr
  rw [h.bit r hr]
  constructor
  · rintro ⟨h1, h2⟩
    refine ⟨h1, fun a ha hz => ?_⟩
    obtain ⟨k, hk⟩ := List.getElem?_of_mem ((hm a).2 ⟨a, ha, rfl, hz⟩)
    have hl := (List.getElem?_eq_some_iff.1 hk).1
    have := h2 k hl
    rw [show L.getD k 0 = (a : Int) by simp [List.getD, hk], Int.toNat_natCast] at this
    exact this
  · rintro ⟨h1, h2⟩
    refine ⟨h1, fun k hk => ?_⟩
    have hmem : L.getD k 0 ∈ L := by rw [List.getD, List.getElem?_eq_getElem hk]; exact List.getElem_mem hk
    obtain ⟨b, hb, he, hz⟩ := (hm _).1 hmem
    rw [he, Int.toNat_natCast]
    exact h2 b hb hz
theorem repeat_row {w w1 : World} {n : Nat} (h : RepAt w w1 n n (.int .u64 18446744073709551615)) : RowAt w1 w.heap.size n 112 (wordsU fun _ => 18446744073709551615) :=
  ⟨_, h.row, by simp [repL_len (Nat.le_refl n)], fun i hi => by unfold repL wordsU; simp [hi]⟩
def SettledDone (w : World) (n p : Nat) (nx : Nat → List Int) (wx : Nat → Int) (e : Ending) (w' : World) : Prop :=
  ∃ mb m, e = .returned (.slice (some ⟨mb, 0, none⟩) n n) ∧ w.heap.size ≤ mb ∧ RowAt w' mb n 112 (wordsU m) ∧ Below w.heap.size w w' ∧ Fix n p nx wx m []
end Go.Proofs.YtfdblmjgpoocpaaGreat

/- (Set11B) The landed settled: the walk. Contract; no condition but that what follows is in rows, and what is written in words. -/
namespace Go.Proofs.YtfdblmjgpoocpaaGreat
open Go.RowKit Go.Shelf
set_option linter.unusedVariables false
set_option linter.unusedSimpArgs false

theorem step_down {j yl : Nat} (h : j < yl) (e : wrap64 ((j : Int) + 1) = (j : Int) + 1) : yl - (intOf (.int .i64 (wrap64 ((j : Int) + 1)))).toNat < yl - (intOf (.int .i64 (j : Int))).toNat := by
  rw [e]
  simp [intOf]
  omega
theorem step_down2 {j yl : Nat} (h : j < yl) : yl - (intOf (.int .i64 ((j : Int) + 1))).toNat < yl - (intOf (.int .i64 (j : Int))).toNat := by
  simp [intOf]
  omega
set_option maxRecDepth 100000 in
set_option maxHeartbeats 32000000 in
theorem settled11 (base g n wb0 p : Nat) (Xs : Nat → Value) (nx : Nat → List Int) (wx : Nat → Int) (w : World) (hL : Lists base w g n Xs nx) (hW : RowAt w wb0 n 112 (wordsU fun i => wmV (wx i))) (hx : ∀ i, i < n → wx i < 64)
    (h0 : 0 < n) (hn : n ≤ 4096) (hp : p ≤ 8) (hb : ∀ i, i < n → ∀ x ∈ nx i, 0 ≤ x ∧ x < n) (h2 : ∀ i, (nx i).length ≤ 2) :
    Calls Tryz.prog 110 #[.slice (some ⟨g, 0, none⟩) n n, .slice (some ⟨wb0, 0, none⟩) n n, .int .u64 ((2 ^ p - 1 : Nat) : Int)] w (SettledDone w n p nx wx) := by
  have hnI : (n : Int) ≤ 4096 := by omega
  have HL := Lib.hid hL
  have HW := Lib.hid hW
  have HX := Lib.hid hx
  have HP := Lib.hid hp
  have HBD := Lib.hid hb
  have H2 := Lib.hid h2
  have HN := Lib.hid (And.intro h0 hn)
  -- the word that is repeated
  obtain ⟨W1, hW1⟩ : ∃ W1, W1 = w.alloc (.cells #[.int .u64 18446744073709551615] 112) := ⟨_, rfl⟩
  have hb1 : Below w.heap.size w W1 := by rw [hW1]; exact (Below.refl _ _).alloc (Nat.le_refl _) _
  have hs1 : W1.heap.size = w.heap.size + 1 := by rw [hW1]; simp
  have HRP := Lib.hid (repeat11 w.heap.size n 18446744073709551615 W1 (by rw [hW1, cell_of_row _ _ _ _ _ _ (heap_alloc_new w _)]; rfl) (by omega) h0 (by omega))
  have HB1 := Lib.hid hb1
  have HS1 := Lib.hid hs1
  obtain ⟨fm, hfm⟩ : ∃ fm, fm = 2 ^ p - 1 := ⟨_, rfl⟩
  have HFM := Lib.hid hfm
  rw [← hfm]
  have HPR := Lib.hid (fun w1 hl => predecessors11 base g n Xs nx w1 hl hn hb h2)
  have HNQ := Lib.hid (fun w2 => newQueue11 n (by omega) w2)
  clear hL hW hx hp hb h2 hb1 hs1 hfm
  go_enter Tryz.func110, Tryz.ntmps110
  go_wp2_with (first
    | (go_at_call 128; rw [← hW1]; (with_reducible refine HRP.out.mono ?_); rintro e w1 ⟨rfl, hr⟩; have HR1 := Lib.hid hr; have HBW1 := Lib.hid (HB1.out.trans (hr.bel.mono HB1.out.size)); have HL1 : Hid (Lists base w1 g n Xs nx) := Lib.hid ⟨HL.out.ge, HL.out.row.below HBW1.out HL.out.row.lt, fun i hi => Owns.below (HL.out.own i hi) HBW1.out (Nat.le_refl _)⟩; clear hr)
    | (go_at_call 129; (with_reducible refine (HPR.out w1 HL1.out).mono ?_); rintro e w2 ⟨Ys, P, rfl, hl, hb, hm, hlen⟩; have HP2 := Lib.hid hl; have HB2 := Lib.hid hb; have HM2 := Lib.hid hm; have HLE := Lib.hid hlen; clear hl hb hm hlen)
    | (go_at_call 130; (with_reducible refine (HNQ.out w2).mono ?_); rintro e w3 ⟨qb, qw, rfl, hq, hb⟩; have HQ3 := Lib.hid hq; have HB3 := Lib.hid hb; have HA := Lib.hid (add11 (k := 0) hq HN.out.1 (by have := HN.out.2; omega) (by simp)); rw [show ((0 : Nat) : Int) = 0 from rfl] at HA; clear hq hb)
    | (go_at_call 131; (with_reducible refine HA.out.mono ?_); rintro e w4 ⟨rfl, V4, Q4, hq, hb, hq4⟩; have HQ4 := Lib.hid hq; have HB4 := Lib.hid hb; have HQP := Lib.hid hq4; clear hq hb hq4))
  clear hW1
  obtain ⟨g0, hg0⟩ : ∃ g0, g0 = meas n (fun _ => 18446744073709551615) Q4 := ⟨_, rfl⟩
  have HRR : Hid (RowAt w1 (w.heap.size + 1) n 112 (wordsU fun _ => 18446744073709551615)) := Lib.hid (by have := repeat_row HR1.out; rw [HS1.out] at this; exact this)
  have HLO : Hid (w.heap.size ≤ (w.heap.size + 1) ∧ (w.heap.size + 1) < w1.heap.size ∧ w1.heap.size ≤ w2.heap.size) := Lib.hid ⟨by omega, HRR.out.lt, HB2.out.size⟩
  have HQP2 : Hid (Q4.Perm [0]) := Lib.hid (by
    rcases HQP.out with ⟨h, _⟩ | ⟨_, h⟩
    · simp at h
    · simpa using h)
  have HS4 : Hid (SetAt w w2 w4 (w.heap.size + 1) w1.heap.size w2.heap.size qb qw n (fun _ => 18446744073709551615) V4 Q4) := Lib.hid ⟨HBW1.out.trans ((HB2.out.trans (HB3.out.mono HB2.out.size)).mono HBW1.out.size |>.trans (HB4.out.mono (Nat.le_trans HBW1.out.size HB2.out.size))), ((HRR.out.below HB2.out HLO.out.2.1).below (HB3.out.mono HB2.out.size) HLO.out.2.1).below (HB4.out.mono HB2.out.size) HLO.out.2.1, fun b h1 h2 => (HB4.out.block b h2).trans (HB3.out.block b h2), HQ4.out, HLO.out⟩
  have HF4 : Hid (Fix n p nx wx (fun _ => 18446744073709551615) Q4) := Lib.hid ((Fix.start HN.out.1).perm HQP2.out)
  have HG0 := Lib.hid hg0
  clear hg0 HQP HA
  go_loopg [10] g0 (fun gk v wr => ∃ (m : Nat → Nat) (V : Value) (Q : List Int), Hid (SetAt w w2 wr (w.heap.size + 1) w1.heap.size w2.heap.size qb qw n m V Q ∧ Fix n p nx wx m Q ∧ meas n m Q ≤ gk))
  case atStart => exact ⟨_, V4, Q4, HS4.out, HF4.out, by rw [HG0.out]; exact Nat.le_refl _⟩
  case round =>
    obtain ⟨m, V, Q, HR⟩ := hrel
    obtain ⟨hS, hF, hM⟩ := HR.out
    have hql : Q.length ≤ n := len_le hF.nd hF.qb
    obtain ⟨A, cap, hv, _⟩ := out_len hS.q.own
    have c0 := hS.q.c0
    obtain ⟨L, hl⟩ : ∃ L, L = Q.length := ⟨_, rfl⟩
    have HLQ := Lib.hid hl
    rw [← hl] at hv
    by_cases hq0 : L = 0
    · subst hq0
      rw [hv] at c0
      have HQ0 : Hid (Q = []) := Lib.hid (List.eq_nil_of_length_eq_zero hl.symm)
      have HS := Lib.hid hS
      have HF := Lib.hid hF
      clear hS hF hM hql hv hl HR
      go_wp2_with (go_at_call 132; (with_reducible refine (len11 A 0 cap wr).mono ?_); rintro e w5 ⟨rfl, rfl⟩)
      go_ret
      rw [HQ0.out] at HF
      exact ⟨w.heap.size + 1, m, rfl, HLO.out.1, HS.out.row, HS.out.bel, HF.out⟩
    · have hl0 : (0 : Int) < (L : Int) := by omega
      rw [hv] at c0
      have HTK := Lib.hid (take11 hS.q hF.nd hF.qb (by omega) (by have := HN.out.2; omega) (by have := HN.out.2; omega))
      have HSQ := Lib.hid (fun ys V5 w5 (hq : QAt w2.heap.size w5 qb qw n V5 (wf ys) ys) hb => SetAt.queue hS hq hb)
      have HFQ := Lib.hid (fun (z : Nat) ys (hp : ((z : Int) :: ys).Perm Q) => hF.perm hp)
      have HMQ : Hid (∀ (z : Nat) ys, ((z : Int) :: ys).Perm Q → meas n m ((z : Int) :: ys) ≤ gk) := Lib.hid (fun z ys hp => by unfold meas; rw [hp.length_eq]; exact hM)
      clear hS hF hM hql hv hl HR hq0
      go_wp2_with (first
        | (go_at_call 132; (with_reducible refine (len11 A L cap wr).mono ?_); rintro e w5 ⟨rfl, rfl⟩)
        | (go_at_call 133; (with_reducible refine HTK.out.mono ?_); rintro e w5 ⟨z, ys, rfl, hz, hp, V5, hq, hb⟩; have hS5 := HSQ.out ys V5 w5 hq hb; have HS5 := Lib.hid hS5; have HF5 := Lib.hid (HFQ.out z ys hp); have HM5 := Lib.hid (HMQ.out z ys hp); obtain ⟨YA, Yc, hrow⟩ := lists_row (k := z) HP2.out hz; have y0 := (hrow w5 (fun b h1 h2 => hS5.pre b h1 h2)).1; have HYR := Lib.hid hrow; have HZ := Lib.hid hz; have z0 : (0 : Int) ≤ (z : Int) := (by omega); have z1 : (z : Int) < (n : Int) := (by omega); generalize hyl : (P z).length = yl at y0; have HYL := Lib.hid hyl; have HMS := Lib.hid (MaskAt.start (p := p) (wx := wx) (m := m) (z := z) (L := P z) HP.out); clear hS5 hrow hz hp hq hb hyl))
      all_goals
        first
          | (have hzb : ((z : Int) == 0) = true := by assumption
             simp only [hzb])
          | (have hzb : ((z : Int) == 0) = false := by assumption
             simp only [hzb])
          | fail
        go_loopw [11, 43] (fun vm vi wi => ∃ (j v : Nat), j ≤ yl ∧ vi = .int .i64 j ∧ vm = .int .u64 v ∧ Hid (SetAt w w2 wi (w.heap.size + 1) w1.heap.size w2.heap.size qb qw n m V5 ys ∧ MaskAt p wx m z (P z) j v)) (fun _ vi _ => yl - (intOf vi).toNat)
        case atStart =>
          have hms := HMS.out
          first
            | exact ⟨0, fm, Nat.zero_le _, rfl, rfl, HS5.out, by
                have hz : z = 0 := by have h : ((z : Int) == 0) = true := by assumption
                                      simpa using h
                rw [if_pos hz, ← HFM.out] at hms
                exact hms⟩
            | exact ⟨0, 18446744073709551615, Nat.zero_le _, rfl, rfl, HS5.out, by
                have hz : ¬ z = 0 := by have h : ((z : Int) == 0) = false := by assumption
                                        simpa using h
                rw [if_neg hz] at hms
                exact hms⟩
            | fail
        case round =>
          obtain ⟨j, v, hj, rfl, rfl, HI⟩ := hrel
          by_cases hjl : j < yl
          · have hadj : wrap64 ((j : Int) + 1) = (j : Int) + 1 := by unfold wrap64; have := HLE.out z HZ.out; have := HYL.out; omega
            have j0 : (0 : Int) ≤ (j : Int) := by omega
            have j1 : (j : Int) < (yl : Int) := by omega
            have hjl' : j < (P z).length := by rw [HYL.out]; exact hjl
            obtain ⟨b, hYA, hcj⟩ := (HYR.out wr (fun b h1 h2 => HI.out.1.pre b h1 h2)).2 j hjl'
            subst hYA
            have hmem : (P z).getD j 0 ∈ P z := by rw [List.getD, List.getElem?_eq_getElem hjl']; exact List.getElem_mem hjl'
            obtain ⟨a, han, ha, _⟩ := (HM2.out z HZ.out _).1 hmem
            rw [ha] at hcj
            have a0 : (0 : Int) ≤ (a : Int) := by omega
            have a1 : (a : Int) < (n : Int) := by omega
            have hma := HI.out.1.row.cell han
            have hwa := (HW.out.below HI.out.1.bel HW.out.lt).cell han
            unfold wordsU at hma hwa
            dsimp only at hma hwa
            have hlm := HF5.out.wd a han
            have hlw := wmV_lt (HX.out a han)
            have hlo : (m a ||| wmV (wx a)) < 18446744073709551616 := Nat.or_lt_two_pow (n := 64) hlm hlw
            have fO := u64_or_nat (m a) (wmV (wx a)) hlm hlw
            have HCO := Lib.hid (fun W => common11 v (m a ||| wmV (wx a)) HI.out.2.wd hlo W)
            have HNX := Lib.hid (HI.out.2.next ha)
            generalize (m a ||| wmV (wx a)) = oa at *
            generalize m a = ma at *
            generalize wmV (wx a) = wa at *
            have HJ := Lib.hid hjl
            clear hjl hjl' hmem ha han hlm hlw hlo
            go_wp2
            go_quiet ((go_at_call 134; with_reducible exact quiet_same (HCO.out _)))
            go_wp2
            go_roundw
            case rel => exact ⟨j + 1, _, by have := HJ.out; omega, by go_num, rfl, HI.out.1.drewN _, HNX.out⟩
            case measure => exact step_down HJ.out hadj
          · obtain rfl : j = yl := by omega
            have hzl := HZ.out
            have hvd := HI.out.2.wd
            have HVB := Lib.hid (MaskAt.done (n := n) (nx := nx) (by rw [HYL.out]; exact HI.out.2) (HM2.out z hzl))
            have hsp := HI.out.1.put z v
            have HSP := Lib.hid hsp
            have m1 := HI.out.1.row.cell hzl
            unfold wordsU at m1
            have m2 := HI.out.1.row.frozen z
            obtain ⟨XA, Xc, hxr⟩ := lists_row (k := z) HL.out hzl
            have n1 := (hxr wr (fun b _ h => HI.out.1.bel.block b h)).1
            have n2 := (hxr _ (fun b _ h => hsp.bel.block b h)).1
            have HXR := Lib.hid hxr
            obtain ⟨xl, hxl⟩ : ∃ xl, xl = (nx z).length := ⟨_, rfl⟩
            have HXL := Lib.hid hxl
            rw [← hxl] at n1 n2
            have xl2 : xl ≤ 2 := by rw [hxl]; exact H2.out z
            have HMI0 := Lib.hid (Mid.start (v := v) HF5.out)
            generalize m z = mz at m1
            clear hxr hxl hsp
            go_wp2
            go_loopw [68] (fun vi wi => ∃ (j : Nat) (R : List Int) (V' : Value), j ≤ xl ∧ vi = .int .i64 j ∧ Hid (SetAt w w2 wi (w.heap.size + 1) w1.heap.size w2.heap.size qb qw n (putM m z v) V' R ∧ Mid n p nx wx m ys z v j R)) (fun vi _ => xl - (intOf vi).toNat)
            case atStart => exact ⟨0, ys, V5, Nat.zero_le _, rfl, HSP.out, HMI0.out⟩
            case round =>
              clear m1 m2 n1 n2
              obtain ⟨j, R, V', hj, rfl, HJ⟩ := hrel
              by_cases hjl : j < xl
              · have hadj : wrap64 ((j : Int) + 1) = (j : Int) + 1 := by unfold wrap64; omega
                have j0 : (0 : Int) ≤ (j : Int) := by omega
                have j1 : (j : Int) < (xl : Int) := by omega
                have hjl' : j < (nx z).length := by rw [← HXL.out]; exact hjl
                obtain ⟨b, hXA, hcj⟩ := (HXR.out wr (fun b _ h => HJ.out.1.bel.block b h)).2 j hjl'
                subst hXA
                have hmem : (nx z).getD j 0 ∈ nx z := by rw [List.getD, List.getElem?_eq_getElem hjl']; exact List.getElem_mem hjl'
                have hfb := HBD.out z hzl _ hmem
                obtain ⟨f, hf⟩ : ∃ f : Nat, (nx z).getD j 0 = f := ⟨((nx z).getD j 0).toNat, by omega⟩
                have hfk : (nx z)[j]? = some (f : Int) := by rw [← hf, List.getD, List.getElem?_eq_getElem hjl']; rfl
                rw [hf] at hcj hfb
                have a0 : (0 : Int) ≤ (f : Int) := by omega
                have a1 : (f : Int) < (n : Int) := hfb.2
                have hfn : f < n := by omega
                have hma := HJ.out.1.row.cell hfn
                have hwa := (HW.out.below HJ.out.1.bel HW.out.lt).cell hzl
                unfold wordsU at hma hwa
                dsimp only at hma hwa
                have hlm : putM m z v f < 18446744073709551616 := by
                  unfold putM
                  split
                  · exact hvd
                  · exact HF5.out.wd f hfn
                have hlw := wmV_lt (HX.out z hzl)
                have hlo : (v ||| wmV (wx z)) < 18446744073709551616 := Nat.or_lt_two_pow (n := 64) hvd hlw
                have fO := u64_or_nat v (wmV (wx z)) hvd hlw
                have HCO := Lib.hid (fun W => common11 (putM m z v f) (v ||| wmV (wx z)) hlm hlo W)
                have hrl : R.length ≤ n := len_le HJ.out.2.nd HJ.out.2.qb
                have HAD := Lib.hid (fun q => add11 (k := f) (HJ.out.1.drewN q).q hfn (by have := HN.out.2; omega) (by have := HN.out.2; omega))
                have HJL := Lib.hid hjl
                by_cases hc : (putM m z v f &&& (v ||| wmV (wx z))) = putM m z v f
                · have HNX : Hid (Mid n p nx wx m ys z v (j + 1) R) := Lib.hid (HJ.out.2.keep hfk (.inr fun r hr hbt => by rw [putM_same]; exact and_eq hc hbt))
                  rw [hc] at HCO
                  generalize (v ||| wmV (wx z)) = oa at *
                  generalize putM m z v f = ma at *
                  generalize wmV (wx z) = wa at *
                  clear hjl hjl' hmem hf hfk hfn hlm hlw hlo hc hrl HAD hfb
                  go_wp2
                  go_quiet ((go_at_call 134; with_reducible exact quiet_same (HCO.out _)))
                  go_wp2
                  go_roundw
                  case rel => exact ⟨j + 1, R, V', HJL.out, by go_num, HJ.out.1.drewN _, HNX.out⟩
                  case measure => first | exact step_down HJL.out hadj | exact step_down2 HJL.out
                · have HNX : Hid (∀ R6, (((f : Int) ∈ R ∧ R6 = R) ∨ ((f : Int) ∉ R ∧ R6.Perm (R ++ [(f : Int)]))) → Mid n p nx wx m ys z v (j + 1) R6) := Lib.hid (fun R6 hr => by
                    rcases hr with ⟨h1, rfl⟩ | ⟨h1, h3⟩
                    · exact HJ.out.2.keep hfk (.inl h1)
                    · obtain ⟨r, hr, hb1, hb2⟩ := and_ne hlm hlo hc
                      exact (HJ.out.2.add HF5.out hzl hfk hfn h1 ⟨r, hr, fun hk => by
                        have := hk hb1
                        rw [putM_same, hb2] at this
                        cases this⟩).perm h3)
                  generalize hce : (putM m z v f &&& (v ||| wmV (wx z))) = ce at *
                  generalize (v ||| wmV (wx z)) = oa at *
                  generalize putM m z v f = ma at *
                  generalize wmV (wx z) = wa at *
                  have t1 : ((ce : Int) != (ma : Int)) = true := by simp; omega
                  have t2 : (ce != ma) = true := by simpa using hc
                  clear hjl hjl' hmem hf hfk hfn hlm hlw hlo hc hrl hce hfb
                  go_wp2
                  go_quiet ((go_at_call 134; with_reducible exact quiet_same (HCO.out _)))
                  go_wp2_with (go_at_call 131; (with_reducible refine (HAD.out _).mono ?_); rintro e w6 ⟨rfl, V6, R6, hq, hb6, hr6⟩; have HS6 := Lib.hid ((HJ.out.1.drewN _).queue hq hb6); have HN6 := Lib.hid (HNX.out R6 hr6); clear hq hb6 hr6)
                  go_roundw
                  case rel => exact ⟨j + 1, R6, V6, HJL.out, by go_num, HS6.out, HN6.out⟩
                  case measure => first | exact step_down HJL.out hadj | exact step_down2 HJL.out
              · obtain rfl : j = xl := by omega
                have hd := Mid.done (by rw [← HXL.out]; exact HJ.out.2) HF5.out hzl hvd HVB.out
                have HD := Lib.hid hd
                have HMG := Lib.hid (show meas n (putM m z v) R + 1 ≤ gk from Nat.le_trans hd.2 HM5.out)
                clear hd
                go_wp2
                go_roundg (gk - 1)
                case measure => have := HMG.out; omega
                case rel => exact ⟨putM m z v, V', R, HJ.out.1, HD.out.1, by have := HMG.out; omega⟩
end Go.Proofs.YtfdblmjgpoocpaaGreat

/- (Mask11) The landed Masks. Contract; no condition. -/
namespace Go.Proofs.YtfdblmjgpoocpaaGreat
open Go.RowKit Go.Shelf
set_option linter.unusedVariables false
set_option linter.unusedSimpArgs false

set_option maxRecDepth 100000 in
set_option maxHeartbeats 8000000 in
theorem masks11_any (V : Value) (l : List InsV) (p : Int) (w : World) (h : IsCode w w.heap.size V l) : Calls Tryz.prog 84 #[V, .int .i64 p] w (MasksN w l p l.length) := by
  have HC := Lib.hid h
  obtain ⟨A, cap, rfl⟩ := h.len
  by_cases hp : badP p
  · have HP := Lib.hid hp
    unfold badP at hp
    clear h
    by_cases h1 : p < 0
    · clear hp
      go_enter Tryz.func84, Tryz.ntmps84
      go_wp2
      go_ret2
      exact ⟨Below.refl _ _, .inl ⟨HP.out, rfl⟩⟩
    · have h2 : 8 < p := by omega
      clear hp
      go_enter Tryz.func84, Tryz.ntmps84
      go_wp2
      go_ret2
      exact ⟨Below.refl _ _, .inl ⟨HP.out, rfl⟩⟩
  · have HP := Lib.hid hp
    unfold badP at hp
    have p0 : ¬ p < 0 := by omega
    have p8 : ¬ 8 < p := by omega
    have HNX := Lib.hid (next_any _ l w h)
    by_cases h0 : check10 l = 0
    · have hg := good10 h0
      have HG := Lib.hid hg
      have H0 := Lib.hid h0
      have HN2 := Lib.hid (HNX.out.mono fun e w' hh => And.intro hh.1 (hh.2.resolve_left (fun h => h.1 h0)).2)
      have h4 := short10 h0
      obtain ⟨pn, rfl⟩ : ∃ pn : Nat, p = pn := ⟨p.toNat, by omega⟩
      have hp8 : pn ≤ 8 := by omega
      have HWR := Lib.hid (fun W hc => written11 A l.length cap l W rfl hc hg h4)
      have HBI := Lib.hid (fun W => bit11 pn (by omega) W)
      have HSE := Lib.hid (fun g (Xs : Nat → Value) base wb0 W hl hw => settled11 base g l.length wb0 pn Xs (nextV l) (fun a => wrtV (l.getD a .zero)) W hl hw (fun i hi => (wrt_bd (good_chk hg hi)).2) hg.pos h4 hp8 (fun i hi => hg.next hi) (nextV_two l))
      obtain ⟨e2, he2⟩ : ∃ e2, e2 = 2 ^ pn - 1 := ⟨_, rfl⟩
      have h8 : 2 ^ pn ≤ 2 ^ 8 := Nat.pow_le_pow_right (by decide) hp8
      have h9 : 0 < 2 ^ pn := Nat.two_pow_pos pn
      have e3 : (2 ^ pn : Nat) = e2 + 1 := by omega
      rw [← he2] at HSE
      rw [e3] at HBI
      have e4 : e2 ≤ 256 := by omega
      have HN : Hid (∀ (m : Nat → Nat), Fix l.length pn (nextV l) (fun a => wrtV (l.getD a .zero)) m [] → ∀ i, i < l.length → m i = maskV l pn i) := Lib.hid (fun m hf => Fix.masks hf hg)
      have HPN : Hid (((pn : Nat) : Int).toNat = pn) := Lib.hid (Int.toNat_natCast pn)
      unfold MasksN
      rw [HPN.out]
      generalize hnl : l.length = n at *
      clear h hg h0 HNX hp he2 h8 h9 e3 hnl h4
      go_enter Tryz.func84, Tryz.ntmps84
      go_wp2_with (first
        | (go_at_call 20; (with_reducible refine HN2.out.mono ?_); rintro e w1 ⟨hb, g, Xs, rfl, hl⟩; have HB1 := Lib.hid hb; have HL1 := Lib.hid hl; have HC1 := Lib.hid ((HC.out.below hb (Nat.le_refl _) (Nat.le_refl _)).more hb.size); clear hb hl)
        | (go_at_call 111; (with_reducible refine (HWR.out w1 HC1.out).mono ?_); rintro e w2 ⟨rfl, hm⟩; have HB2 := Lib.hid hm.bel; have HR2 := Lib.hid hm.row; have HL2 : Hid (Lists w.heap.size w2 g n Xs (nextV l)) := Lib.hid ⟨HL1.out.ge, HL1.out.row.below hm.bel HL1.out.row.lt, fun i hi => Owns.below (HL1.out.own i hi) hm.bel (Nat.le_refl _)⟩; clear hm)
        | (go_at_call 85; (with_reducible refine (HBI.out _).mono ?_); rintro e w3 ⟨rfl, rfl⟩)
        | (go_at_call 110; (with_reducible refine (HSE.out g Xs w.heap.size w1.heap.size w2 HL2.out HR2.out).mono ?_); rintro e w4 ⟨mb, m, rfl, hge, hrow, hb, hf⟩; have HB4 := Lib.hid (HB1.out.trans ((HB2.out.trans (hb.mono HB2.out.size)).mono HB1.out.size)); have HGE := Lib.hid (show w.heap.size ≤ mb by have := HB1.out.size; have := HB2.out.size; omega); have HRW := Lib.hid (hrow.congr (mk' := wordsU (maskV l pn)) fun i hi => by unfold wordsU; rw [HN.out m hf i hi]); clear hge hrow hb hf))
      go_ret2
      exact ⟨HB4.out, .inr (.inr ⟨HP.out, H0.out, mb, rfl, HGE.out, HRW.out⟩)⟩
    · have HN2 := Lib.hid (HNX.out.mono fun e w' hh => And.intro hh.1 (hh.2.resolve_right (fun h => h0 h.1)).2)
      have hne : (check10 l != 0) = true := by simpa using h0
      have H0 := Lib.hid h0
      unfold MasksN
      generalize check10 l = z at *
      clear h h0 hp HNX
      go_enter Tryz.func84, Tryz.ntmps84
      go_wp2_with (go_at_call 20; (with_reducible refine HN2.out.mono ?_); rintro e w1 ⟨hb, rfl⟩; have HB1 := Lib.hid hb; clear hb)
      go_ret2
      exact ⟨HB1.out, .inr (.inl ⟨HP.out, H0.out, rfl⟩)⟩
end Go.Proofs.YtfdblmjgpoocpaaGreat

/- (Uns11) The landed Unset. Contract; no condition. -/
namespace Go.Proofs.YtfdblmjgpoocpaaGreat
open Go.RowKit Go.Shelf
set_option linter.unusedVariables false
set_option linter.unusedSimpArgs false

theorem items_len11 (n : Int) (args : List Int) : ∀ (L rs : List Int), (itemsL n args L rs).length ≤ L.length * (args.length + 1) := by
  intro L
  induction L with
  | nil => intro rs; simp [itemsL]
  | cons q qs ih =>
    intro rs
    simp only [itemsL, List.length_append, List.length_map, List.length_cons]
    have h1 := ih (restOf q rs)
    have h2 : (heldOf n args q rs).length ≤ args.length + 1 := by
      unfold heldOf
      split
      · simp
      · split
        · omega
        · simp
    have h3 : (qs.length + 1) * (args.length + 1) = qs.length * (args.length + 1) + (args.length + 1) := by rw [Nat.add_mul]; simp
    omega
theorem items_small11 (op a b c n : Int) {args : List Int} (h : args.length ≤ 8) : (itemsOf (shapeI op) a b c n args).length ≤ 27 := by
  have h1 := items_len11 n args (lettersOf (shapeI op)) [a, b, c]
  have h2 := shapes_small op
  have h3 := letters_len (shapeI op)
  unfold itemsOf
  have h4 : (lettersOf (shapeI op)).length * (args.length + 1) ≤ 3 * 9 := Nat.mul_le_mul (by omega) (by omega)
  omega
theorem and_pow (m r : Nat) : (m &&& 2 ^ r) = if m.testBit r then 2 ^ r else 0 := by
  apply Nat.eq_of_testBit_eq
  intro i
  rw [Nat.testBit_and, Nat.testBit_two_pow]
  by_cases e : r = i
  · subst e
    cases h : m.testBit r <;> simp [h]
  · rw [decide_eq_false e, Bool.and_false]
    split
    · rw [Nat.testBit_two_pow, decide_eq_false e]
    · rw [Nat.zero_testBit]
set_option maxRecDepth 100000 in
set_option maxHeartbeats 16000000 in
theorem unset11_any (V : Value) (l : List InsV) (p : Int) (w : World) (h : IsCode w w.heap.size V l) : Calls Tryz.prog 65 #[V, .int .i64 p] w (UnsetN w l p) := by
  have HC := Lib.hid h
  have HMS := Lib.hid (masks11_any V l p w h)
  obtain ⟨A, cap, rfl⟩ := h.len
  obtain ⟨n, hn⟩ : ∃ n, n = l.length := ⟨_, rfl⟩
  have HN := Lib.hid hn
  rw [← hn] at HC HMS ⊢
  by_cases hp : badP p
  · have HM2 := Lib.hid (HMS.out.mono fun e w' hh => And.intro hh.1 ((hh.2.resolve_right (fun h => by rcases h with h | h <;> exact h.1 hp)).2))
    have HP := Lib.hid hp
    clear h hn hp HMS
    go_enter Tryz.func65, Tryz.ntmps65
    go_wp2_with (go_at_call 84; (with_reducible refine HM2.out.mono ?_); rintro e w1 ⟨hb, rfl⟩; have HB1 := Lib.hid hb; clear hb)
    go_ret3
    exact ⟨HB1.out, .inl ⟨HP.out, rfl⟩⟩
  · have HP := Lib.hid hp
    by_cases h0 : check10 l = 0
    · have hg := good10 h0
      have HM2 := Lib.hid (HMS.out.mono fun e w' hh => And.intro hh.1 (((hh.2.resolve_left (fun h => hp h.1)).resolve_left (fun h => h.2.1 h0)).2.2))
      have H0 := Lib.hid h0
      have HG := Lib.hid hg
      have h4 := short10 h0
      have hsI : (n : Int) ≤ 4096 := by omega
      obtain ⟨pn, hpn⟩ : ∃ pn, pn = p.toNat := ⟨_, rfl⟩
      have HPN := Lib.hid hpn.symm
      rw [← hpn] at HM2
      clear h hn hg h0 HMS hp hpn h4
      go_enter Tryz.func65, Tryz.ntmps65
      go_wp2_with (go_at_call 84; (with_reducible refine HM2.out.mono ?_); rintro e w1 ⟨hb, gb, rfl, hge, hrow⟩; have HB1 := Lib.hid hb; have HR1 := Lib.hid hrow; clear hb hge hrow)
      go_loopw [24] (fun v wr => ∃ a : Nat, a ≤ n ∧ v = .int .i64 a ∧ Hid (Below w1.heap.size w1 wr ∧ SureUpto l pn a)) (fun v _ => n - (intOf v).toNat)
      case atStart => exact ⟨0, by omega, rfl, Below.refl _ _, fun b hb => absurd hb (by omega)⟩
      case round =>
        obtain ⟨a, ha, rfl, HA⟩ := hrel
        obtain ⟨hb, hsu⟩ := HA.out
        have HB := Lib.hid hb
        have HSU := Lib.hid hsu
        have HBW := Lib.hid (HB1.out.trans (hb.mono HB1.out.size))
        clear HA hb hsu
        by_cases hlt : a < n
        · have hal : a < l.length := by rw [← HN.out]; exact hlt
          obtain ⟨cb, co, op, ca, b1, c, n1, args, YA, Yc, hA, hy, hin, hcc⟩ := code_cells HC.out HN.out hlt
          cases hA
          obtain ⟨hX, c0, c1, c2, c3, c4, c5⟩ := hcc wr HBW.out
          have hck := good_chk HG.out hal
          have hbd := rds_bd hck
          have hln := rds_len hck
          have hag := chk_args hck
          rw [hy] at hag
          dsimp only at hag
          have hbox : Below wr.heap.size wr (wr.alloc (.cells (insCells op ca b1 c n1 (.slice YA args.length Yc)) 37)) := (Below.refl _ _).alloc (Nat.le_refl _) _
          have HRD : Hid (Calls Tryz.prog 22 #[.agg (insCells op ca b1 c n1 (.slice YA args.length Yc))] (wr.alloc (.cells (insCells op ca b1 c n1 (.slice YA args.length Yc)) 37)) (ReadsDone (wr.alloc (.cells (insCells op ca b1 c n1 (.slice YA args.length Yc)) 37)) (rdsV (l.getD a .zero)))) := Lib.hid (by
            rw [hy]
            exact reads_any op ca b1 c n1 (.slice YA args.length Yc) args _ ((hX.below hbox (by have := HBW.out.size; omega)).more (by have := hbox.size; have := HBW.out.size; omega)) (by have := items_small11 op ca b1 c n1 hag; omega))
          have HBX := Lib.hid (HB.out.trans (hbox.mono HB.out.size))
          have HBD := Lib.hid hbd
          have HAL := Lib.hid hal
          obtain ⟨xl, hxl⟩ : ∃ xl, xl = (rdsV (l.getD a .zero)).length := ⟨_, rfl⟩
          have HXL := Lib.hid hxl
          have xl3 : (xl : Int) ≤ 11 := by omega
          have k0 : (0 : Int) ≤ (a : Int) := by omega
          have k1 : (a : Int) < (n : Int) := by omega
          have hadd : wrap64 ((a : Int) + 1) = (a : Int) + 1 := by unfold wrap64; omega
          have HLT := Lib.hid hlt
          clear hX hy hin hcc hck hbd hln hag hal hxl hlt hbox
          go_wp2_with (go_at_call 22; (with_reducible refine HRD.out.mono ?_); rintro e w5 ⟨R, rfl, hor, hb⟩; have ho : Owns w5 _ 3 1 (fun _ => True) R (rdsV (l.getD a .zero)).length ((rdsV (l.getD a .zero)).map (Value.int .i64)) := ⟨hor, fun _ _ _ _ _ _ _ _ => trivial⟩; have HB5 := Lib.hid (HBX.out.trans (hb.mono HBX.out.size)); have HR5 := Lib.hid (IsNums.of_owns ho (Nat.le_refl _)); obtain ⟨rA, rc, hre⟩ := owns_len ho; rw [← HXL.out] at hre; subst hre; clear hb ho hor)
          go_loopw [32] (fun v wi => ∃ q : Nat, q ≤ xl ∧ v = .int .i64 q ∧ Hid (Below w5.heap.size w5 wi ∧ ∀ k, k < q → sureB l pn ((rdsV (l.getD a .zero)).getD k 0).toNat a = true)) (fun v _ => xl - (intOf v).toNat)
          case atStart => exact ⟨0, by omega, rfl, Below.refl _ _, fun k hk => absurd hk (by omega)⟩
          case round =>
            obtain ⟨q, hq, rfl, HQ⟩ := hrel
            obtain ⟨hb, hsq⟩ := HQ.out
            have HI := Lib.hid hb
            have HSQ := Lib.hid hsq
            have HI1 := Lib.hid (HB5.out.trans (hb.mono HB5.out.size))
            clear HQ hsq
            by_cases hql : q < xl
            · have q0 : (0 : Int) ≤ (q : Int) := by omega
              have q1 : (q : Int) < (xl : Int) := by omega
              have hadq : wrap64 ((q : Int) + 1) = (q : Int) + 1 := by unfold wrap64; omega
              have hql2 : q < (rdsV (l.getD a .zero)).length := by rw [← HXL.out]; exact hql
              obtain ⟨nb, no, nc, hV, _, _, hnc⟩ := (HR5.out.below hb (Nat.le_refl _)).plain (by rw [← HXL.out]; omega)
              rw [← HXL.out] at hV
              cases hV
              have hx1 := hnc q hql2
              have hmem : (rdsV (l.getD a .zero)).getD q 0 ∈ rdsV (l.getD a .zero) := by
                generalize rdsV (l.getD a .zero) = rs at *
                rw [List.getD, List.getElem?_eq_getElem hql2]
                exact List.getElem_mem hql2
              have hxb := HBD.out _ hmem
              have z1 : wr.cell? ⟨gb, a, none⟩ = some (.int .u64 ((maskV l pn a : Nat) : Int)) := (HR1.out.below HI1.out HR1.out.lt).cell HLT.out
              have HUN : Hid (sureB l pn ((rdsV (l.getD a .zero)).getD q 0).toNat a = false → UnsIs l pn (a : Int) ((rdsV (l.getD a .zero)).getD q 0)) := Lib.hid (fun hf => .inr ⟨a, q, HAL.out, hql2, rfl, rfl, HSU.out, HSQ.out, hf⟩)
              have HNX : Hid (sureB l pn ((rdsV (l.getD a .zero)).getD q 0).toNat a = true → ∀ k, k < q + 1 → sureB l pn ((rdsV (l.getD a .zero)).getD k 0).toNat a = true) := Lib.hid (fun ht k hk => by
                by_cases e : k = q
                · subst e; exact ht
                · exact HSQ.out k (by omega))
              generalize (rdsV (l.getD a .zero)).getD q 0 = x at hx1 hxb HUN HNX
              obtain ⟨xn, rfl⟩ : ∃ xn : Nat, x = xn := ⟨x.toNat, by omega⟩
              rw [Int.toNat_natCast] at HUN HNX
              have y0 : (0 : Int) ≤ (xn : Int) := by omega
              have y1 : (xn : Int) < 64 := hxb.2
              have hbt := and_pow (maskV l pn a) xn
              rw [mask_test l pn a (by omega)] at hbt
              have HBI := Lib.hid (fun W => bit11 xn (by omega) W)
              have he64 : 2 ^ xn < 18446744073709551616 := (show 2 ^ xn < 2 ^ 64 from Nat.pow_lt_pow_right (by decide) (by omega))
              have he0 : 0 < 2 ^ xn := Nat.two_pow_pos xn
              have hand := u64_and_nat (maskV l pn a) (2 ^ xn) (maskV_lt l pn a) he64
              rw [hbt] at hand
              generalize maskV l pn a = mk at *
              generalize 2 ^ xn = e2 at *
              have HQL := Lib.hid hql
              clear hnc hmem hxb hb hql2 he64 hbt hql
              cases hsb : sureB l pn xn a with
              | true =>
                rw [hsb, if_pos rfl] at hand
                have HSN := Lib.hid (HNX.out hsb)
                have e1 : ((e2 : Int) == 0) = false := by simp; omega
                have e3 : (e2 == 0) = false := by simp; omega
                have e4 : ¬ (e2 : Int) = 0 := by omega
                have e5 : ¬ e2 = 0 := by omega
                clear hsb he0
                go_wp2
                go_quiet ((go_at_call 85; with_reducible exact quiet_same (HBI.out _)))
                go_wp2
                go_roundw
                case rel => exact ⟨q + 1, HQL.out, by go_num, below_drewN HI.out _, HSN.out⟩
                case measure => first | exact step_down HQL.out hadq | exact step_down2 HQL.out
              | false =>
                rw [hsb, if_neg (by simp)] at hand
                have HSN := Lib.hid (HUN.out hsb)
                clear hsb he0
                go_wp2
                go_quiet ((go_at_call 85; with_reducible exact quiet_same (HBI.out _)))
                go_wp2
                go_ret3
                refine ⟨HB1.out.trans ((below_drewN HI1.out _).mono HB1.out.size), .inr (.inr ⟨HP.out, H0.out, (a : Int), (xn : Int), rfl, ?_⟩)⟩
                rw [HPN.out]
                exact HSN.out
            · obtain rfl : q = xl := by omega
              have HSN : Hid (SureUpto l pn (a + 1)) := Lib.hid (fun b hb x hx => by
                by_cases e : b = a
                · subst e
                  obtain ⟨i, hi, rfl⟩ := List.getElem_of_mem hx
                  have := HSQ.out i (by rw [HXL.out]; exact hi)
                  rw [List.getD, List.getElem?_eq_getElem hi] at this
                  exact this
                · exact HSU.out b (by omega) x hx)
              clear hb
              go_wp2
              go_roundw
              case rel => exact ⟨a + 1, HLT.out, by go_num, HI1.out, HSN.out⟩
              case measure => first | exact step_down HLT.out hadd | exact step_down2 HLT.out
        · obtain rfl : a = n := by omega
          go_wp2
          go_ret3
          refine ⟨HBW.out, .inr (.inr ⟨HP.out, H0.out, -1, -1, rfl, ?_⟩)⟩
          rw [HPN.out]
          exact .inl ⟨rfl, rfl, by rw [← HN.out]; exact HSU.out⟩
    · have HM2 := Lib.hid (HMS.out.mono fun e w' hh => And.intro hh.1 (((hh.2.resolve_left (fun h => hp h.1)).resolve_right (fun h => h0 h.2.1)).2.2))
      have hne : (check10 l != 0) = true := by simpa using h0
      have H0 := Lib.hid h0
      unfold UnsetN
      generalize check10 l = z at *
      clear h hn h0 hp HMS
      go_enter Tryz.func65, Tryz.ntmps65
      go_wp2_with (go_at_call 84; (with_reducible refine HM2.out.mono ?_); rintro e w1 ⟨hb, rfl⟩; have HB1 := Lib.hid hb; clear hb)
      go_ret3
      exact ⟨HB1.out, .inr (.inl ⟨HP.out, H0.out, rfl⟩)⟩
end Go.Proofs.YtfdblmjgpoocpaaGreat
