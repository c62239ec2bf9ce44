/- Lemmas of Math11, Math11B, Math11C, Math11D, Math12, Math12B, Math12C, each with its own remark. -/
import Derived.Test.YtfdblmjgpoocpaaGreatS16
import Derived.Test.YtfdblmjgpoocpaaGreatReads06
import Derived.Laws.BitsAllLaws
import Derived.Test.YtfdblmjgpoocpaaGreatS05
/- (Math11) Registers that an instruction writes and reads, as the document tells them. Plain mathematics. -/
namespace Go.Proofs.YtfdblmjgpoocpaaGreat
set_option linter.unusedVariables false
set_option linter.unusedSimpArgs false

/-- The registers of fields of one letter, in order. -/
def pickR (q : Int) : List Int → List Int → List Int
  | [], _ => []
  | x :: L, rs => if isReg x then (if x = q then rs.headD 0 :: pickR q L rs.tail else pickR q L rs.tail) else pickR q L rs
theorem getD_tail (rs : List Int) (n : Nat) : rs.tail.getD n 0 = rs.getD (n + 1) 0 := by cases rs <;> simp [List.getD]
theorem headD_getD (rs : List Int) : rs.headD 0 = rs.getD 0 0 := by cases rs <;> simp [List.getD]
theorem pick_snoc (q : Int) : ∀ (L rs : List Int) (x : Int), pickR q (L ++ [x]) rs = pickR q L rs ++ (if isReg x = true ∧ x = q then [rs.getD (regN L) 0] else [])
  | [], rs, x => by
    simp only [List.nil_append, pickR, regN, headD_getD]
    by_cases h1 : isReg x = true
    · by_cases h2 : x = q
      · simp [h1, h2]
      · simp [h1, h2]
    · simp [h1]
  | y :: L, rs, x => by
    have ih1 := pick_snoc q L rs.tail x
    have ih2 := pick_snoc q L rs x
    simp only [List.cons_append, pickR, regN]
    by_cases h1 : isReg y = true
    · simp only [h1, if_true]
      rw [ih1, getD_tail, Nat.add_comm 1]
      by_cases h2 : y = q
      · simp [h2]
      · simp [h2]
    · simp only [h1, if_false, Nat.zero_add]
      rw [ih2]
      simp
theorem pick_len (q : Int) : ∀ (L rs : List Int), (pickR q L rs).length ≤ L.length
  | [], _ => by simp [pickR]
  | x :: L, rs => by
    have h1 := pick_len q L rs.tail
    have h2 := pick_len q L rs
    simp only [pickR]
    (repeat' split) <;> simp <;> omega
/-- What an instruction writes, and reads. -/
def wrtV (y : InsV) : Int := firstV 119 (itemsOf (shapeI y.op) y.a y.b y.c y.n y.args)
def rdsV (y : InsV) : List Int := readsV (itemsOf (shapeI y.op) y.a y.b y.c y.n y.args)
theorem first_w (n : Int) (args : List Int) : ∀ (L rs : List Int), firstV 119 (itemsL n args L rs) = (pickR 119 L rs).headD (-1)
  | [], rs => by simp [itemsL, firstV, pickR]
  | x :: L, rs => by
    have h1 := first_w n args L rs.tail
    have h2 := first_w n args L rs
    have hskip : ∀ (xs : List Int) (M : List (Int × Int)), x ≠ 119 → firstV 119 (xs.map (fun z => (x, z)) ++ M) = firstV 119 M := by
      intro xs M hne
      induction xs with
      | nil => rfl
      | cons z xs ih' =>
        unfold firstV at ih' ⊢
        rw [List.map_cons, List.cons_append, List.find?_cons_of_neg (by simpa using hne)]
        exact ih'
    rw [itemsL, pickR]
    by_cases hr : isReg x = true
    · rw [if_pos hr]
      by_cases hx : x = 119
      · rw [if_pos hx]
        unfold heldOf
        rw [if_pos hr]
        subst hx
        simp [firstV]
      · rw [if_neg hx, hskip _ _ hx, ← h1]
        unfold restOf
        rw [if_pos hr]
    · rw [if_neg hr]
      have hx : x ≠ 119 := fun e => hr (by subst e; decide)
      rw [hskip _ _ hx, ← h2]
      unfold restOf
      rw [if_neg hr]
/-- No register is read behind the letter of Args. -/
def lastL : List Int → Bool
  | [] => true
  | x :: L => (if x = 108 then !L.contains 114 && !L.contains 108 else true) && lastL L
theorem reads_app (xs : List Int) (x : Int) (M : List (Int × Int)) : readsV (xs.map (fun z => (x, z)) ++ M) = (if x = 114 ∨ x = 108 then xs else []) ++ readsV M := by
  unfold readsV
  rw [List.filter_append, List.map_append]
  congr 1
  induction xs with
  | nil => simp
  | cons z xs ih =>
    rw [List.map_cons, List.filter_cons]
    by_cases h : x = 114 ∨ x = 108
    · have hb : readB (x, z) = true := by unfold readB; rcases h with h | h <;> simp [h]
      rw [hb, if_pos rfl, List.map_cons, ih, if_pos h]
      rw [if_pos h]
    · have hb : readB (x, z) = false := by
        unfold readB
        simp only [not_or] at h
        simp [h.1, h.2]
      rw [hb]
      simp only [Bool.false_eq_true, if_false]
      rw [ih, if_neg h, if_neg h]
theorem pick_none (L : List Int) (h : L.contains 114 = false) : ∀ rs, pickR 114 L rs = [] := by
  induction L with
  | nil => intro rs; simp [pickR]
  | cons x L ih =>
    intro rs
    simp only [List.contains_cons, Bool.or_eq_false_iff] at h
    have hx : ¬ x = 114 := fun e => by subst e; simp at h
    simp [pickR, hx, ih h.2]
theorem reads_pick (n : Int) (args : List Int) : ∀ (L rs : List Int), lastL L = true → readsV (itemsL n args L rs) = pickR 114 L rs ++ (if L.contains 108 then args else [])
  | [], rs, _ => by simp [itemsL, readsV, pickR]
  | x :: L, rs, h => by
    simp only [lastL, Bool.and_eq_true] at h
    have h1 := reads_pick n args L rs.tail h.2
    have h2 := reads_pick n args L rs h.2
    rw [itemsL, reads_app]
    by_cases hr : isReg x = true
    · have hx8 : ¬ x = 108 := fun e => by subst e; revert hr; decide
      have hc : (x :: L).contains 108 = L.contains 108 := by
        simp only [List.contains_cons]
        have : ((108 : Int) == x) = false := by simpa using fun e => hx8 e.symm
        rw [this, Bool.false_or]
      rw [hc]
      unfold restOf heldOf
      rw [if_pos hr, if_pos hr, h1, pickR, if_pos hr]
      by_cases hx : x = 114
      · rw [if_pos (.inl hx), if_pos hx]
        simp
      · rw [if_neg (by simp [hx, hx8]), if_neg hx]
        simp
    · have hx : ¬ x = 114 := fun e => hr (by subst e; decide)
      unfold restOf
      rw [if_neg hr, h2, pickR, if_neg hr]
      by_cases hx8 : x = 108
      · rw [if_pos hx8] at h
        have h8 := h.1
        simp only [Bool.and_eq_true, Bool.not_eq_true'] at h8
        have hc : (x :: L).contains 108 = true := by subst hx8; simp
        rw [if_pos (.inr hx8), hc, h8.2, pick_none L h8.1]
        unfold heldOf
        rw [if_neg hr, if_pos hx8]
        simp
      · have hc : (x :: L).contains 108 = L.contains 108 := by
          simp only [List.contains_cons]
          have : ((108 : Int) == x) = false := by simpa using fun e => hx8 e.symm
          rw [this, Bool.false_or]
        rw [if_neg (by simp [hx, hx8]), hc]
        simp
theorem shapes_last (op : Int) : lastL (lettersOf (shapeI op)) = true := by
  unfold shapeI
  split
  · rename_i h
    have h2 : shapeL.all (fun s => lastL (lettersOf s)) = true := by kernel_rfl
    have hl : shapeL.length = 33 := by kernel_rfl
    have hk : op.toNat < shapeL.length := by omega
    have e : shapeB op.toNat = shapeL[op.toNat] := by simp [shapeB, List.getD, hk]
    rw [e]
    exact List.all_eq_true.1 h2 _ (List.getElem_mem hk)
  · rfl
theorem wrt_pick (y : InsV) : wrtV y = (pickR 119 (lettersOf (shapeI y.op)) [y.a, y.b, y.c]).headD (-1) := first_w _ _ _ _
theorem rds_pick (y : InsV) : rdsV y = pickR 114 (lettersOf (shapeI y.op)) [y.a, y.b, y.c] ++ (if (lettersOf (shapeI y.op)).contains 108 then y.args else []) := reads_pick _ _ _ _ (shapes_last y.op)
end Go.Proofs.YtfdblmjgpoocpaaGreat

/- (Math11B) Which registers are sure: what is reached without a register's being written; masks; the first register that is read and is not sure. Plain mathematics. -/
namespace Go.Proofs.YtfdblmjgpoocpaaGreat
set_option linter.unusedVariables false
set_option linter.unusedSimpArgs false

/-- What is reached, as a list. -/
def swL (n : Nat) (nx : Nat → List Int) (m : List Bool) : List Bool := (List.range n).map fun i => m.getD i false || (List.range n).any fun a => m.getD a false && (nx a).contains (i : Int)
def itL (n : Nat) (nx : Nat → List Int) : Nat → List Bool
  | 0 => (List.range n).map fun i => decide (i = 0)
  | t + 1 => swL n nx (itL n nx t)
def reachL (n : Nat) (nx : Nat → List Int) : List Bool := itL n nx n
section
variable {n : Nat} {nx : Nat → List Int}
theorem itL_length (t : Nat) : (itL n nx t).length = n := by cases t <;> simp [itL, swL]
theorem itL_out {t i : Nat} (h : (itL n nx t).getD i false = true) : i < n := by
  rcases Nat.lt_or_ge i n with h1 | h1
  · exact h1
  · rw [List.getD, List.getElem?_eq_none (by rw [itL_length]; exact h1)] at h
    cases h
theorem itL_zero {i : Nat} (h : i < n) : (itL n nx 0).getD i false = decide (i = 0) := by simp [itL, List.getD, h]
theorem itL_succ {t i : Nat} (h : i < n) : (itL n nx (t + 1)).getD i false = ((itL n nx t).getD i false || (List.range n).any fun a => (itL n nx t).getD a false && (nx a).contains (i : Int)) := by simp [itL, swL, List.getD, h]
theorem itL_any {t i : Nat} : ((List.range n).any fun a => (itL n nx t).getD a false && (nx a).contains (i : Int)) = true ↔ ∃ a, a < n ∧ (itL n nx t).getD a false = true ∧ (i : Int) ∈ nx a := by
  simp [List.any_eq_true]
theorem itL_sound (hn : 0 < n) : ∀ t i, (itL n nx t).getD i false = true → Rch nx i
  | 0, i, h => by
    rw [itL_zero (itL_out h)] at h
    have : i = 0 := of_decide_eq_true h
    subst this
    exact .zero
  | t + 1, i, h => by
    rw [itL_succ (itL_out h), Bool.or_eq_true] at h
    rcases h with h | h
    · exact itL_sound hn t i h
    · obtain ⟨a, ha, h1, h2⟩ := itL_any.1 h
      exact .step (itL_sound hn t a h1) h2
theorem itL_swp (hb : ∀ i, i < n → ∀ x ∈ nx i, 0 ≤ x ∧ x < n) (t : Nat) : Swp n nx (fun i => (itL n nx t).getD i false) (fun i => (itL n nx (t + 1)).getD i false) n 0 := by
  refine ⟨fun i h => ?_, fun a ha h x hx => ?_, fun _ x hx => by simp at hx, fun hc i hi => ?_⟩
  · show (itL n nx (t + 1)).getD i false = true
    rw [itL_succ (itL_out h), Bool.or_eq_true]
    exact .inl h
  · have hxb := hb a ha x hx
    show (itL n nx (t + 1)).getD x.toNat false = true
    rw [itL_succ (by omega), Bool.or_eq_true]
    exact .inr (itL_any.2 ⟨a, ha, h, by rw [Int.toNat_of_nonneg hxb.1]; exact hx⟩)
  · show (itL n nx (t + 1)).getD i false = (itL n nx t).getD i false
    rw [itL_succ hi]
    cases hh : (itL n nx t).getD i false with
    | true => rfl
    | false =>
      rw [Bool.false_or]
      rw [Bool.eq_false_iff]
      intro hany
      obtain ⟨a, ha, h1, h2⟩ := itL_any.1 hany
      have := hc a ha h1 (i : Int) h2
      rw [Int.toNat_natCast] at this
      have this : (itL n nx t).getD i false = true := this
      rw [this] at hh
      cases hh
theorem itL_clo (hn : 0 < n) (hb : ∀ i, i < n → ∀ x ∈ nx i, 0 ≤ x ∧ x < n) : ∀ t, Clo n nx t (fun i => (itL n nx t).getD i false)
  | 0 => Clo.start hn (by rw [itL_zero hn]; rfl)
  | t + 1 => (itL_clo hn hb t).next (itL_swp hb t) hb
theorem reachL_is (hn : 0 < n) (hb : ∀ i, i < n → ∀ x ∈ nx i, 0 ≤ x ∧ x < n) : IsReach n nx (reachL n nx) := by
  refine ⟨itL_length n, fun i hi => ⟨itL_sound hn n i, fun h => ?_⟩⟩
  have hc := itL_clo hn hb n
  exact (Rch.within hn hb hc.zero hc.done h).2
end
/-- What comes behind an instruction that does not write a register. -/
def nextR (l : List InsV) (r : Int) (a : Nat) : List Int := if wrtV (l.getD a .zero) = r then [] else nextV l a
theorem nextR_bd {l : List InsV} (h : Good10 l) (r : Int) : ∀ i, i < l.length → ∀ x ∈ nextR l r i, 0 ≤ x ∧ x < l.length := by
  intro i hi x hx
  unfold nextR at hx
  split at hx
  · simp at hx
  · exact h.next hi x hx
theorem nextR_two (l : List InsV) (r : Int) (i : Nat) : (nextR l r i).length ≤ 2 := by
  unfold nextR
  split
  · simp
  · exact nxV_len _ _ _
/-- To which instructions there is a way on which a register was not written. -/
def wayL (l : List InsV) (r : Nat) : List Bool := reachL l.length (nextR l r)
theorem wayL_is {l : List InsV} (h : Good10 l) (r : Nat) : IsReach l.length (nextR l r) (wayL l r) := reachL_is h.pos (nextR_bd h r)
def sureB (l : List InsV) (p r i : Nat) : Bool := decide (r < p) || !((wayL l r).getD i false)
/-- A mask's lowest bits. -/
def pmask (l : List InsV) (p i : Nat) : Nat → Nat
  | 0 => 0
  | r + 1 => pmask l p i r + if sureB l p r i then 2 ^ r else 0
def maskV (l : List InsV) (p i : Nat) : Nat := pmask l p i 64
theorem pmask_lt (l : List InsV) (p i : Nat) : ∀ k, pmask l p i k < 2 ^ k
  | 0 => by simp [pmask]
  | k + 1 => by
    have := pmask_lt l p i k
    simp only [pmask, Nat.pow_succ]
    split <;> omega
theorem pmask_bit (l : List InsV) (p i : Nat) : ∀ {k r : Nat}, r < k → pmask l p i k / 2 ^ r % 2 = if sureB l p r i then 1 else 0
  | 0, r, h => absurd h (by omega)
  | k + 1, r, h => by
    have hlt := pmask_lt l p i k
    simp only [pmask]
    rcases Nat.lt_or_ge r k with h1 | h1
    · have ih := pmask_bit l p i h1
      split
      · obtain ⟨d, rfl⟩ : ∃ d, k = r + 1 + d := ⟨k - (r + 1), by omega⟩
        have e : 2 ^ (r + 1 + d) = 2 ^ r * (2 * 2 ^ d) := by rw [Nat.pow_add, Nat.pow_succ]; simp [Nat.mul_assoc]
        rw [e, Nat.add_mul_div_left _ _ (Nat.two_pow_pos r), Nat.add_mod, Nat.mul_mod_right, Nat.add_zero, Nat.mod_mod]
        exact ih
      · exact ih
    · obtain rfl : r = k := by omega
      split
      · rw [Nat.add_div_right _ (Nat.two_pow_pos r), Nat.div_eq_of_lt hlt]
      · rw [Nat.add_zero, Nat.div_eq_of_lt hlt]
theorem maskV_lt (l : List InsV) (p i : Nat) : maskV l p i < 18446744073709551616 := pmask_lt l p i 64
theorem maskV_bit (l : List InsV) (p i : Nat) {r : Nat} (h : r < 64) : maskV l p i / 2 ^ r % 2 = if sureB l p r i then 1 else 0 := pmask_bit l p i h
/-- Two masks of the same bits are the same. -/
theorem bits_uniq : ∀ {k a b : Nat}, a < 2 ^ k → b < 2 ^ k → (∀ r, r < k → a / 2 ^ r % 2 = b / 2 ^ r % 2) → a = b
  | 0, a, b, ha, hb, _ => by simp at ha hb; omega
  | k + 1, a, b, ha, hb, h => by
    have h0 := h 0 (by omega)
    simp at h0
    have ih := bits_uniq (k := k) (a := a / 2) (b := b / 2) (by rw [Nat.pow_succ] at ha; omega) (by rw [Nat.pow_succ] at hb; omega) (fun r hr => by
      have := h (r + 1) (by omega)
      rw [Nat.pow_succ, Nat.mul_comm, ← Nat.div_div_eq_div_mul, ← Nat.div_div_eq_div_mul] at this
      exact this)
    omega
/-- The first register that is read and is not sure. -/
def SureUpto (l : List InsV) (p i : Nat) : Prop := ∀ a, a < i → ∀ x ∈ rdsV (l.getD a .zero), sureB l p x.toNat a = true
def UnsIs (l : List InsV) (p : Nat) (i r : Int) : Prop :=
  (i = -1 ∧ r = -1 ∧ SureUpto l p l.length) ∨
  ∃ a q, a < l.length ∧ q < (rdsV (l.getD a .zero)).length ∧ i = (a : Int) ∧ r = (rdsV (l.getD a .zero)).getD q 0 ∧ SureUpto l p a ∧
    (∀ k, k < q → sureB l p ((rdsV (l.getD a .zero)).getD k 0).toNat a = true) ∧ sureB l p r.toNat a = false
theorem UnsIs.uniq {l : List InsV} {p : Nat} {i r j s : Int} (h : UnsIs l p i r) (k : UnsIs l p j s) : i = j ∧ r = s := by
  have hmem : ∀ (a q : Nat), q < (rdsV (l.getD a .zero)).length → (rdsV (l.getD a .zero)).getD q 0 ∈ rdsV (l.getD a .zero) := fun a q hq => by
    generalize rdsV (l.getD a .zero) = rs at *
    rw [List.getD, List.getElem?_eq_getElem hq]
    exact List.getElem_mem hq
  rcases h with ⟨rfl, rfl, h⟩ | ⟨a, q, ha, hq, rfl, rfl, h1, h2, h3⟩
  · rcases k with ⟨rfl, rfl, _⟩ | ⟨b, t, hb, ht, rfl, rfl, k1, k2, k3⟩
    · exact ⟨rfl, rfl⟩
    · have := h b hb _ (hmem b t ht)
      rw [this] at k3
      cases k3
  · rcases k with ⟨rfl, rfl, k⟩ | ⟨b, t, hb, ht, rfl, rfl, k1, k2, k3⟩
    · have := k a ha _ (hmem a q hq)
      rw [this] at h3
      cases h3
    · have e : a = b := by
        rcases Nat.lt_trichotomy a b with e | e | e
        · have := k1 a e _ (hmem a q hq)
          rw [this] at h3
          cases h3
        · exact e
        · have := h1 b e _ (hmem b t ht)
          rw [this] at k3
          cases k3
      subst e
      have e : q = t := by
        rcases Nat.lt_trichotomy q t with e | e | e
        · have := k2 q e
          rw [this] at h3
          cases h3
        · exact e
        · have := h2 t e
          rw [this] at k3
          cases k3
      subst e
      exact ⟨rfl, rfl⟩
end Go.Proofs.YtfdblmjgpoocpaaGreat

/- (Math11C) Which registers are read and written by instructions that may be. Plain mathematics. -/
namespace Go.Proofs.YtfdblmjgpoocpaaGreat
set_option linter.unusedVariables false
set_option linter.unusedSimpArgs false

theorem chk_fit {y : InsV} (h : y.chk = 0) : (itemsOf (shapeI y.op) y.a y.b y.c y.n y.args).all (fitB 64 4096) = true := by
  unfold InsV.chk checkV at h
  split at h
  · omega
  · split at h
    · omega
    · split at h
      · omega
      · split at h
        · omega
        · split at h
          · omega
          · rename_i h5
            simpa using h5
theorem chk_args {y : InsV} (h : y.chk = 0) : y.args.length ≤ 8 := by
  unfold InsV.chk checkV at h
  split at h
  · omega
  · split at h
    · omega
    · split at h
      · omega
      · split at h
        · omega
        · omega
theorem fit_reg11 {q x : Int} (hq : q = 119 ∨ q = 114 ∨ q = 108) (h : fitB 64 4096 (q, x) = true) : 0 ≤ x ∧ x < 64 := by
  unfold fitB at h
  rw [Bool.and_eq_true] at h
  have h1 := of_decide_eq_true h.1
  rcases hq with rfl | rfl | rfl <;> simp [limV] at h1 <;> omega
theorem rds_bd {y : InsV} (h : y.chk = 0) : ∀ x ∈ rdsV y, 0 ≤ x ∧ x < 64 := by
  intro x hx
  unfold rdsV readsV at hx
  obtain ⟨⟨q, z⟩, hp, rfl⟩ := List.mem_map.1 hx
  obtain ⟨h1, h2⟩ := List.mem_filter.1 hp
  have hf := List.all_eq_true.1 (chk_fit h) _ h1
  have hq : q = 114 ∨ q = 108 := by simpa [readB] using h2
  exact fit_reg11 (.inr hq) hf
theorem wrt_bd {y : InsV} (h : y.chk = 0) : -1 ≤ wrtV y ∧ wrtV y < 64 := by
  unfold wrtV firstV
  cases hf : (itemsOf (shapeI y.op) y.a y.b y.c y.n y.args).find? (fun x => x.1 == 119) with
  | none => simp
  | some p =>
    obtain ⟨q, z⟩ := p
    have h1 := List.mem_of_find?_eq_some hf
    have h2 := List.find?_some hf
    have hq : q = 119 := by simpa using h2
    have hfit := List.all_eq_true.1 (chk_fit h) _ h1
    have := fit_reg11 (.inl hq) hfit
    simp only
    omega
theorem good_chk {l : List InsV} (h : Good10 l) {i : Nat} (hi : i < l.length) : (l.getD i .zero).chk = 0 := first_at l hi (first_all h.join).1
theorem rds_len {y : InsV} (h : y.chk = 0) : (rdsV y).length ≤ 11 := by
  rw [rds_pick, List.length_append]
  have h1 := pick_len 114 (lettersOf (shapeI y.op)) [y.a, y.b, y.c]
  rw [letters_len] at h1
  have h2 := shapes_small y.op
  have h3 := chk_args h
  split
  · omega
  · simp; omega
end Go.Proofs.YtfdblmjgpoocpaaGreat

/- (Math11D) What was written on a way, as a word of bits. Plain mathematics. -/
namespace Go.Proofs.YtfdblmjgpoocpaaGreat
set_option linter.unusedVariables false
set_option linter.unusedSimpArgs false

theorem mask_test (l : List InsV) (p i : Nat) {r : Nat} (h : r < 64) : (maskV l p i).testBit r = sureB l p r i := by
  rw [Nat.testBit_eq_decide_div_mod_eq, maskV_bit l p i h]
  cases sureB l p r i <;> simp
/-- What is known where a way stands. -/
structure WkInv (l : List InsV) (p at' wv : Nat) : Prop where
  lt : at' < l.length
  wd : wv < 18446744073709551616
  un : ∀ r, r < 64 → wv.testBit r = false → ¬ r < p ∧ Rch (nextR l r) at'
theorem WkInv.start {l : List InsV} {p : Nat} (h : Good10 l) (hp : p ≤ 8) : WkInv l p 0 (2 ^ p - 1) := by
  refine ⟨h.pos, ?_, fun r hr hb => ?_⟩
  · have : 2 ^ p ≤ 2 ^ 8 := Nat.pow_le_pow_right (by decide) hp
    omega
  · rw [Nat.testBit_two_pow_sub_one] at hb
    exact ⟨of_decide_eq_false hb, .zero⟩
theorem WkInv.none {l : List InsV} {p at' wv : Nat} (h : WkInv l p at' wv) (hg : Good10 l) : maskV l p at' &&& (18446744073709551615 - wv) = 0 := by
  apply Nat.eq_of_testBit_eq
  intro r
  rw [Nat.testBit_and, Nat.zero_testBit]
  have hm := maskV_lt l p at'
  by_cases hr : r < 64
  · have e : (18446744073709551615 - wv).testBit r = !wv.testBit r := by
      have := Nat.testBit_two_pow_sub_succ (n := 64) (x := wv) h.wd r
      have e2 : 2 ^ 64 - (wv + 1) = 18446744073709551615 - wv := by omega
      rw [e2] at this
      rw [this]
      simp [hr]
    rw [e, mask_test l p at' hr]
    cases hb : wv.testBit r with
    | true => simp
    | false =>
      obtain ⟨h1, h2⟩ := h.un r hr hb
      have hw := ((wayL_is hg r).2 at' h.lt).2 h2
      have : sureB l p r at' = false := by unfold sureB; rw [hw]; simp [h1]
      rw [this]
      rfl
  · have : (maskV l p at').testBit r = false := Nat.testBit_lt_two_pow (Nat.lt_of_lt_of_le hm (show 2 ^ 64 ≤ 2 ^ r from Nat.pow_le_pow_right (by decide) (by omega)))
    rw [this]
    rfl
/-- What an instruction writes is written. -/
def wroteV (wv : Nat) (x : Int) : Nat := if 0 ≤ x then wv ||| 2 ^ x.toNat else wv
theorem wrote_lt {wv : Nat} {x : Int} (h : wv < 18446744073709551616) (hx : x < 64) : wroteV wv x < 18446744073709551616 := by
  unfold wroteV
  split
  · exact Nat.or_lt_two_pow (n := 64) h (Nat.pow_lt_pow_right (by decide) (by omega))
  · exact h
theorem WkInv.step {l : List InsV} {p at' wv : Nat} (h : WkInv l p at' wv) (hg : Good10 l) {b : Nat} (hb : (b : Int) ∈ nextV l at') : WkInv l p b (wroteV wv (wrtV (l.getD at' .zero))) := by
  have hn := hg.next h.lt _ hb
  have hw := wrt_bd (good_chk hg h.lt)
  refine ⟨by omega, wrote_lt h.wd hw.2, fun r hr hf => ?_⟩
  have hne : wv.testBit r = false ∧ wrtV (l.getD at' .zero) ≠ (r : Int) := by
    unfold wroteV at hf
    split at hf
    · rename_i h0
      rw [Nat.testBit_or, Bool.or_eq_false_iff, Nat.testBit_two_pow] at hf
      exact ⟨hf.1, fun e => by have := of_decide_eq_false hf.2; omega⟩
    · exact ⟨hf, fun e => by omega⟩
  obtain ⟨h1, h2⟩ := h.un r hr hne.1
  exact ⟨h1, .step h2 (by unfold nextR; rw [if_neg hne.2]; exact hb)⟩
end Go.Proofs.YtfdblmjgpoocpaaGreat

/- (Math12) Which modules are accepted, and where another one is found wrong. Plain mathematics. -/
namespace Go.Proofs.YtfdblmjgpoocpaaGreat
set_option linter.unusedVariables false
set_option linter.unusedSimpArgs false

/-- The first of so many at which there is something; their number if there is none. -/
def firstI (e : Nat → Int) : Nat → Nat
  | 0 => 0
  | n + 1 => if firstI e n < n then firstI e n else if e n ≠ 0 then n else n + 1
theorem firstI_none {e : Nat → Int} : ∀ {n : Nat}, (∀ j, j < n → e j = 0) → firstI e n = n
  | 0, _ => rfl
  | n + 1, h => by
    unfold firstI
    rw [firstI_none (n := n) (fun j hj => h j (by omega)), if_neg (Nat.lt_irrefl n), if_neg (not_not_intro (h n (by omega)))]
theorem firstI_at {e : Nat → Int} : ∀ {n k : Nat}, (∀ j, j < k → e j = 0) → k < n → e k ≠ 0 → firstI e n = k
  | 0, k, _, h, _ => absurd h (by omega)
  | n + 1, k, h, hk, hne => by
    unfold firstI
    by_cases e1 : k < n
    · rw [firstI_at (n := n) h e1 hne, if_pos e1]
    · obtain rfl : k = n := by omega
      rw [firstI_none (n := k) h, if_neg (Nat.lt_irrefl k), if_pos hne]
theorem firstI_spec {e : Nat → Int} : ∀ {n : Nat}, (firstI e n < n ∧ e (firstI e n) ≠ 0 ∧ ∀ j, j < firstI e n → e j = 0) ∨ (firstI e n = n ∧ ∀ j, j < n → e j = 0)
  | 0 => .inr ⟨rfl, fun j hj => absurd hj (by omega)⟩
  | n + 1 => by
    have ih := firstI_spec (e := e) (n := n)
    unfold firstI
    rcases ih with ⟨h1, h2, h3⟩ | ⟨h1, h2⟩
    · rw [if_pos h1]
      exact .inl ⟨by omega, h2, h3⟩
    · rw [if_neg (by omega)]
      by_cases hn : e n = 0
      · rw [if_neg (not_not_intro hn)]
        exact .inr ⟨rfl, fun j hj => by
          by_cases e1 : j = n
          · subst e1; exact hn
          · exact h2 j (by omega)⟩
      · rw [if_pos hn]
        exact .inl ⟨by omega, hn, h2⟩
theorem firstI_congr {e e' : Nat → Int} : ∀ {n : Nat}, (∀ j, j < n → e j = e' j) → firstI e n = firstI e' n
  | 0, _ => rfl
  | n + 1, h => by
    unfold firstI
    rw [firstI_congr (n := n) (fun j hj => h j (by omega)), h n (by omega)]
/-- What is wrong with an instruction. -/
def insE (m : ModV) (y : InsV) : Int :=
  if y.op = 28 ∧ (m.funcs.length : Int) ≤ y.n then 13
  else if y.op = 28 ∧ (y.args.length : Int) ≠ (m.funcs.getD y.n.toNat .zero).params then 2
  else if y.op = 24 ∧ (m.data.length : Int) < y.n then 5 else 0
/-- Is a register read that is not sure? -/
def unsB (l : List InsV) (p a : Nat) : Bool := (rdsV (l.getD a .zero)).any fun x => !sureB l p x.toNat a
def unsI (l : List InsV) (p : Nat) : Int := if firstI (fun a => if unsB l p a then 1 else 0) l.length < l.length then (firstI (fun a => if unsB l p a then 1 else 0) l.length : Int) else -1
def badI (m : ModV) (l : List InsV) : Nat := firstI (fun a => insE m (l.getD a .zero)) l.length
/-- What is wrong with a function, and at which instruction. -/
def funW (m : ModV) (f : FunV) : Int × Int :=
  if check10 f.code ≠ 0 then (-1, check10 f.code)
  else if badI m f.code < f.code.length then ((badI m f.code : Int), insE m (f.code.getD (badI m f.code) .zero))
  else if 0 ≤ unsI f.code f.params.toNat then (unsI f.code f.params.toNat, 14) else (-1, 0)
def badF (m : ModV) : Nat := firstI (fun k => (funW m (m.funcs.getD k .zero)).2) m.funcs.length
/-- What is found of a module: a function's number, an instruction's, an error. -/
def findM (m : ModV) : Int × Int × Int :=
  if m.err ≠ 0 then (-1, -1, m.err)
  else if 0 < (m.funcs.getD 0 .zero).params then (0, -1, 2)
  else if badF m < m.funcs.length then ((badF m : Int), funW m (m.funcs.getD (badF m) .zero)) else (-1, -1, 0)
theorem uns_yes {l : List InsV} {p a : Nat} : unsB l p a = true ↔ ∃ q, q < (rdsV (l.getD a .zero)).length ∧ sureB l p ((rdsV (l.getD a .zero)).getD q 0).toNat a = false := by
  unfold unsB
  generalize rdsV (l.getD a .zero) = rs
  rw [List.any_eq_true]
  have e : ∀ q (hq : q < rs.length), rs.getD q 0 = rs[q] := fun q hq => by rw [List.getD, List.getElem?_eq_getElem hq]; rfl
  constructor
  · rintro ⟨x, hx, hs⟩
    obtain ⟨q, hq, rfl⟩ := List.getElem_of_mem hx
    exact ⟨q, hq, by rw [e q hq]; simpa using hs⟩
  · rintro ⟨q, hq, hs⟩
    refine ⟨_, List.getElem_mem hq, ?_⟩
    rw [e q hq] at hs
    simpa using hs
theorem uns_no {l : List InsV} {p a : Nat} (h : ∀ x ∈ rdsV (l.getD a .zero), sureB l p x.toNat a = true) : unsB l p a = false := by
  unfold unsB
  rw [List.any_eq_false]
  intro x hx
  rw [h x hx]
  simp
/-- The register found first tells the instruction. -/
theorem UnsIs.fst {l : List InsV} {p : Nat} {i r : Int} (h : UnsIs l p i r) : i = unsI l p := by
  unfold unsI
  rcases h with ⟨rfl, rfl, h⟩ | ⟨a, q, ha, hq, rfl, rfl, h1, h2, h3⟩
  · rw [firstI_none fun j hj => by rw [uns_no (h j hj)]; rfl, if_neg (Nat.lt_irrefl _)]
  · have hat : firstI (fun a => if unsB l p a then (1 : Int) else 0) l.length = a := firstI_at (fun j hj => by rw [uns_no (h1 j hj)]; rfl) ha (by rw [uns_yes.2 ⟨q, hq, h3⟩]; decide)
    rw [hat, if_pos ha]
theorem unsI_bd (l : List InsV) (p : Nat) : -1 ≤ unsI l p ∧ unsI l p < l.length := by unfold unsI; split <;> omega
theorem funW_check {m : ModV} {f : FunV} (h : check10 f.code ≠ 0) : funW m f = (-1, check10 f.code) := by unfold funW; rw [if_pos h]
theorem funW_ins {m : ModV} {f : FunV} {a : Nat} (h : check10 f.code = 0) (h1 : ∀ j, j < a → insE m (f.code.getD j .zero) = 0) (ha : a < f.code.length) (h2 : insE m (f.code.getD a .zero) ≠ 0) : funW m f = ((a : Int), insE m (f.code.getD a .zero)) := by
  have e : badI m f.code = a := firstI_at h1 ha h2
  unfold funW
  rw [if_neg (not_not_intro h), e, if_pos ha]
theorem funW_uns {m : ModV} {f : FunV} (h : check10 f.code = 0) (h1 : ∀ j, j < f.code.length → insE m (f.code.getD j .zero) = 0) : funW m f = if 0 ≤ unsI f.code f.params.toNat then (unsI f.code f.params.toNat, 14) else (-1, 0) := by
  have e : badI m f.code = f.code.length := firstI_none h1
  unfold funW
  rw [if_neg (not_not_intro h), e, if_neg (Nat.lt_irrefl _)]
theorem findM_bad {m : ModV} (h : m.err ≠ 0) : findM m = (-1, -1, m.err) := by unfold findM; rw [if_pos h]
theorem findM_par {m : ModV} (h : m.err = 0) (h1 : 0 < (m.funcs.getD 0 .zero).params) : findM m = (0, -1, 2) := by unfold findM; rw [if_neg (not_not_intro h), if_pos h1]
theorem findM_fun {m : ModV} {k : Nat} (h : m.err = 0) (h1 : ¬ 0 < (m.funcs.getD 0 .zero).params) (h2 : ∀ j, j < k → (funW m (m.funcs.getD j .zero)).2 = 0) (hk : k < m.funcs.length) (h3 : (funW m (m.funcs.getD k .zero)).2 ≠ 0) : findM m = ((k : Int), funW m (m.funcs.getD k .zero)) := by
  have e : badF m = k := firstI_at h2 hk h3
  unfold findM
  rw [if_neg (not_not_intro h), if_neg h1, e, if_pos hk]
theorem findM_ok {m : ModV} (h : m.err = 0) (h1 : ¬ 0 < (m.funcs.getD 0 .zero).params) (h2 : ∀ j, j < m.funcs.length → (funW m (m.funcs.getD j .zero)).2 = 0) : findM m = (-1, -1, 0) := by
  have e : badF m = m.funcs.length := firstI_none h2
  unfold findM
  rw [if_neg (not_not_intro h), if_neg h1, e, if_neg (Nat.lt_irrefl _)]
/-- What holds of an accepted module. -/
structure Acc (m : ModV) : Prop where
  err : m.err = 0
  par : (m.funcs.getD 0 .zero).params ≤ 0
  flow : ∀ k, k < m.funcs.length → check10 (m.funcs.getD k .zero).code = 0
  ins : ∀ k, k < m.funcs.length → ∀ a, a < (m.funcs.getD k .zero).code.length → insE m ((m.funcs.getD k .zero).code.getD a .zero) = 0
  uns : ∀ k, k < m.funcs.length → unsI (m.funcs.getD k .zero).code (m.funcs.getD k .zero).params.toNat = -1
theorem insE_nn (m : ModV) (y : InsV) : insE m y = 0 ∨ insE m y = 13 ∨ insE m y = 2 ∨ insE m y = 5 := by unfold insE; (repeat' split) <;> simp
theorem funW_ok {m : ModV} {f : FunV} : (funW m f).2 = 0 ↔ check10 f.code = 0 ∧ (∀ a, a < f.code.length → insE m (f.code.getD a .zero) = 0) ∧ unsI f.code f.params.toNat = -1 := by
  have hb := unsI_bd f.code f.params.toNat
  by_cases h : check10 f.code = 0
  · rcases firstI_spec (e := fun a => insE m (f.code.getD a .zero)) (n := f.code.length) with ⟨h1, h2, h3⟩ | ⟨h1, h2⟩
    · rw [funW_ins h h3 h1 h2]
      exact ⟨fun hh => absurd hh h2, fun hh => absurd (hh.2.1 _ h1) h2⟩
    · rw [funW_uns h h2]
      split
      · exact ⟨fun hh => absurd hh (show ¬ (14 : Int) = 0 by decide), fun hh => by have := hh.2.2; omega⟩
      · exact ⟨fun _ => ⟨h, h2, by omega⟩, fun _ => rfl⟩
  · rw [funW_check h]
    exact ⟨fun hh => absurd hh h, fun hh => absurd hh.1 h⟩
theorem findM_acc {m : ModV} : (findM m).2.2 = 0 ↔ Acc m := by
  by_cases h : m.err = 0
  · by_cases h1 : 0 < (m.funcs.getD 0 .zero).params
    · rw [findM_par h h1]
      exact ⟨fun hh => absurd hh (by decide), fun hh => by have := hh.par; omega⟩
    · rcases firstI_spec (e := fun k => (funW m (m.funcs.getD k .zero)).2) (n := m.funcs.length) with ⟨h2, h3, h4⟩ | ⟨h2, h3⟩
      · rw [findM_fun h h1 h4 h2 h3]
        exact ⟨fun hh => absurd hh h3, fun hh => absurd (funW_ok.2 ⟨hh.flow _ h2, hh.ins _ h2, hh.uns _ h2⟩) h3⟩
      · rw [findM_ok h h1 h3]
        exact ⟨fun _ => ⟨h, by omega, fun k hk => (funW_ok.1 (h3 k hk)).1, fun k hk => (funW_ok.1 (h3 k hk)).2.1, fun k hk => (funW_ok.1 (h3 k hk)).2.2⟩, fun _ => rfl⟩
  · rw [findM_bad h]
    exact ⟨fun hh => absurd hh h, fun hh => absurd hh.err h⟩
theorem Acc.find {m : ModV} (h : Acc m) : findM m = (-1, -1, 0) :=
  findM_ok h.err (by have := h.par; omega) fun j hj => funW_ok.2 ⟨h.flow j hj, h.ins j hj, h.uns j hj⟩
end Go.Proofs.YtfdblmjgpoocpaaGreat

/- (Math12B) An accepted module in which one call or one data is turned; with more data, and a function more. Plain mathematics. -/
namespace Go.Proofs.YtfdblmjgpoocpaaGreat
set_option linter.unusedVariables false
set_option linter.unusedSimpArgs false

/-- An instruction with another number. -/
def InsV.with (y : InsV) (N : Int) : InsV := ⟨y.op, y.a, y.b, y.c, N, y.args⟩
theorem letters_call : lettersOf (shapeI 28) = [119, 99, 108] := by kernel_rfl
theorem letters_data : lettersOf (shapeI 24) = [119, 100] := by kernel_rfl
/-- A call of, or data at, a place that there may be. -/
def Turns (y : InsV) (N : Int) : Prop := (y.op = 28 ∧ 0 ≤ N ∧ N ≤ 63) ∨ (y.op = 24 ∧ 0 ≤ N ∧ N ≤ 8192)
theorem err_with {y : InsV} {N r a : Int} (ht : Turns y N) (h : y.err r a = 0) : (y.with N).err r a = 0 := by
  obtain ⟨op, ya, yb, yc, yn, args⟩ := y
  unfold InsV.err checkV InsV.with at *
  simp only at *
  rcases ht with ⟨e, h1, h2⟩ | ⟨e, h1, h2⟩
  · simp only at e
    subst e
    unfold itemsOf at *
    rw [letters_call] at *
    have hf : fitB r a (99, N) = true := by unfold fitB limV; simp [h1, h2]
    have hi : ∀ n, itemsL n args [119, 99, 108] [ya, yb, yc] = (119, ya) :: (99, n) :: args.map (fun x => ((108 : Int), x)) := fun n => by simp [itemsL, heldOf, restOf, isReg]
    rw [hi, List.all_cons, List.all_cons] at *
    rw [hf]
    have hb : ∀ n, bareV [119, 99, 108] ya yb yc n args = bareV [119, 99, 108] ya yb yc yn args := fun n => by simp [bareV, hasN, conL, isReg]
    rw [hb]
    split at h
    · omega
    · rename_i c1
      rw [if_neg c1]
      split at h
      · omega
      · rename_i c2
        rw [if_neg c2]
        split at h
        · omega
        · rename_i c3
          rw [if_neg c3]
          split at h
          · omega
          · rename_i c4
            rw [if_neg c4]
            split at h
            · omega
            · rename_i c5
              rw [if_neg]
              intro hc
              apply c5
              revert hc
              cases fitB r a (119, ya) <;> cases (List.map (fun x => ((108 : Int), x)) args).all (fitB r a) <;> simp
  · simp only at e
    subst e
    unfold itemsOf at *
    rw [letters_data] at *
    have hf : fitB r a (100, N) = true := by unfold fitB limV; simp [h1, h2]
    have hi : ∀ n, itemsL n args [119, 100] [ya, yb, yc] = [(119, ya), (100, n)] := fun n => by simp [itemsL, heldOf, restOf, isReg]
    rw [hi, List.all_cons, List.all_cons] at *
    rw [hf]
    have hb : ∀ n, bareV [119, 100] ya yb yc n args = bareV [119, 100] ya yb yc yn args := fun n => by simp [bareV, hasN, conL, isReg]
    rw [hb]
    split at h
    · omega
    · rename_i c1
      rw [if_neg c1]
      split at h
      · omega
      · rename_i c2
        rw [if_neg c2]
        split at h
        · omega
        · rename_i c3
          rw [if_neg c3]
          split at h
          · omega
          · rename_i c4
            rw [if_neg c4]
            split at h
            · omega
            · rename_i c5
              rw [if_neg]
              intro hc
              apply c5
              revert hc
              cases fitB r a (119, ya) <;> simp
theorem chk_with {y : InsV} {N : Int} (ht : Turns y N) (h : y.chk = 0) : (y.with N).chk = 0 := err_with ht h
theorem put_len (n n' : Int) (args : List Int) : ∀ (L rs : List Int), (putL n args L rs).length = (putL n' args L rs).length
  | [], rs => by simp [putL]
  | q :: L, rs => by
    have h1 := put_len n n' args L (restOf q rs)
    simp only [putL, List.length_append, h1]
    congr 1
    unfold heldB
    (repeat' split) <;> simp [bytesV_len]
theorem bytes_with (y : InsV) (N : Int) : (y.with N).bytes.length = y.bytes.length := by
  unfold InsV.bytes
  rw [List.length_append, List.length_append, show (y.with N).letters = y.letters from rfl]
  simp only [InsV.with]
  rw [put_len N y.n y.args]
theorem allB_set : ∀ (l : List InsV) {i : Nat} {y : InsV}, y.bytes.length = (l.getD i .zero).bytes.length → (allB (l.set i y)).length = (allB l).length
  | [], i, y, h => by simp
  | z :: l, 0, y, h => by
    simp only [List.set_cons_zero, allB_cons, List.length_append]
    rw [h]
    rfl
  | z :: l, i + 1, y, h => by
    simp only [List.set_cons_succ, allB_cons, List.length_append]
    rw [allB_set l (by simpa using h)]
theorem places_set : ∀ (l : List InsV) {i p : Nat} {y : InsV}, y.bytes.length = (l.getD i .zero).bytes.length → placesV (l.set i y) p = placesV l p
  | [], i, p, y, h => by simp
  | z :: l, 0, p, y, h => by
    simp only [List.set_cons_zero, placesV]
    rw [h]
    rfl
  | z :: l, i + 1, p, y, h => by
    simp only [List.set_cons_succ, placesV]
    rw [places_set l (by simpa using h)]
theorem firstE_set : ∀ (l : List InsV) {i : Nat} {y : InsV}, firstE l = 0 → y.chk = 0 → firstE (l.set i y) = 0
  | [], i, y, h, _ => by simpa using h
  | z :: l, 0, y, h, hy => by
    simp only [List.set_cons_zero, firstE] at *
    rw [if_pos hy]
    split at h
    · exact h
    · rename_i hz; exact absurd h hz
  | z :: l, i + 1, y, h, hy => by
    simp only [List.set_cons_succ, firstE] at *
    split at h
    · rename_i hz; rw [if_pos hz]; exact firstE_set l h hy
    · rename_i hz; exact absurd h hz
theorem firstC_set {r a : Int} : ∀ (l : List InsV) {i : Nat} {y : InsV}, firstC r a l = 0 → y.err r a = 0 → firstC r a (l.set i y) = 0
  | [], i, y, h, _ => by simpa using h
  | z :: l, 0, y, h, hy => by
    simp only [List.set_cons_zero, firstC] at *
    rw [if_pos hy]
    split at h
    · exact h
    · rename_i hz; exact absurd h hz
  | z :: l, i + 1, y, h, hy => by
    simp only [List.set_cons_succ, firstC] at *
    split at h
    · rename_i hz; rw [if_pos hz]; exact firstC_set l h hy
    · rename_i hz; exact absurd h hz
theorem firstF_set : ∀ (l : List FunV) {i : Nat} {y : FunV}, firstF l = 0 → y.err = 0 → firstF (l.set i y) = 0
  | [], i, y, h, _ => by simpa using h
  | z :: l, 0, y, h, hy => by
    simp only [List.set_cons_zero, firstF] at *
    rw [if_pos hy]
    split at h
    · exact h
    · rename_i hz; exact absurd h hz
  | z :: l, i + 1, y, h, hy => by
    simp only [List.set_cons_succ, firstF] at *
    split at h
    · rename_i hz; rw [if_pos hz]; exact firstF_set l h hy
    · rename_i hz; exact absurd h hz
theorem set_getD {α : Type} (l : List α) (i j : Nat) (y d : α) : (l.set i y).getD j d = if i = j ∧ j < l.length then y else l.getD j d := by
  simp only [List.getD, List.getElem?_set]
  by_cases e : i = j
  · subst e
    by_cases h : i < l.length
    · simp [h]
    · simp [h]
  · simp [e]
theorem tgt_with {y : InsV} {N : Int} (ht : Turns y N) : tgtV (y.with N) = -1 := by
  obtain ⟨op, ya, yb, yc, yn, args⟩ := y
  rcases ht with ⟨e, _⟩ | ⟨e, _⟩
  · simp only at e
    subst e
    rw [tgt_has, if_neg]
    show ¬ 0 < hasV (shapeI 28) tS
    decide +kernel
  · simp only at e
    subst e
    rw [tgt_has, if_neg]
    show ¬ 0 < hasV (shapeI 24) tS
    decide +kernel
/-- Code in which one is turned flows as before. -/
theorem check_with {l : List InsV} {i : Nat} {N : Int} (h : check10 l = 0) (hi : i < l.length) (ht : Turns (l.getD i .zero) N) : check10 (l.set i ((l.getD i .zero).with N)) = 0 := by
  have hg := good10 h
  have hj := hg.join
  have hc : firstE l = 0 := by
    unfold joinE at hj
    split at hj
    · assumption
    · exact hj
  have hck : (l.getD i .zero).chk = 0 := good_chk hg hi
  have hl := bytes_with (l.getD i .zero) N
  have hj' : joinE (l.set i ((l.getD i .zero).with N)) = 0 := by
    unfold joinE at hj ⊢
    rw [if_pos hc] at hj
    rw [if_pos (firstE_set l hc (chk_with ht hck)), allB_set l hl]
    exact hj
  unfold check10 at h ⊢
  rw [if_neg (not_not_intro hj')]
  rw [if_neg (not_not_intro hj)] at h
  rw [List.length_set, if_neg (by omega)]
  rw [if_neg (by omega)] at h
  split at h
  · omega
  · rename_i hs
    rw [if_neg]
    · have hlast : flsV (lastV (l.set i ((l.getD i .zero).with N))) = flsV (lastV l) := by
        unfold lastV
        rw [List.length_set, set_getD]
        split
        · rename_i he
          rw [← he.1]
          rfl
        · rfl
      rw [hlast]
      exact h
    · intro hc2
      apply hs
      rw [places_set l hl] at hc2
      rw [List.any_eq_true] at hc2 ⊢
      obtain ⟨z, hz, hb⟩ := hc2
      rcases List.mem_or_eq_of_mem_set hz with h1 | h1
      · exact ⟨z, h1, hb⟩
      · subst h1
        unfold strayB at hb
        rw [tgt_with ht] at hb
        have := of_decide_eq_true hb
        omega
/-- A function with one instruction turned; a module with one. -/
def FunV.turn (f : FunV) (i : Nat) (N : Int) : FunV := ⟨f.params, f.regs, f.area, f.code.set i ((f.code.getD i .zero).with N)⟩
def ModV.turn (m : ModV) (k i : Nat) (N : Int) : ModV := ⟨m.data, m.funcs.set k ((m.funcs.getD k .zero).turn i N)⟩
theorem turn_par (m : ModV) (k i j : Nat) (N : Int) : ((m.turn k i N).funcs.getD j .zero).params = (m.funcs.getD j .zero).params := by
  unfold ModV.turn
  rw [set_getD]
  split
  · rename_i h; rw [← h.1]; rfl
  · rfl
theorem turn_insE (m : ModV) (k i : Nat) (N : Int) (y : InsV) : insE (m.turn k i N) y = insE m y := by
  unfold insE
  rw [turn_par, show (m.turn k i N).funcs.length = m.funcs.length from List.length_set .., show (m.turn k i N).data = m.data from rfl]
theorem funW_congr {m m' : ModV} (h : ∀ y, insE m' y = insE m y) (f : FunV) : funW m' f = funW m f := by
  have hb : badI m' f.code = badI m f.code := firstI_congr fun j hj => h _
  unfold funW
  rw [hb, h]
theorem fun_err_turn {f : FunV} {i : Nat} {N : Int} (h : f.err = 0) (hi : i < f.code.length) (ht : Turns (f.code.getD i .zero) N) (hck : ∀ y ∈ f.code, y.chk = 0) : (f.turn i N).err = 0 := by
  unfold FunV.err at h ⊢
  split at h
  · rename_i hf
    rw [show (f.turn i N).params = f.params from rfl, show (f.turn i N).regs = f.regs from rfl, show (f.turn i N).area = f.area from rfl, if_pos hf]
    split at h
    · rename_i hj
      have hj2 := hj
      have hc : firstE f.code = 0 := by
        unfold joinE at hj2
        split at hj2
        · assumption
        · exact hj2
      have hmem : f.code.getD i .zero ∈ f.code := by rw [List.getD, List.getElem?_eq_getElem hi]; exact List.getElem_mem hi
      have hj' : joinE (f.turn i N).code = 0 := by
        unfold joinE at hj2 ⊢
        rw [if_pos hc] at hj2
        rw [show (f.turn i N).code = f.code.set i ((f.code.getD i .zero).with N) from rfl, if_pos (firstE_set _ hc (chk_with ht (hck _ hmem))), allB_set _ (bytes_with _ N)]
        exact hj2
      rw [if_pos hj']
      have he : ∀ (l : List InsV), firstC f.regs f.area l = 0 → ∀ y ∈ l, y.err f.regs f.area = 0 := by
        intro l
        induction l with
        | nil => intro _ y hy; simp at hy
        | cons z l ih =>
          intro hl y hy
          simp only [firstC] at hl
          split at hl
          · rename_i hz
            rcases List.mem_cons.1 hy with rfl | hy
            · exact hz
            · exact ih hl y hy
          · rename_i hz; exact absurd hl hz
      exact firstC_set _ h (err_with ht (he _ h _ hmem))
    · rename_i hj; exact absurd h hj
  · omega
theorem mem_err {fs : List FunV} (h : firstF fs = 0) : ∀ f ∈ fs, f.err = 0 := by
  induction fs with
  | nil => intro f hf; simp at hf
  | cons z l ih =>
    intro f hf
    simp only [firstF] at h
    split at h
    · rename_i hz
      rcases List.mem_cons.1 hf with rfl | hf
      · exact hz
      · exact ih h f hf
    · rename_i hz; exact absurd h hz
theorem chk_all {l : List InsV} (h : check10 l = 0) : ∀ y ∈ l, y.chk = 0 := by
  intro y hy
  obtain ⟨i, hi, rfl⟩ := List.getElem_of_mem hy
  have := good_chk (good10 h) hi
  rwa [List.getD, List.getElem?_eq_getElem hi] at this
theorem err_funs {m : ModV} (h : m.err = 0) : ¬ 8192 < m.data.length ∧ someV m.funcs.length = true ∧ firstF m.funcs = 0 := by
  unfold ModV.err at h
  split at h
  · omega
  · rename_i h1
    split at h
    · rename_i h2; exact ⟨h1, h2, h⟩
    · omega
theorem err_of_funs {m : ModV} (h1 : ¬ 8192 < m.data.length) (h2 : someV m.funcs.length = true) (h3 : firstF m.funcs = 0) : m.err = 0 := by
  unfold ModV.err
  rw [if_neg h1, if_pos h2]
  exact h3
/-- One wrong call, or data, is told at its place. -/
theorem turned_find {m : ModV} (h : Acc m) {k i : Nat} {N : Int} (hk : k < m.funcs.length) (hi : i < (m.funcs.getD k .zero).code.length) (ht : Turns ((m.funcs.getD k .zero).code.getD i .zero) N)
    (hne : insE m (((m.funcs.getD k .zero).code.getD i .zero).with N) ≠ 0) : findM (m.turn k i N) = ((k : Int), (i : Int), insE m (((m.funcs.getD k .zero).code.getD i .zero).with N)) := by
  obtain ⟨e1, e2, e3⟩ := err_funs h.err
  have hmem : m.funcs.getD k .zero ∈ m.funcs := by rw [List.getD, List.getElem?_eq_getElem hk]; exact List.getElem_mem hk
  have hlen : (m.turn k i N).funcs.length = m.funcs.length := List.length_set ..
  have herr : (m.turn k i N).err = 0 := err_of_funs e1 (by rw [hlen]; exact e2) (firstF_set _ e3 (fun_err_turn (mem_err e3 _ hmem) hi ht (chk_all (h.flow k hk))))
  have hgk : (m.turn k i N).funcs.getD k .zero = (m.funcs.getD k .zero).turn i N := by unfold ModV.turn; rw [set_getD, if_pos ⟨rfl, hk⟩]
  have hgj : ∀ j, j ≠ k → (m.turn k i N).funcs.getD j .zero = m.funcs.getD j .zero := fun j hj => by unfold ModV.turn; rw [set_getD, if_neg (fun hc => hj hc.1.symm)]
  have hci : ((m.funcs.getD k .zero).turn i N).code.getD i .zero = ((m.funcs.getD k .zero).code.getD i .zero).with N := by unfold FunV.turn; rw [set_getD, if_pos ⟨rfl, hi⟩]
  have hcl : ((m.funcs.getD k .zero).turn i N).code.length = (m.funcs.getD k .zero).code.length := List.length_set ..
  have hfw : funW (m.turn k i N) ((m.funcs.getD k .zero).turn i N) = ((i : Int), insE m (((m.funcs.getD k .zero).code.getD i .zero).with N)) := by
    rw [funW_congr (turn_insE m k i N)]
    have := funW_ins (m := m) (f := (m.funcs.getD k .zero).turn i N) (a := i) (check_with (h.flow k hk) hi ht) (fun j hj => by
      rw [show ((m.funcs.getD k .zero).turn i N).code = (m.funcs.getD k .zero).code.set i (((m.funcs.getD k .zero).code.getD i .zero).with N) from rfl, set_getD, if_neg (fun hc => by omega)]
      exact h.ins k hk j (by omega)) (by rw [hcl]; exact hi) (by rw [hci]; exact hne)
    rw [this, hci]
  have := findM_fun (m := m.turn k i N) (k := k) herr (by rw [turn_par]; have := h.par; omega) (fun j hj => by
    rw [hgj j (by omega), funW_congr (turn_insE m k i N)]
    exact funW_ok.2 ⟨h.flow j (by omega), h.ins j (by omega), h.uns j (by omega)⟩) (by rw [hlen]; exact hk) (by rw [hgk, hfw]; exact hne)
  rw [this, hgk, hfw]
/-- More data, and one of its functions once more. -/
def ModV.more (m : ModV) (more : List Int) (k : Nat) : ModV := ⟨m.data ++ more, m.funcs ++ [m.funcs.getD k .zero]⟩
theorem firstF_app : ∀ {l : List FunV} {y : FunV}, firstF l = 0 → y.err = 0 → firstF (l ++ [y]) = 0
  | [], y, _, hy => by simp [firstF, hy]
  | z :: l, y, h, hy => by
    simp only [List.cons_append, firstF] at *
    split at h
    · rename_i hz; rw [if_pos hz]; exact firstF_app h hy
    · rename_i hz; exact absurd h hz
theorem more_acc {m : ModV} (h : Acc m) {k : Nat} {xs : List Int} (hk : k < m.funcs.length) (hd : m.data.length + xs.length ≤ 8192) (hn : m.funcs.length < 64) (hy : ∀ j, j < m.funcs.length → ∀ a, a < (m.funcs.getD j .zero).code.length → 0 ≤ ((m.funcs.getD j .zero).code.getD a .zero).n ∨ ((m.funcs.getD j .zero).code.getD a .zero).op ≠ 28) : Acc (m.more xs k) := by
  obtain ⟨e1, e2, e3⟩ := err_funs h.err
  have hmem : m.funcs.getD k .zero ∈ m.funcs := by rw [List.getD, List.getElem?_eq_getElem hk]; exact List.getElem_mem hk
  have hlen : (m.more xs k).funcs.length = m.funcs.length + 1 := by simp [ModV.more]
  have hdl : (m.more xs k).data.length = m.data.length + xs.length := by simp [ModV.more]
  have hg : ∀ j, j < m.funcs.length → (m.more xs k).funcs.getD j .zero = m.funcs.getD j .zero := fun j hj => by simp [ModV.more, List.getD, List.getElem?_append_left hj]
  have hg2 : (m.more xs k).funcs.getD m.funcs.length .zero = m.funcs.getD k .zero := by simp [ModV.more, List.getD]
  have hcase : ∀ j, j < m.funcs.length + 1 → ∃ i, i < m.funcs.length ∧ (m.more xs k).funcs.getD j .zero = m.funcs.getD i .zero := fun j hj => by
    by_cases e : j < m.funcs.length
    · exact ⟨j, e, hg j e⟩
    · obtain rfl : j = m.funcs.length := by omega
      exact ⟨k, hk, hg2⟩
  refine ⟨err_of_funs (by rw [hdl]; omega) (by rw [hlen]; unfold someV; exact decide_eq_true (by omega)) (firstF_app e3 (mem_err e3 _ hmem)), by rw [hg 0 (by omega)]; exact h.par, fun j hj => ?_, fun j hj a ha => ?_, fun j hj => ?_⟩
  · rw [hlen] at hj
    obtain ⟨i, hi, he⟩ := hcase j hj
    rw [he]
    exact h.flow i hi
  · rw [hlen] at hj
    obtain ⟨i, hi, he⟩ := hcase j hj
    rw [he] at ha ⊢
    have h0 := h.ins i hi a ha
    have hy0 := hy i hi a ha
    generalize (m.funcs.getD i .zero).code.getD a .zero = y at *
    unfold insE at h0 ⊢
    split at h0
    · omega
    · rename_i c1
      split at h0
      · omega
      · rename_i c2
        split at h0
        · omega
        · rename_i c3
          rw [if_neg (fun hc => c1 ⟨hc.1, by rw [hlen] at hc; omega⟩), if_neg, if_neg (fun hc => c3 ⟨hc.1, by rw [hdl] at hc; omega⟩)]
          intro hc
          apply c2
          refine ⟨hc.1, ?_⟩
          have hlt : y.n.toNat < m.funcs.length := by
            have : ¬ (m.funcs.length : Int) ≤ y.n := fun h => c1 ⟨hc.1, h⟩
            omega
          rw [← hg _ hlt]
          exact hc.2
  · rw [hlen] at hj
    obtain ⟨i, hi, he⟩ := hcase j hj
    rw [he]
    exact h.uns i hi
end Go.Proofs.YtfdblmjgpoocpaaGreat

/- (Math12C) Whoever goes a way through an accepted function. Plain mathematics. -/
namespace Go.Proofs.YtfdblmjgpoocpaaGreat
set_option linter.unusedVariables false
set_option linter.unusedSimpArgs false

theorem uns_all {l : List InsV} {p : Nat} (h : unsI l p = -1) {a : Nat} (ha : a < l.length) : ∀ x ∈ rdsV (l.getD a .zero), sureB l p x.toNat a = true := by
  have hn : firstI (fun a => if unsB l p a then (1 : Int) else 0) l.length = l.length ∧ ∀ j, j < l.length → (if unsB l p j then (1 : Int) else 0) = 0 := by
    rcases firstI_spec (e := fun a => if unsB l p a then (1 : Int) else 0) (n := l.length) with ⟨h1, _⟩ | h1
    · unfold unsI at h
      rw [if_pos h1] at h
      omega
    · exact h1
  intro x hx
  have h2 := hn.2 a ha
  cases hb : unsB l p a with
  | true => rw [hb] at h2; simp at h2
  | false =>
    unfold unsB at hb
    rw [List.any_eq_false] at hb
    have := hb x hx
    simpa using this
/-- What is known where a way stands: which registers have been written. -/
structure HoldAt (l : List InsV) (p at' : Nat) (wr : Nat → Bool) : Prop where
  lt : at' < l.length
  un : ∀ r, r < 64 → wr r = false → ¬ r < p ∧ Rch (nextR l r) at'
theorem HoldAt.start {l : List InsV} {p : Nat} (h : Good10 l) : HoldAt l p 0 (fun r => decide (r < p)) := ⟨h.pos, fun r hr hb => ⟨of_decide_eq_false hb, .zero⟩⟩
theorem HoldAt.read {l : List InsV} {p at' : Nat} {wr : Nat → Bool} (h : HoldAt l p at' wr) (hg : Good10 l) (hu : unsI l p = -1) : ∀ x ∈ rdsV (l.getD at' .zero), wr x.toNat = true := by
  intro x hx
  have hb := rds_bd (good_chk hg h.lt) x hx
  cases hw : wr x.toNat with
  | true => rfl
  | false =>
    obtain ⟨h1, h2⟩ := h.un x.toNat (by omega) hw
    have hs := uns_all hu h.lt x hx
    have hw2 := ((wayL_is hg x.toNat).2 at' h.lt).2 h2
    unfold sureB at hs
    rw [hw2] at hs
    simp [h1] at hs
def wroteB (wr : Nat → Bool) (x : Int) : Nat → Bool := fun r => if x = (r : Int) then true else wr r
theorem HoldAt.step {l : List InsV} {p at' b : Nat} {wr : Nat → Bool} (h : HoldAt l p at' wr) (hg : Good10 l) (hb : (b : Int) ∈ nextV l at') : HoldAt l p b (wroteB wr (wrtV (l.getD at' .zero))) := by
  have hn := hg.next h.lt _ hb
  refine ⟨by omega, fun r hr hf => ?_⟩
  unfold wroteB at hf
  split at hf
  · cases hf
  · rename_i hne
    obtain ⟨h1, h2⟩ := h.un r hr hf
    exact ⟨h1, .step h2 (by unfold nextR; rw [if_neg hne]; exact hb)⟩
/-- What an accepted module says of an instruction of one of its functions. -/
theorem fun_ins {f : FunV} (h : f.err = 0) : framedV f.params f.regs f.area = true ∧ ∀ a, a < f.code.length → (f.code.getD a .zero).err f.regs f.area = 0 := by
  unfold FunV.err at h
  split at h
  · rename_i hf
    split at h
    · refine ⟨hf, ?_⟩
      have he : ∀ (l : List InsV), firstC f.regs f.area l = 0 → ∀ y ∈ l, y.err f.regs f.area = 0 := by
        intro l
        induction l with
        | nil => intro _ y hy; simp at hy
        | cons z l ih =>
          intro hl y hy
          simp only [firstC] at hl
          split at hl
          · rename_i hz
            rcases List.mem_cons.1 hy with rfl | hy
            · exact hz
            · exact ih hl y hy
          · rename_i hz; exact absurd hl hz
      intro a ha
      exact he _ h _ (by rw [List.getD, List.getElem?_eq_getElem ha]; exact List.getElem_mem ha)
    · rename_i hj; exact absurd h hj
  · omega
theorem err_fit {y : InsV} {r a : Int} (h : y.err r a = 0) : (itemsOf (shapeI y.op) y.a y.b y.c y.n y.args).all (fitB r a) = true := by
  unfold InsV.err checkV at h
  (repeat' split at h) <;> first | omega | (rename_i hc; simpa using hc)
theorem fit_reg12 {q x r a : Int} (hq : q = 119 ∨ q = 114 ∨ q = 108) (h : fitB r a (q, x) = true) : 0 ≤ x ∧ x < r := by
  unfold fitB at h
  rw [Bool.and_eq_true] at h
  have h1 := of_decide_eq_true h.1
  rcases hq with rfl | rfl | rfl <;> simp [limV] at h1 <;> omega
theorem rds_regs {y : InsV} {r a : Int} (h : y.err r a = 0) : ∀ x ∈ rdsV y, 0 ≤ x ∧ x < r := by
  intro x hx
  unfold rdsV readsV at hx
  obtain ⟨⟨q, z⟩, hp, rfl⟩ := List.mem_map.1 hx
  obtain ⟨h1, h2⟩ := List.mem_filter.1 hp
  have hf := List.all_eq_true.1 (err_fit h) _ h1
  have hq : q = 114 ∨ q = 108 := by simpa [readB] using h2
  exact fit_reg12 (.inr hq) hf
theorem wrt_regs {y : InsV} {r a : Int} (h : y.err r a = 0) : wrtV y = -1 ∨ (0 ≤ wrtV y ∧ wrtV y < r) := by
  unfold wrtV firstV
  cases hf : (itemsOf (shapeI y.op) y.a y.b y.c y.n y.args).find? (fun x => x.1 == 119) with
  | none => exact .inl rfl
  | some p =>
    obtain ⟨q, z⟩ := p
    have h1 := List.mem_of_find?_eq_some hf
    have h2 := List.find?_some hf
    have hq : q = 119 := by simpa using h2
    have hfit := List.all_eq_true.1 (err_fit h) _ h1
    exact .inr (fit_reg12 (.inl hq) hfit)
/-- The number of a call is none below 0. -/
theorem call_nn {y : InsV} {r a : Int} (h : y.err r a = 0) (ho : y.op = 28) : 0 ≤ y.n ∧ y.n ≤ 63 := by
  have hf := err_fit h
  unfold itemsOf at hf
  rw [ho, letters_call] at hf
  have hi : itemsL y.n y.args [119, 99, 108] [y.a, y.b, y.c] = (119, y.a) :: (99, y.n) :: y.args.map (fun x => ((108 : Int), x)) := by simp [itemsL, heldOf, restOf, isReg]
  rw [hi, List.all_cons, List.all_cons, Bool.and_eq_true, Bool.and_eq_true] at hf
  have h1 := hf.2.1
  unfold fitB limV at h1
  simp at h1
  exact h1
end Go.Proofs.YtfdblmjgpoocpaaGreat
