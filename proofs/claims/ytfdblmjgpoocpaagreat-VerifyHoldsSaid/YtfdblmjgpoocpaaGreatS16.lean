/- Lemmas of Goes10, Math10, RGoes10, Math10B, Labs10, Sort10, Reach10, Math10C, Math10E, each with its own remark. -/
import Derived.Test.YtfdblmjgpoocpaaGreatS09
import Derived.Test.YtfdblmjgpoocpaaGreatS03
import Derived.Test.YtfdblmjgpoocpaaGreatS14
import Derived.Lib.SlicesCompact
import Derived.Sort.AssemblyPlain
import Derived.Maps.Own
import Derived.Maps.OwnSet
import Derived.Maps.Views
import Derived.Laws.MakeOwn
import Derived.Test.YtfdblmjgpoocpaaGreatShelf
import Derived.Sort.OwnSortedInts
/- (Goes10) Whether the next one may follow, the document's own too, and where an instruction goes (the document's own); lists of numbers that are written over. Contracts; no condition but what each names. -/
namespace Go.Proofs.YtfdblmjgpoocpaaGreat
open Go.RowKit Go.Shelf
set_option linter.unusedVariables false
set_option linter.unusedSimpArgs false

/-- May the next one be executed after it? -/
def fallsV (op : Int) : Bool := if op = 25 then false else if op = 29 then false else if op = 32 then false else opB op
theorem falls_any (op a b c n : Int) (X : Value) (w : World) : Calls Tryz.prog 56 #[.agg (insCells op a b c n X)] w (Makes w (.bool (fallsV op))) := by
  have HB := Lib.hid ((Below.refl w.heap.size w).alloc (Nat.le_refl _) (.cells (insCells op a b c n X) 37))

  by_cases h25 : op = 25
  · subst h25
    rw [show fallsV 25 = false from rfl]
    go_enter Tryz.func56, Tryz.ntmps56
    go_wp2
    go_ret
    exact ⟨rfl, HB.out⟩
  by_cases h29 : op = 29
  · subst h29
    rw [show fallsV 29 = false from rfl]
    go_enter Tryz.func56, Tryz.ntmps56
    go_wp2
    go_ret
    exact ⟨rfl, HB.out⟩
  by_cases h32 : op = 32
  · subst h32
    rw [show fallsV 32 = false from rfl]
    go_enter Tryz.func56, Tryz.ntmps56
    go_wp2
    go_ret
    exact ⟨rfl, HB.out⟩
  have hf : fallsV op = opB op := by unfold fallsV; rw [if_neg h25, if_neg h29, if_neg h32]
  have HE := Lib.hid (fun w => exists_any op w)
  have HF := Lib.hid hf
  have e1 : (op == 25) = false := by simpa using h25
  have e2 : (op == 29) = false := by simpa using h29
  have e3 : (op == 32) = false := by simpa using h32
  clear hf h25 h29 h32
  go_enter Tryz.func56, Tryz.ntmps56
  go_wp2_with (go_at_call 36; (with_reducible refine (HE.out _).mono ?_); rintro e w1 ⟨rfl, rfl⟩)
  go_ret
  rw [HF.out]
  exact ⟨rfl, HB.out⟩
def FullI (w : World) (g cap : Nat) : Prop := ∃ cur, w.heap[g]? = some (.cells cur 3 (0, 0)) ∧ cur.size = cap ∧ ∀ v ∈ cur.toList, IsNum .i64 v
theorem FullI.cell {w : World} {g cap k : Nat} (h : FullI w g cap) (hk : k < cap) : ∃ y, w.cell? ⟨g, k, none⟩ = some (.int .i64 y) ∧ w.frozen? ⟨g, k, none⟩ = false := by
  obtain ⟨cur, h1, h2, h3⟩ := h
  have hx : cur[k]? = some cur[k] := Array.getElem?_eq_getElem (by omega)
  obtain ⟨y, hy⟩ := h3 cur[k] (by simp)
  refine ⟨y, ?_, frozen_of_row w g k _ _ h1⟩
  rw [cell_of_row w g k _ _ _ h1, hx, hy]
theorem FullI.set {w : World} {g cap : Nat} (h : FullI w g cap) (k : Nat) {u : Value} (hu : IsNum .i64 u) : FullI (w.setCell ⟨g, k, none⟩ u) g cap := by
  obtain ⟨cur, h1, h2, h3⟩ := h
  refine ⟨_, heap_setCell_same w g k _ _ u h1, by simpa using h2, ?_⟩
  intro x hx
  rw [Array.toList_setIfInBounds] at hx
  rcases List.mem_or_eq_of_mem_set hx with h | h
  · exact h3 x h
  · subst h; exact hu
end Go.Proofs.YtfdblmjgpoocpaaGreat

/- (Math10) Where a function's instructions go: goals, what comes behind, leaders, blocks, what is reached. Plain mathematics. -/
namespace Go.Proofs.YtfdblmjgpoocpaaGreat
set_option linter.unusedVariables false
set_option linter.unusedSimpArgs false

/-- The place that an instruction says; below 0: none. -/
def tgtV (y : InsV) : Int := firstV 116 (itemsOf (shapeI y.op) y.a y.b y.c y.n y.args)
def flsV (y : InsV) : Bool := fallsV y.op
/-- The number of a place among some; below 0: it is none of them. -/
def atV : List Int → Int → Int
  | [], _ => -1
  | p :: ps, t => if p = t then 0 else if atV ps t < 0 then -1 else atV ps t + 1
theorem atV_lb : ∀ (ps : List Int) (t : Int), -1 ≤ atV ps t ∧ atV ps t < ps.length
  | [], t => by simp [atV]
  | p :: ps, t => by
    have := atV_lb ps t
    simp only [atV, List.length_cons]
    split
    · omega
    · split <;> omega
theorem atV_some : ∀ {ps : List Int} {t : Int} {k : Nat}, atV ps t = (k : Int) → k < ps.length ∧ ps.getD k 0 = t
  | [], t, k, h => by simp only [atV] at h; omega
  | p :: ps, t, k, h => by
    simp only [atV] at h
    split at h
    · have : k = 0 := by omega
      subst this
      rename_i hp
      exact ⟨by simp, by simpa using hp⟩
    · split at h
      · omega
      · cases k with
        | zero => omega
        | succ k =>
          have := atV_some (ps := ps) (t := t) (k := k) (by omega)
          simpa using this
theorem atV_none : ∀ {ps : List Int} {t : Int}, atV ps t < 0 → ∀ k, k < ps.length → ps.getD k 0 ≠ t
  | [], t, h, k, hk => by simp at hk
  | p :: ps, t, h, k, hk => by
    simp only [atV] at h
    split at h
    · omega
    · rename_i hp
      have h0 : atV ps t < 0 := by
        split at h
        · assumption
        · omega
      cases k with
      | zero => simpa using hp
      | succ k => simpa using atV_none h0 k (by simpa using hk)
theorem atV_snoc (ps : List Int) (q t : Int) : atV (ps ++ [q]) t = if atV ps t < 0 then (if q = t then (ps.length : Int) else -1) else atV ps t := by
  induction ps with
  | nil => simp [atV]
  | cons p ps ih =>
    simp only [List.cons_append, atV, ih, List.length_cons]
    by_cases h : p = t
    · simp [h]
    · rw [if_neg h, if_neg h]
      by_cases h0 : atV ps t < 0
      · rw [if_pos h0, if_pos h0]
        by_cases hq : q = t
        · simp [hq]; omega
        · simp [hq]
      · rw [if_neg h0, if_neg h0]
        have := atV_lb ps t
        rw [if_neg (by omega)]
/-- Places that rise. -/
theorem places_rise (l : List InsV) {i j : Nat} (hij : i < j) (hj : j < l.length) : (placesV l 0).getD i 0 < (placesV l 0).getD j 0 := by
  rw [placesV_at l 0 (by omega), placesV_at l 0 hj]
  have h : ∀ (a b : Nat), a ≤ b → b ≤ l.length → (allB (l.take a)).length + (b - a) ≤ (allB (l.take b)).length := by
    intro a b hab hb
    induction b with
    | zero =>
      obtain rfl : a = 0 := by omega
      simp
    | succ b ih =>
      rcases Nat.lt_or_ge b a with h1 | h1
      · have : a = b + 1 := by omega
        subst this
        omega
      · have h2 := ih h1 (by omega)
        rw [(all_at (l := l) (i := b) (by omega)).2, List.length_append]
        have := bytes_pos (l.getD b .zero)
        omega
  have := h i j (by omega) (by omega)
  omega
theorem places_inj (l : List InsV) {i j : Nat} (hi : i < l.length) (hj : j < l.length) (h : (placesV l 0).getD i 0 = (placesV l 0).getD j 0) : i = j := by
  rcases Nat.lt_trichotomy i j with h1 | h1 | h1
  · have := places_rise l h1 hj; omega
  · exact h1
  · have := places_rise l h1 hi; omega
theorem places_nat (l : List InsV) {i : Nat} (hi : i < l.length) : 0 ≤ (placesV l 0).getD i 0 := by
  rw [placesV_at l 0 hi]; omega
theorem at_place (l : List InsV) {i : Nat} (hi : i < l.length) : atV (placesV l 0) ((placesV l 0).getD i 0) = i := by
  have hb := atV_lb (placesV l 0) ((placesV l 0).getD i 0)
  rw [placesV_length] at hb
  by_cases h : atV (placesV l 0) ((placesV l 0).getD i 0) < 0
  · exact absurd rfl (atV_none h i (by rw [placesV_length]; exact hi))
  · obtain ⟨k, hk⟩ : ∃ k : Nat, atV (placesV l 0) ((placesV l 0).getD i 0) = k := ⟨_, (Int.toNat_of_nonneg (by omega)).symm⟩
    have := atV_some hk
    rw [placesV_length] at this
    rw [hk, places_inj l this.1 hi this.2]

/-- The number of the instruction at an instruction's target; below 0: it has none. -/
def goalV (ps : List Int) (y : InsV) : Int := if 0 ≤ tgtV y then atV ps (tgtV y) else -1
theorem goal_bd (ps : List Int) (y : InsV) : -1 ≤ goalV ps y ∧ goalV ps y < ps.length := by
  unfold goalV
  split
  · exact atV_lb ps _
  · omega
def goalsV (l : List InsV) : List Int := l.map (goalV (placesV l 0))
def strayB (ps : List Int) (y : InsV) : Bool := decide (0 ≤ tgtV y ∧ atV ps (tgtV y) < 0)
def lastV (l : List InsV) : InsV := l.getD (l.length - 1) .zero
def check10 (l : List InsV) : Int :=
  if joinE l ≠ 0 then joinE l else if l.length = 0 then 10 else if l.any (strayB (placesV l 0)) then 13 else if flsV (lastV l) then 10 else 0
def nxV (f : Bool) (g : Int) (n : Nat) : List Int :=
  if f then (if g < 0 then [(n : Int) + 1] else if (n : Int) + 1 < g then [(n : Int) + 1, g] else if g = (n : Int) + 1 then [(n : Int) + 1] else [g, (n : Int) + 1]) else if g < 0 then [] else [g]
def nextV (l : List InsV) (n : Nat) : List Int := nxV (flsV (l.getD n .zero)) (goalV (placesV l 0) (l.getD n .zero)) n
def nextsV (l : List InsV) : List (List Int) := (List.range l.length).map (nextV l)
theorem nextsV_length (l : List InsV) : (nextsV l).length = l.length := by simp [nextsV]
theorem nextsV_at {l : List InsV} {n : Nat} (h : n < l.length) : (nextsV l).getD n [] = nextV l n := by
  simp [nextsV, List.getD, h]
theorem nxV_mem {f : Bool} {g : Int} {n : Nat} {x : Int} : x ∈ nxV f g n ↔ (f = true ∧ x = (n : Int) + 1) ∨ (0 ≤ g ∧ x = g) := by
  unfold nxV
  cases f with
  | true =>
    rw [if_pos rfl]
    split
    · simp; omega
    · split
      · simp; omega
      · split
        · simp; omega
        · simp; omega
  | false =>
    rw [if_neg (by simp)]
    split
    · simp; omega
    · simp; omega
theorem nxV_rise (f : Bool) (g : Int) (n : Nat) : (nxV f g n).Pairwise (· < ·) := by
  unfold nxV
  split
  · split
    · simp
    · split
      · simp; omega
      · split
        · simp
        · simp; omega
  · split <;> simp
theorem nxV_len (f : Bool) (g : Int) (n : Nat) : (nxV f g n).length ≤ 2 := by
  unfold nxV
  (repeat' split) <;> simp
/-- Code that goes nowhere else. -/
structure Good10 (l : List InsV) : Prop where
  join : joinE l = 0
  pos : 0 < l.length
  goal : ∀ n, n < l.length → 0 ≤ tgtV (l.getD n .zero) → 0 ≤ goalV (placesV l 0) (l.getD n .zero)
  last : flsV (lastV l) = false
theorem good10 {l : List InsV} (h : check10 l = 0) : Good10 l := by
  unfold check10 at h
  split at h
  · rename_i h0; exact absurd h h0
  · rename_i h0
    split at h
    · omega
    · split at h
      · omega
      · rename_i h1 h2
        split at h
        · omega
        · rename_i h3
          refine ⟨by simpa using h0, by omega, fun n hn ht => ?_, by simpa using h3⟩
          have hm : l.getD n .zero ∈ l := by simp [List.getD, List.getElem?_eq_getElem hn]
          have h4 : strayB (placesV l 0) (l.getD n .zero) = false := by
            have := h2
            simp only [List.any_eq_true, not_exists] at this
            have := this (l.getD n .zero)
            have h6 : ¬ strayB (placesV l 0) (l.getD n .zero) = true := fun hc => this ⟨hm, hc⟩
            simpa using h6
          unfold goalV
          rw [if_pos ht]
          unfold strayB at h4
          have := of_decide_eq_false h4
          omega
theorem Good10.check {l : List InsV} (h : Good10 l) : check10 l = 0 := by
  unfold check10
  rw [if_neg (not_not_intro h.join), if_neg (by have := h.pos; omega), if_neg, if_neg (by simp [h.last])]
  intro hc
  obtain ⟨y, hy, hs⟩ := List.any_eq_true.1 hc
  obtain ⟨n, hn, rfl⟩ := List.getElem_of_mem hy
  have e : l.getD n .zero = l[n] := by simp [List.getD, List.getElem?_eq_getElem hn]
  have h1 := h.goal n hn
  rw [e] at h1
  unfold strayB at hs
  have hs := of_decide_eq_true hs
  have := h1 hs.1
  unfold goalV at this
  rw [if_pos hs.1] at this
  omega
section
variable {l : List InsV}
theorem Good10.fall (h : Good10 l) {n : Nat} (hn : n < l.length) (hf : flsV (l.getD n .zero) = true) : n + 1 < l.length := by
  rcases Nat.lt_or_ge (n + 1) l.length with h1 | h1
  · exact h1
  · have : n = l.length - 1 := by omega
    subst this
    have := h.last
    unfold lastV at this
    rw [this] at hf
    cases hf
theorem goal_lt {n : Nat} : goalV (placesV l 0) (l.getD n .zero) < l.length := by
  have := (goal_bd (placesV l 0) (l.getD n .zero)).2
  rwa [placesV_length] at this
theorem Good10.next (h : Good10 l) {n : Nat} (hn : n < l.length) : ∀ x ∈ nextV l n, 0 ≤ x ∧ x < l.length := by
  intro x hx
  rcases nxV_mem.1 hx with ⟨hf, rfl⟩ | ⟨h0, rfl⟩
  · have := h.fall hn hf
    omega
  · exact ⟨h0, goal_lt⟩
/-- What stands at a target. -/
theorem Good10.tgt (h : Good10 l) {n k : Nat} (hn : n < l.length) (hk : k < l.length) : tgtV (l.getD n .zero) = (placesV l 0).getD k 0 ↔ goalV (placesV l 0) (l.getD n .zero) = (k : Int) := by
  constructor
  · intro e
    unfold goalV
    rw [e, if_pos (places_nat l hk), at_place l hk]
  · intro e
    unfold goalV at e
    split at e
    · exact (atV_some e).2.symm
    · omega
theorem Good10.neg (h : Good10 l) {n : Nat} (hn : n < l.length) : goalV (placesV l 0) (l.getD n .zero) < 0 ↔ tgtV (l.getD n .zero) < 0 := by
  constructor
  · intro e
    rcases Int.lt_or_le (tgtV (l.getD n .zero)) 0 with h1 | h1
    · exact h1
    · have := h.goal n hn h1
      omega
  · intro e
    unfold goalV
    rw [if_neg (by omega)]
    omega
end

/-- What is reached. -/
inductive Rch (nx : Nat → List Int) : Nat → Prop
  | zero : Rch nx 0
  | step {a b : Nat} : Rch nx a → (b : Int) ∈ nx a → Rch nx b
def IsReach (n : Nat) (nx : Nat → List Int) (r : List Bool) : Prop := r.length = n ∧ ∀ i, i < n → (r.getD i false = true ↔ Rch nx i)
theorem IsReach.uniq {n : Nat} {nx : Nat → List Int} {r s : List Bool} (h : IsReach n nx r) (k : IsReach n nx s) : r = s := by
  apply List.ext_getElem (by rw [h.1, k.1])
  intro i h1 h2
  have e1 := h.2 i (by rw [← h.1]; exact h1)
  have e2 := k.2 i (by rw [← h.1]; exact h1)
  simp only [List.getD, List.getElem?_eq_getElem h1, List.getElem?_eq_getElem h2, Option.getD_some] at e1 e2
  rw [Bool.eq_iff_iff, e1, e2]
/-- A set that has the first one and what comes behind each of its own. -/
def Closed (n : Nat) (nx : Nat → List Int) (r : Nat → Bool) : Prop := ∀ i, i < n → r i = true → ∀ x ∈ nx i, r x.toNat = true
theorem Rch.within {n : Nat} {nx : Nat → List Int} {r : Nat → Bool} (hn : 0 < n) (hb : ∀ i, i < n → ∀ x ∈ nx i, 0 ≤ x ∧ x < n) (h0 : r 0 = true) (hc : Closed n nx r) : ∀ {i : Nat}, Rch nx i → i < n ∧ r i = true := by
  intro i hi
  induction hi with
  | zero => exact ⟨hn, h0⟩
  | step h1 h2 ih =>
    have := hb _ ih.1 _ h2
    have h3 := hc _ ih.1 ih.2 _ h2
    exact ⟨by omega, by simpa using h3⟩
end Go.Proofs.YtfdblmjgpoocpaaGreat

/- (RGoes10) Where an instruction goes, by the document's own way. Contracts; no condition. -/
namespace Go.Proofs.YtfdblmjgpoocpaaGreat
open Go.RowKit Go.Shelf
set_option linter.unusedVariables false
set_option linter.unusedSimpArgs false

def tS : ByteArray := ⟨#[116]⟩
theorem first_t {n : Int} {args : List Int} : ∀ (L rs : List Int), firstV 116 (itemsL n args L rs) = if 116 ∈ L then n else -1
  | [], rs => by simp [itemsL, firstV]
  | q :: L, rs => by
    have ih := first_t (n := n) (args := args) L (restOf q rs)
    have hq : ∀ (xs : List Int) (M : List (Int × Int)), q ≠ 116 → firstV 116 (xs.map (fun x => (q, x)) ++ M) = firstV 116 M := by
      intro xs M hne
      induction xs with
      | nil => rfl
      | cons x xs ih' =>
        unfold firstV at ih' ⊢
        rw [List.map_cons, List.cons_append, List.find?_cons_of_neg (by simpa using hne)]
        exact ih'
    rw [itemsL]
    by_cases h : q = 116
    · subst h
      have : heldOf n args 116 rs = [n] := by simp [heldOf, show isReg 116 = false from by decide]
      rw [this]
      simp [firstV]
    · rw [hq _ _ h, ih]
      simp only [List.mem_cons, show (116 = q) = False from by simpa using (fun e => h e.symm : ¬ 116 = q), false_or]
theorem count_mem (L : List Int) : (0 < hasL L [116]) ↔ 116 ∈ L := by
  induction L with
  | nil => simp [hasL]
  | cons q L ih =>
    have : hasL (q :: L) [116] = [116].count q + hasL L [116] := by simp [hasL]
    rw [this, List.mem_cons, ← ih]
    by_cases h : q = 116
    · subst h; simp; omega
    · have : ([116] : List Int).count q = 0 := by
        rw [List.count_eq_zero]
        simpa using h
      rw [this]
      simp
      omega
theorem tgt_has (y : InsV) : tgtV y = if 0 < hasV (shapeI y.op) tS then y.n else -1 := by
  unfold tgtV itemsOf
  rw [first_t]
  have e : lettersOf tS = [116] := by decide
  unfold hasV
  rw [e]
  by_cases h : 116 ∈ lettersOf (shapeI y.op)
  · rw [if_pos h, if_pos ((count_mem _).2 h)]
  · rw [if_neg h, if_neg (fun hc => h ((count_mem _).1 hc))]
theorem shape_small (op : Int) : (shapeI op).size ≤ 100 := by
  unfold shapeI
  split
  · rename_i h
    have : ∀ k, k < 33 → (shapeB k).size ≤ 100 := by decide +kernel
    exact this _ (by omega)
  · decide
theorem rtarget_any (op a b c n : Int) (X : Value) (args : List Int) (w : World) :
    Calls Tryz.prog 69 #[.agg (insCells op a b c n X)] w (Makes w (.int .i64 (tgtV ⟨op, a, b, c, n, args⟩))) := by
  have HB := Lib.hid ((Below.refl w.heap.size w).alloc (Nat.le_refl _) (.cells (insCells op a b c n X) 37))
  have HH := Lib.hid (fun w => has_any (shapeI op) tS w (shape_small op) (by decide))
  have HT := Lib.hid (tgt_has ⟨op, a, b, c, n, args⟩)
  dsimp only at HT
  unfold tS at HH
  generalize hhv : hasV (shapeI op) ⟨#[116]⟩ = hv at *
  generalize tgtV ⟨op, a, b, c, n, args⟩ = tv at *
  by_cases h : 0 < hv
  · have hp : (0 : Int) < (hv : Int) := by omega
    have HE : Hid (tv = n) := Lib.hid (by have := HT.out; unfold tS at this; rw [hhv, if_pos h] at this; exact this)
    clear h hhv HT
    go_enter Tryz.func69, Tryz.ntmps69
    go_wp2_with (first
      | (go_at_call 90; (with_reducible refine (rshape_any op _).mono ?_); rintro e w1 ⟨rfl, rfl⟩)
      | (go_at_call 93; (with_reducible refine (HH.out _).mono ?_); rintro e w1 ⟨rfl, k, rfl⟩))
    go_ret
    rw [HE.out]
    exact ⟨rfl, below_drewN HB.out _⟩
  · have hp : ¬ (0 : Int) < (hv : Int) := by omega
    have HE : Hid (tv = -1) := Lib.hid (by have := HT.out; unfold tS at this; rw [hhv, if_neg h] at this; exact this)
    clear h hhv HT
    go_enter Tryz.func69, Tryz.ntmps69
    go_wp2_with (first
      | (go_at_call 90; (with_reducible refine (rshape_any op _).mono ?_); rintro e w1 ⟨rfl, rfl⟩)
      | (go_at_call 93; (with_reducible refine (HH.out _).mono ?_); rintro e w1 ⟨rfl, k, rfl⟩))
    go_ret
    rw [HE.out]
    exact ⟨rfl, below_drewN HB.out _⟩
theorem rfalls_any (op a b c n : Int) (X : Value) (w : World) : Calls Tryz.prog 71 #[.agg (insCells op a b c n X)] w (Makes w (.bool (fallsV op))) := by
  have HB := Lib.hid ((Below.refl w.heap.size w).alloc (Nat.le_refl _) (.cells (insCells op a b c n X) 37))
  have HI := Lib.hid (fun w => ris_any op w)
  by_cases h25 : op = 25
  · subst h25
    rw [show fallsV 25 = false from rfl]
    have ho : opB 25 = true := by decide
    rw [ho] at HI
    go_enter Tryz.func71, Tryz.ntmps71
    go_wp2_with (go_at_call 87; (with_reducible refine (HI.out _).mono ?_); rintro e w1 ⟨rfl, rfl⟩)
    go_ret
    exact ⟨rfl, HB.out⟩
  by_cases h29 : op = 29
  · subst h29
    rw [show fallsV 29 = false from rfl]
    have ho : opB 29 = true := by decide
    rw [ho] at HI
    go_enter Tryz.func71, Tryz.ntmps71
    go_wp2_with (go_at_call 87; (with_reducible refine (HI.out _).mono ?_); rintro e w1 ⟨rfl, rfl⟩)
    go_ret
    exact ⟨rfl, HB.out⟩
  by_cases h32 : op = 32
  · subst h32
    rw [show fallsV 32 = false from rfl]
    have ho : opB 32 = true := by decide
    rw [ho] at HI
    go_enter Tryz.func71, Tryz.ntmps71
    go_wp2_with (go_at_call 87; (with_reducible refine (HI.out _).mono ?_); rintro e w1 ⟨rfl, rfl⟩)
    go_ret
    exact ⟨rfl, HB.out⟩
  have hf : fallsV op = opB op := by unfold fallsV; rw [if_neg h25, if_neg h29, if_neg h32]
  have HF := Lib.hid hf
  have e1 : (op == 25) = false := by simpa using h25
  have e2 : (op == 29) = false := by simpa using h29
  have e3 : (op == 32) = false := by simpa using h32
  have n1 : (op != 25) = true := by simpa using h25
  have n2 : (op != 29) = true := by simpa using h29
  have n3 : (op != 32) = true := by simpa using h32
  clear hf h25 h29 h32
  cases ho : opB op with
  | true =>
    rw [ho] at HF HI
    go_enter Tryz.func71, Tryz.ntmps71
    go_wp2_with (go_at_call 87; (with_reducible refine (HI.out _).mono ?_); rintro e w1 ⟨rfl, rfl⟩)
    go_ret
    rw [HF.out]
    exact ⟨rfl, HB.out⟩
  | false =>
    rw [ho] at HF HI
    go_enter Tryz.func71, Tryz.ntmps71
    go_wp2_with (go_at_call 87; (with_reducible refine (HI.out _).mono ?_); rintro e w1 ⟨rfl, rfl⟩)
    go_ret
    rw [HF.out]
    exact ⟨rfl, HB.out⟩
end Go.Proofs.YtfdblmjgpoocpaaGreat

/- (Math10B) Leaders and blocks; what is sorted and compacted. Plain mathematics. -/
namespace Go.Proofs.YtfdblmjgpoocpaaGreat
set_option linter.unusedVariables false
set_option linter.unusedSimpArgs false

def sortV (zs : List Int) : List Int := zs.mergeSort fun x y => decide (x ≤ y)
theorem sort_perm (zs : List Int) : (sortV zs).Perm zs := List.mergeSort_perm zs _
theorem sort_length (zs : List Int) : (sortV zs).length = zs.length := (sort_perm zs).length_eq
theorem sort_rise (zs : List Int) : (sortV zs).Pairwise (· ≤ ·) := by
  have h := List.pairwise_mergeSort (le := fun (x y : Int) => decide (x ≤ y)) (fun a b c h1 h2 => by simp at *; omega) (fun a b => by simp; omega) zs
  exact h.imp (fun h => by simpa using h)
theorem up_to {d : Array Int} (h : ∀ i j, i ≤ j → j < d.size → d[i]! ≤ d[j]!) : ∀ m, m ≤ d.size → (Lib.compactUpTo d m).Pairwise (· < ·) ∧ ∀ x, x ∈ Lib.compactUpTo d m ↔ ∃ j, j < m ∧ d[j]! = x
  | 0, _ => by simp [Lib.compactUpTo]
  | m + 1, hm => by
    obtain ⟨h1, h2⟩ := up_to h m (by omega)
    rw [Lib.compactUpTo_succ]
    by_cases hk : Lib.keeps d m = true
    · rw [if_pos hk]
      have hk' : m = 0 ∨ d[m]! ≠ d[m - 1]! := by simpa [Lib.keeps] using hk
      refine ⟨List.pairwise_append.2 ⟨h1, by simp, fun a ha b hb => ?_⟩, fun x => ?_⟩
      · obtain ⟨j, hj, rfl⟩ := (h2 a).1 ha
        simp only [List.mem_singleton] at hb
        subst hb
        rcases hk' with h0 | h0
        · omega
        · have := h j (m - 1) (by omega) (by omega)
          have := h (m - 1) m (by omega) (by omega)
          omega
      · rw [List.mem_append, h2, List.mem_singleton]
        constructor
        · rintro (⟨j, hj, rfl⟩ | rfl)
          · exact ⟨j, by omega, rfl⟩
          · exact ⟨m, by omega, rfl⟩
        · rintro ⟨j, hj, rfl⟩
          rcases Nat.lt_or_ge j m with h3 | h3
          · exact .inl ⟨j, h3, rfl⟩
          · have : j = m := by omega
            subst this
            exact .inr rfl
    · rw [if_neg hk]
      have hk' : ¬ (m = 0 ∨ d[m]! ≠ d[m - 1]!) := by simpa [Lib.keeps] using hk
      have hm0 : m ≠ 0 := fun e => hk' (.inl e)
      have he : d[m]! = d[m - 1]! := Classical.byContradiction fun e => hk' (.inr e)
      refine ⟨by simpa using h1, fun x => ?_⟩
      rw [List.append_nil, h2]
      constructor
      · rintro ⟨j, hj, rfl⟩
        exact ⟨j, by omega, rfl⟩
      · rintro ⟨j, hj, rfl⟩
        rcases Nat.lt_or_ge j m with h3 | h3
        · exact ⟨j, h3, rfl⟩
        · have : j = m := by omega
          subst this
          exact ⟨j - 1, by omega, he.symm⟩
theorem compact_rise {zs : List Int} (h : zs.Pairwise (· ≤ ·)) : (Lib.compact zs).Pairwise (· < ·) ∧ ∀ x, x ∈ Lib.compact zs ↔ x ∈ zs := by
  have h' : ∀ i j, i ≤ j → j < zs.toArray.size → zs.toArray[i]! ≤ zs.toArray[j]! := by
    intro i j hij hj
    have hj' : j < zs.length := by simpa using hj
    rw [getElem!_pos zs.toArray i (by simp; omega), getElem!_pos zs.toArray j hj]
    simp only [List.getElem_toArray]
    rcases Nat.lt_or_ge i j with h1 | h1
    · exact List.pairwise_iff_getElem.1 h i j (by omega) hj' h1
    · have : i = j := by omega
      subst this
      exact Int.le_refl _
  obtain ⟨h1, h2⟩ := up_to h' zs.length (by simp)
  refine ⟨h1, fun x => (h2 x).trans ?_⟩
  constructor
  · rintro ⟨j, hj, rfl⟩
    rw [getElem!_pos zs.toArray j (by simpa using hj)]
    simp
  · intro hx
    obtain ⟨j, hj, rfl⟩ := List.getElem_of_mem hx
    exact ⟨j, hj, by rw [getElem!_pos zs.toArray j (by simpa using hj)]; simp⟩
/-- Two lists that rise and have the same members are the same. -/
theorem rise_uniq : ∀ {xs ys : List Int}, xs.Pairwise (· < ·) → ys.Pairwise (· < ·) → (∀ x, x ∈ xs ↔ x ∈ ys) → xs = ys
  | [], [], _, _, _ => rfl
  | [], y :: ys, _, _, h => absurd ((h y).2 (by simp)) (by simp)
  | x :: xs, [], _, _, h => absurd ((h x).1 (by simp)) (by simp)
  | x :: xs, y :: ys, hx, hy, h => by
    rw [List.pairwise_cons] at hx hy
    have e : x = y := by
      have h1 := (h x).1 (by simp)
      have h2 := (h y).2 (by simp)
      simp only [List.mem_cons] at h1 h2
      rcases h1 with h1 | h1
      · exact h1
      · rcases h2 with h2 | h2
        · exact h2.symm
        · have := hx.1 _ h2
          have := hy.1 _ h1
          omega
    subst e
    rw [rise_uniq hx.2 hy.2 fun z => ?_]
    have h1 := h z
    simp only [List.mem_cons] at h1
    constructor
    · intro hz
      rcases h1.1 (.inr hz) with rfl | h2
      · have := hx.1 _ hz; omega
      · exact h2
    · intro hz
      rcases h1.2 (.inr hz) with rfl | h2
      · have := hy.1 _ hz; omega
      · exact h2
def tidyV (zs : List Int) : List Int := Lib.compact (sortV zs)
theorem tidy_rise (zs : List Int) : (tidyV zs).Pairwise (· < ·) := (compact_rise (sort_rise zs)).1
theorem tidy_mem (zs : List Int) (x : Int) : x ∈ tidyV zs ↔ x ∈ zs := by
  rw [tidyV, (compact_rise (sort_rise zs)).2, (sort_perm zs).mem_iff]
theorem compact_length (zs : List Int) : (Lib.compact zs).length ≤ zs.length := by
  have h : ∀ (d : Array Int) m, (Lib.compactUpTo d m).length ≤ m := by
    intro d m
    induction m with
    | zero => simp [Lib.compactUpTo]
    | succ m ih =>
      rw [Lib.compactUpTo_succ, List.length_append]
      split <;> simp <;> omega
  exact h _ _
def rawN (f : Bool) (g : Int) (n : Nat) : List Int := (if f then [(n : Int) + 1] else []) ++ (if 0 ≤ g then [g] else [])
theorem tidy_next (f : Bool) (g : Int) (n : Nat) : tidyV (rawN f g n) = nxV f g n := by
  refine rise_uniq (tidy_rise _) (nxV_rise f g n) fun x => ?_
  rw [tidy_mem, nxV_mem]
  unfold rawN
  rw [List.mem_append]
  cases f <;> (by_cases h : 0 ≤ g <;> simp [h])

/-- Is an instruction a leader? -/
def leadB (l : List InsV) (i : Nat) : Bool :=
  decide (i = 0) || (List.range l.length).any fun n => decide (goalV (placesV l 0) (l.getD n .zero) = (i : Int)) || ((decide (0 ≤ goalV (placesV l 0) (l.getD n .zero)) || !flsV (l.getD n .zero)) && decide (i = n + 1))
theorem lead_iff {l : List InsV} {i : Nat} : leadB l i = true ↔ i = 0 ∨ ∃ n, n < l.length ∧ (goalV (placesV l 0) (l.getD n .zero) = (i : Int) ∨ ((0 ≤ goalV (placesV l 0) (l.getD n .zero) ∨ flsV (l.getD n .zero) = false) ∧ i = n + 1)) := by
  simp [leadB]
def leadersV (l : List InsV) : List Nat := (List.range l.length).filter (leadB l)
def leadI (l : List InsV) : List Int := (leadersV l).map fun i : Nat => (i : Int)
theorem leaders_rise (l : List InsV) : (leadersV l).Pairwise (· < ·) := (List.pairwise_lt_range (n := l.length)).filter _
theorem leadI_rise (l : List InsV) : (leadI l).Pairwise (· < ·) := by
  unfold leadI
  rw [List.pairwise_map]
  exact (leaders_rise l).imp fun h => by omega
theorem leaders_mem {l : List InsV} {i : Nat} : i ∈ leadersV l ↔ i < l.length ∧ leadB l i = true := by simp [leadersV]
theorem leadI_mem {l : List InsV} {x : Int} : x ∈ leadI l ↔ ∃ i : Nat, x = i ∧ i < l.length ∧ leadB l i = true := by
  unfold leadI
  rw [List.mem_map]
  constructor
  · rintro ⟨i, hi, rfl⟩
    exact ⟨i, rfl, leaders_mem.1 hi⟩
  · rintro ⟨i, rfl, hi⟩
    exact ⟨i, leaders_mem.2 hi, rfl⟩
def rawL1 (l : List InsV) (n : Nat) : List Int :=
  (if 0 ≤ goalV (placesV l 0) (l.getD n .zero) then [goalV (placesV l 0) (l.getD n .zero)] else []) ++
  (if (0 ≤ goalV (placesV l 0) (l.getD n .zero) ∨ flsV (l.getD n .zero) = false) ∧ n + 1 < l.length then [(n : Int) + 1] else [])
def rawL (l : List InsV) (k : Nat) : List Int := 0 :: (List.range k).flatMap (rawL1 l)
theorem rawL_succ (l : List InsV) (k : Nat) : rawL l (k + 1) = rawL l k ++ rawL1 l k := by
  simp [rawL, List.range_succ, List.flatMap_append]
theorem rawL1_len (l : List InsV) (n : Nat) : (rawL1 l n).length ≤ 2 := by
  unfold rawL1
  rw [List.length_append]
  split <;> split <;> simp
theorem rawL_len (l : List InsV) (k : Nat) : (rawL l k).length ≤ 1 + 2 * k := by
  induction k with
  | zero => simp [rawL]
  | succ k ih =>
    rw [rawL_succ, List.length_append]
    have := rawL1_len l k
    omega
theorem tidy_leaders {l : List InsV} (hl : 0 < l.length) : tidyV (rawL l l.length) = leadI l := by
  refine rise_uniq (tidy_rise _) (leadI_rise l) fun x => ?_
  rw [tidy_mem, leadI_mem]
  unfold rawL
  rw [List.mem_cons, List.mem_flatMap]
  constructor
  · rintro (rfl | ⟨n, hn, hx⟩)
    · exact ⟨0, rfl, hl, lead_iff.2 (.inl rfl)⟩
    · have hn : n < l.length := by simpa using hn
      unfold rawL1 at hx
      rcases List.mem_append.1 hx with hx | hx
      · split at hx
        · simp only [List.mem_singleton] at hx
          subst hx
          rename_i h0
          have h1 := goal_lt (l := l) (n := n)
          refine ⟨(goalV (placesV l 0) (l.getD n .zero)).toNat, by omega, by omega, lead_iff.2 (.inr ⟨n, hn, .inl (by omega)⟩)⟩
        · simp at hx
      · split at hx
        · simp only [List.mem_singleton] at hx
          subst hx
          rename_i h0
          exact ⟨n + 1, by omega, h0.2, lead_iff.2 (.inr ⟨n, hn, .inr ⟨h0.1, rfl⟩⟩)⟩
        · simp at hx
  · rintro ⟨i, rfl, hi, hlead⟩
    rcases lead_iff.1 hlead with rfl | ⟨n, hn, h | ⟨h, rfl⟩⟩
    · exact .inl rfl
    · refine .inr ⟨n, by simpa using hn, ?_⟩
      unfold rawL1
      rw [if_pos (show 0 ≤ goalV (placesV l 0) (l.getD n .zero) by omega), h]
      simp
    · refine .inr ⟨n, by simpa using hn, ?_⟩
      unfold rawL1
      rw [if_pos (show (0 ≤ goalV (placesV l 0) (l.getD n .zero) ∨ flsV (l.getD n .zero) = false) ∧ n + 1 < l.length from ⟨h, hi⟩)]
      simp
/-- Where the blocks end. -/
def endsV (l : List InsV) : List Int := (leadI l).drop 1 ++ [(l.length : Int)]
def idxV (l : List InsV) (x : Int) : Int := ((leadI l).countP (· < x) : Nat)
def fromV (l : List InsV) (j : Nat) : Int := (leadI l).getD j 0
def toV (l : List InsV) (j : Nat) : Int := (endsV l).getD j 0
def behindV (l : List InsV) (j : Nat) : List Int := (nextV l ((toV l j).toNat - 1)).map (idxV l)
theorem leadI_length (l : List InsV) : (leadI l).length ≤ l.length := by
  have : (leadersV l).length ≤ (List.range l.length).length := List.length_filter_le _ _
  simpa [leadI] using this
theorem leadI_cons {l : List InsV} (hl : 0 < l.length) : ∃ r, leadI l = 0 :: r := by
  obtain ⟨n, hn⟩ : ∃ n, l.length = n + 1 := ⟨l.length - 1, by omega⟩
  unfold leadI leadersV
  rw [hn, List.range_succ_eq_map, List.filter_cons_of_pos (lead_iff.2 (.inl rfl))]
  exact ⟨_, rfl⟩
theorem ends_length {l : List InsV} (hl : 0 < l.length) : (endsV l).length = (leadI l).length := by
  obtain ⟨r, hr⟩ := leadI_cons hl
  simp [endsV, hr]
theorem to_last {l : List InsV} (hl : 0 < l.length) : toV l ((leadI l).length - 1) = l.length := by
  obtain ⟨r, hr⟩ := leadI_cons hl
  simp [toV, endsV, hr, List.getD]
theorem to_from {l : List InsV} (hl : 0 < l.length) {j : Nat} (hj : j + 1 < (leadI l).length) : toV l j = fromV l (j + 1) := by
  obtain ⟨r, hr⟩ := leadI_cons hl
  rw [hr] at hj
  simp only [List.length_cons] at hj
  unfold toV fromV endsV
  rw [hr]
  simp only [List.drop_succ_cons, List.drop_zero, List.getD, List.getElem?_cons_succ]
  rw [List.getElem?_append_left (by omega)]
theorem from_zero {l : List InsV} (hl : 0 < l.length) : fromV l 0 = 0 := by
  obtain ⟨r, hr⟩ := leadI_cons hl
  simp [fromV, hr]
theorem from_mem {l : List InsV} {j : Nat} (hj : j < (leadI l).length) : ∃ i : Nat, fromV l j = i ∧ i < l.length ∧ leadB l i = true := by
  have : fromV l j ∈ leadI l := by
    unfold fromV
    simp [List.getD, List.getElem?_eq_getElem hj]
  exact leadI_mem.1 this
theorem from_rise {l : List InsV} {i j : Nat} (hij : i < j) (hj : j < (leadI l).length) : fromV l i < fromV l j := by
  have := List.pairwise_iff_getElem.1 (leadI_rise l) i j (by omega) hj hij
  simpa [fromV, List.getD, List.getElem?_eq_getElem hj, List.getElem?_eq_getElem (show i < (leadI l).length by omega)] using this
theorem to_bd {l : List InsV} (hl : 0 < l.length) {j : Nat} (hj : j < (leadI l).length) : fromV l j < toV l j ∧ toV l j ≤ l.length ∧ 0 ≤ fromV l j := by
  obtain ⟨i, h1, h2, _⟩ := from_mem hj
  rcases Nat.lt_or_ge (j + 1) (leadI l).length with h | h
  · rw [to_from hl h]
    obtain ⟨i', h1', h2', _⟩ := from_mem h
    have := from_rise (l := l) (show j < j + 1 by omega) h
    omega
  · have : j = (leadI l).length - 1 := by omega
    have e := to_last hl
    rw [← this] at e
    omega
/-- A leader's number among the leaders. -/
theorem count_rise : ∀ {xs : List Int} {j : Nat}, xs.Pairwise (· < ·) → j < xs.length → xs.countP (· < xs.getD j 0) = j
  | [], j, _, hj => absurd hj (by simp)
  | x :: xs, 0, h, _ => by
    rw [List.pairwise_cons] at h
    have h0 : xs.countP (· < x) = 0 := by
      rw [List.countP_eq_zero]
      intro y hy
      have := h.1 y hy
      simp; omega
    simpa [List.countP_cons] using h0
  | x :: xs, j + 1, h, hj => by
    rw [List.pairwise_cons] at h
    have hj' : j < xs.length := by simpa using hj
    have h1 := count_rise h.2 hj'
    have hx : x < xs.getD j 0 := h.1 _ (by simp [List.getD, List.getElem?_eq_getElem hj'])
    rw [List.getD_cons_succ, List.countP_cons, h1, if_pos (decide_eq_true hx)]
theorem idx_from {l : List InsV} {x : Int} (h : x ∈ leadI l) : ∃ j : Nat, idxV l x = j ∧ j < (leadI l).length ∧ fromV l j = x := by
  obtain ⟨j, hj, rfl⟩ := List.getElem_of_mem h
  have e : (leadI l).getD j 0 = (leadI l)[j] := by simp [List.getD, List.getElem?_eq_getElem hj]
  refine ⟨j, ?_, hj, e⟩
  have := count_rise (leadI_rise l) hj
  rw [e] at this
  unfold idxV
  rw [this]
/-- Within a block just the next one comes behind. -/
theorem block_in {l : List InsV} (h : Good10 l) {j k : Nat} (hj : j < (leadI l).length) (h1 : fromV l j ≤ k) (h2 : (k : Int) + 1 < toV l j) : nextV l k = [(k : Int) + 1] := by
  have hb := to_bd h.pos hj
  have hk : k + 1 < l.length := by omega
  have hnot : leadB l (k + 1) ≠ true := by
    intro hc
    have hm : ((k : Int) + 1) ∈ leadI l := leadI_mem.2 ⟨k + 1, by omega, hk, hc⟩
    obtain ⟨i, _, hi, he⟩ := idx_from hm
    rcases Nat.lt_or_ge j i with h3 | h3
    · rcases Nat.lt_or_ge (j + 1) i with h4 | h4
      · have := from_rise (l := l) h4 hi
        have := to_from h.pos (show j + 1 < (leadI l).length by omega)
        omega
      · have : i = j + 1 := by omega
        subst this
        have := to_from h.pos hi
        omega
    · rcases Nat.lt_or_ge i j with h4 | h4
      · have := from_rise (l := l) h4 hj
        omega
      · have : i = j := by omega
        subst this
        omega
  have hn : ¬ (0 ≤ goalV (placesV l 0) (l.getD k .zero) ∨ flsV (l.getD k .zero) = false) := fun hc => hnot (lead_iff.2 (.inr ⟨k, by omega, .inr ⟨hc, rfl⟩⟩))
  have hf : flsV (l.getD k .zero) = true := by
    cases hff : flsV (l.getD k .zero) with
    | true => rfl
    | false => exact absurd (.inr hff) hn
  unfold nextV nxV
  rw [hf, if_pos rfl, if_pos (by omega)]
/-- Only leaders come behind a block's last one. -/
theorem block_last {l : List InsV} (h : Good10 l) {j : Nat} (hj : j < (leadI l).length) : ∀ x ∈ nextV l ((toV l j).toNat - 1), x ∈ leadI l := by
  intro x hx
  have hb := to_bd h.pos hj
  rw [leadI_mem]
  rcases nxV_mem.1 hx with ⟨hf, rfl⟩ | ⟨h0, rfl⟩
  · have hfl := h.fall (n := (toV l j).toNat - 1) (by omega) hf
    have hj1 : j + 1 < (leadI l).length := by
      rcases Nat.lt_or_ge (j + 1) (leadI l).length with h3 | h3
      · exact h3
      · have : j = (leadI l).length - 1 := by omega
        have e := to_last h.pos
        rw [← this] at e
        omega
    obtain ⟨i, h1, h2, h3⟩ := from_mem hj1
    rw [← to_from h.pos hj1] at h1
    exact ⟨i, by omega, h2, h3⟩
  · have := goal_lt (l := l) (n := (toV l j).toNat - 1)
    exact ⟨(goalV (placesV l 0) (l.getD ((toV l j).toNat - 1) .zero)).toNat, by omega, by omega, lead_iff.2 (.inr ⟨(toV l j).toNat - 1, by omega, .inl (by omega)⟩)⟩
end Go.Proofs.YtfdblmjgpoocpaaGreat

/- (Labs10) A map from numbers to numbers as a function, and rows of cells by their places. Plain lemmas; no condition but what each names. -/
namespace Go.Proofs.YtfdblmjgpoocpaaGreat
open Go.RowKit
set_option linter.unusedVariables false

/-- A block holds a map from labels to numbers. -/
def Labs (w : World) (lb n : Nat) (f : Int → Option Int) : Prop :=
  ∃ D : DataW Unit, w.ownsMap Tryz.prog 3 (plainElem Tryz.prog 3) lb n D ∧ ∀ k : Int, Maps.has D (.int .i64 k) = (f k).isSome ∧ D.atKey (.int .i64 k) (.lit (.int .i64 0)) = .lit (.int .i64 ((f k).getD 0))
theorem wf_i64_of {a : Int} (h : InI a) : (Lit.int .i64 a).wf = true := by
  have h1 := h.1
  have h2 := h.2
  simp [Lit.wf, IntKind.min, IntKind.max, IntKind.signed, IntKind.bits]
  omega
theorem key_of {k : Int} (hk : InI k) : keyOf Tryz.prog 3 (.int .i64 k) = some (.int .i64 k) := Maps.keyOf_int_mk Tryz.underlying3 (wf_i64_of hk)
theorem int_zero (w : World) : (zeroValue 3).run Tryz.prog w = .ok (.int .i64 0) w := by kernel_rfl
section
variable {w w' : World} {lb n : Nat} {f : Int → Option Int}
theorem Labs.made (w : World) : Labs (w.alloc (.map #[] 0)) w.heap.size 0 (fun _ => none) :=
  ⟨.map [], World.ownsMap_made w Tryz.prog 3 _, fun k => ⟨rfl, rfl⟩⟩
theorem Labs.lt (h : Labs w lb n f) : lb < w.heap.size := h.choose_spec.1.lt
theorem Labs.more {m : Nat} (h : Labs w lb n f) (hm : n ≤ m) : Labs w lb m f := by
  obtain ⟨D, h, hk⟩ := h
  exact ⟨D, h.mono hm, hk⟩
theorem Labs.heap (h : Labs w lb n f) (he : w'.heap[lb]? = w.heap[lb]?) : Labs w' lb n f := by
  obtain ⟨D, ⟨es, clock, hb, r⟩, hk⟩ := h
  exact ⟨D, ⟨es, clock, he.trans hb, r⟩, hk⟩
theorem Labs.below {B : Nat} (h : Labs w lb n f) (hb : Below B w w') (hB : lb < B) : Labs w' lb n f := h.heap (hb.block lb hB)
theorem Labs.but {R : Nat → Prop} (h : Labs w lb n f) (hb : But R w w') (hr : ¬ R lb) : Labs w' lb n f := h.heap (hb.block lb h.lt hr)
set_option maxRecDepth 100000 in
theorem Labs.look (h : Labs w lb n f) {k : Int} (hk : InI k) : (Instr.lookup 92 (.map (some lb)) (.int .i64 k) false).run Tryz.prog w = .ok (.int .i64 ((f k).getD 0)) w := by
  obtain ⟨D, h, hf⟩ := h
  obtain ⟨c, h1, h2, _⟩ := h.lookup_int (Maps.int_keyed Tryz.underlying3) Tryz.underlying92 Tryz.underlying3 (int_zero w) (key_of hk)
  rw [(hf k).2] at h2
  injection h2 with h2
  injection h2 with h2 h3
  rw [h1, h3]
set_option maxRecDepth 100000 in
theorem Labs.look_ok (h : Labs w lb n f) {k : Int} (hk : InI k) : (Instr.lookup 92 (.map (some lb)) (.int .i64 k) true).run Tryz.prog w = .ok (.tuple #[.int .i64 ((f k).getD 0), .bool (f k).isSome]) w := by
  obtain ⟨D, h, hf⟩ := h
  obtain ⟨v, ps, h1, h2⟩ := h.look_ok (Maps.int_keyed Tryz.underlying3) Tryz.underlying92 (int_zero w) (plainElem_int Tryz.underlying3 (by decide)) (key_of hk)
  obtain ⟨c, rfl, hc, _⟩ := plainElem_int_inv Tryz.underlying3 h2
  have hc := congrArg Prod.fst hc
  rw [(hf k).2] at hc
  injection hc with hc
  injection hc with h4 h3
  rw [h1, (hf k).1, h3]
theorem labs_put (w : World) {ops : Array Oper} {rest : List Oper} {o : Oper} {a : Act} {Q : Exit → Act → World → Prop}
    (hg : o.guard = none) (m x v : Operand) (hop : o.op = Op.mapUpdate 92 m x v) {lb n : Nat} {f : Int → Option Int}
    (hm : a.eval m = .map (some lb)) (h : Labs w lb n f) (hn : n < maxLen) {k u : Int} (hx : a.eval x = .int .i64 k) (hv : a.eval v = .int .i64 u) (hk : InI k) (hu : InI u)
    (hK : ∀ w', Labs w' lb (n + 1) (fun j => if j = k then some u else f j) → But (OneBlock lb) w w' → wpList Tryz.prog ops Q rest (a.put o.dst undef) w') :
    wpList Tryz.prog ops Q (o :: rest) a w := by
  obtain ⟨D, h, hf⟩ := h
  refine wpList_mapUpdate_own w hg m x v 92 hop 3 3 (Maps.int_keyed Tryz.underlying3) Tryz.underlying92 (plainElem Tryz.prog 3) lb n D hm h hn _ _ (.int .i64 k) hx hv (key_of hk) (.lit (.int .i64 u)) [] (plainElem_int Tryz.underlying3 (wf_i64_of hu)) fun w' h' g' => hK w' ⟨_, h', fun j => ?_⟩ ⟨g'.os, g'.tape, g'.output, g'.size, fun i hi hr => g'.block i hi (fun e => by injection e with e; exact hr e)⟩
  by_cases e : j = k
  · subst e
    dsimp only
    rw [if_pos rfl, Maps.has_put_same h.isMap (by trivial), Maps.atKey_put_same h.isMap (by trivial)]
    exact ⟨rfl, rfl⟩
  · have hne : (Lit.int .i64 j) ≠ .int .i64 k := fun hh => e (by injection hh)
    dsimp only
    rw [if_neg e, Maps.has_put_other hne, Maps.atKey_put_other hne]
    exact hf j
end
/-- A block is a row of so many cells of one type. -/
def RowAt (w : World) (g n : Nat) (t : TypeId) (mk : Nat → Value) : Prop := ∃ cur, w.heap[g]? = some (.cells cur t (0, 0)) ∧ cur.size = n ∧ ∀ i, i < n → cur[i]? = some (mk i)
section
variable {w w' : World} {g n : Nat} {t : TypeId} {mk : Nat → Value}
theorem RowAt.lt (h : RowAt w g n t mk) : g < w.heap.size := by
  obtain ⟨cur, h1, _⟩ := h
  exact heap_lt h1
theorem RowAt.cell (h : RowAt w g n t mk) {i : Nat} (hi : i < n) : w.cell? ⟨g, i, none⟩ = some (mk i) := by
  obtain ⟨cur, h1, _, h3⟩ := h
  rw [cell_of_row _ _ _ _ _ _ h1]
  exact h3 i hi
theorem RowAt.frozen (h : RowAt w g n t mk) (i : Nat) : w.frozen? ⟨g, i, none⟩ = false := by
  obtain ⟨cur, h1, _⟩ := h
  exact frozen_of_row w g i cur _ h1
theorem RowAt.heap (h : RowAt w g n t mk) (he : w'.heap[g]? = w.heap[g]?) : RowAt w' g n t mk := by
  obtain ⟨cur, h1, h2⟩ := h
  exact ⟨cur, he.trans h1, h2⟩
theorem RowAt.but {R : Nat → Prop} (h : RowAt w g n t mk) (hb : But R w w') (hr : ¬ R g) : RowAt w' g n t mk := h.heap (hb.block g h.lt hr)
theorem RowAt.below {B : Nat} (h : RowAt w g n t mk) (hb : Below B w w') (hB : g < B) : RowAt w' g n t mk := h.heap (hb.block g hB)
theorem RowAt.congr {mk' : Nat → Value} (h : RowAt w g n t mk) (he : ∀ i, i < n → mk i = mk' i) : RowAt w g n t mk' := by
  obtain ⟨cur, h1, h2, h3⟩ := h
  exact ⟨cur, h1, h2, fun i hi => by rw [h3 i hi, he i hi]⟩
theorem RowAt.set (h : RowAt w g n t mk) (k : Nat) (v : Value) : RowAt (w.setCell ⟨g, k, none⟩ v) g n t (fun i => if i = k then v else mk i) := by
  obtain ⟨cur, h1, h2, h3⟩ := h
  refine ⟨cur.setIfInBounds k v, heap_setCell_same w g k cur _ v h1, by simpa using h2, fun i hi => ?_⟩
  rw [Array.getElem?_setIfInBounds]
  by_cases e : i = k
  · subst e
    simp [h2, hi]
  · rw [if_neg (fun h => e h.symm), h3 i hi]
    simp [e]
theorem RowAt.made (w : World) (t : TypeId) (v : Value) (n : Nat) (cs : Array Value) (hs : cs.size = n) (hv : ∀ i, i < n → cs[i]? = some v) : RowAt (w.alloc (.cells cs t)) w.heap.size n t (fun _ => v) :=
  ⟨cs, heap_alloc_new w _, hs, hv⟩
theorem RowAt.other {g' n' : Nat} {t' : TypeId} {mk' : Nat → Value} (h : RowAt w g n t mk) (h' : RowAt w g' n' t' mk') (ht : t ≠ t') : g ≠ g' := by
  intro e
  subst e
  obtain ⟨cur, h1, _⟩ := h
  obtain ⟨cur', h2, _⟩ := h'
  rw [h1] at h2
  injection h2 with h2
  injection h2 with h2 h3
  exact ht h3
theorem Labs.other {lb m : Nat} {f : Int → Option Int} (h : RowAt w g n t mk) (h' : Labs w lb m f) : g ≠ lb := by
  intro e
  subst e
  obtain ⟨cur, h1, _⟩ := h
  obtain ⟨D, ⟨es, clock, h2, _⟩, _⟩ := h'
  rw [h1] at h2
  cases h2
end
def boolsV (f : Nat → Bool) : Nat → Value := fun i => .bool (f i)
def intsV (f : Nat → Nat) : Nat → Value := fun i => .int .i64 ((f i : Nat) : Int)
theorem bool_info : (Tryz.prog.info? 4).map (fun i => (i.zero, i.size, i.bytes)) = some (some (.bool false), 1, 1) := by kernel_rfl
theorem made_row {v : Value} (hv : v.cells = #[v]) {n i : Nat} (hi : i < n) : (madeCells v.cells (n * 1))[i]? = some v := by
  rw [hv]
  simp [madeCells, hi, Nat.mod_one]
theorem make_bools (n : Nat) (hn : n ≤ 100000) (w : World) : (Instr.makeSlice 43 (.int .i64 (n : Int)) (.int .i64 (n : Int))).run Tryz.prog w = .ok (.slice (some ⟨w.heap.size, 0, none⟩) n n) (w.alloc (.cells (madeCells (Value.bool false).cells (n * 1)) 4)) := by
  obtain ⟨i, h1, h2, h3, h4⟩ := info_parts bool_info
  have h := run_make (P := Tryz.prog) w 43 4 i _ Tryz.underlying43 h1 h2 .i64 .i64 (n : Int) (n : Int) (by omega) (Int.le_refl _) (by rw [h4]; omega) (by omega)
  rw [h3] at h
  simpa using h
theorem make_ints (n : Nat) (hn : n ≤ 100000) (w : World) : (Instr.makeSlice 35 (.int .i64 (n : Int)) (.int .i64 (n : Int))).run Tryz.prog w = .ok (.slice (some ⟨w.heap.size, 0, none⟩) n n) (w.alloc (.cells (madeCells (Value.int .i64 0).cells (n * 1)) 3)) := by
  obtain ⟨i, h1, h2, h3, h4⟩ := info_parts int_info
  have h := run_make (P := Tryz.prog) w 35 3 i _ Tryz.underlying35 h1 h2 .i64 .i64 (n : Int) (n : Int) (by omega) (Int.le_refl _) (by rw [h4]; omega) (by omega)
  rw [h3] at h
  simpa using h
theorem bools_made (n : Nat) (w : World) : RowAt (w.alloc (.cells (madeCells (Value.bool false).cells (n * 1)) 4)) w.heap.size n 4 (boolsV fun _ => false) :=
  (RowAt.made w 4 (.bool false) n _ (by simp [madeCells]) fun i hi => made_row rfl hi).congr fun i hi => rfl
theorem ints_made (n : Nat) (w : World) : RowAt (w.alloc (.cells (madeCells (Value.int .i64 0).cells (n * 1)) 3)) w.heap.size n 3 (intsV fun _ => 0) :=
  (RowAt.made w 3 (.int .i64 0) n _ (by simp [madeCells]) fun i hi => made_row rfl hi).congr fun i hi => rfl
theorem ints_info : (Tryz.prog.info? 35).map (fun i => (i.zero, i.size, i.bytes)) = some (some (.slice none 0 0), 1, 24) := by kernel_rfl
theorem make_lists (n : Nat) (hn : n ≤ 100000) (w : World) : (Instr.makeSlice 45 (.int .i64 (n : Int)) (.int .i64 (n : Int))).run Tryz.prog w = .ok (.slice (some ⟨w.heap.size, 0, none⟩) n n) (w.alloc (.cells (madeCells (Value.slice none 0 0).cells (n * 1)) 35)) := by
  obtain ⟨i, h1, h2, h3, h4⟩ := info_parts ints_info
  have h := run_make (P := Tryz.prog) w 45 35 i _ Tryz.underlying45 h1 h2 .i64 .i64 (n : Int) (n : Int) (by omega) (Int.le_refl _) (by rw [h4]; omega) (by omega)
  rw [h3] at h
  simpa using h
theorem lists_made (n : Nat) (w : World) : RowAt (w.alloc (.cells (madeCells (Value.slice none 0 0).cells (n * 1)) 35)) w.heap.size n 35 (fun _ => .slice none 0 0) :=
  (RowAt.made w 35 (.slice none 0 0) n _ (by simp [madeCells]) fun i hi => made_row rfl hi).congr fun i hi => rfl
end Go.Proofs.YtfdblmjgpoocpaaGreat

/- (Sort10) Lists of numbers of the call's own that are sorted and compacted (the library's Sort and Compact, by the shelf's contracts); a list among lists that is being made. Contracts; no condition but what each names. -/
namespace Go.Proofs.YtfdblmjgpoocpaaGreat
open Go.RowKit Go.Sort
set_option linter.unusedVariables false
set_option linter.unusedSimpArgs false

def OwnB (V : Value) : Nat → Prop := fun b => V.ownBlock = some b
theorem But.of_grown {V : Value} {w w' : World} (h : w.grownBy w' V.ownBlock) : But (OwnB V) w w' :=
  ⟨h.os, h.tape, h.output, h.size, fun k hk hn => h.block k hk (fun e => hn e.symm)⟩
theorem put_num {K : IntKind} {ts : List Int} {cur : Array Value} (h : ∀ u ∈ cur.toList, IsNum K u) : ∀ u ∈ (putCells (Value.int K) 0 ts.toArray cur).toList, IsNum K u := by
  intro u hu
  obtain ⟨j, hj, rfl⟩ := List.getElem_of_mem hu
  simp only [putCells, Array.getElem_toList, Array.getElem_mapIdx]
  split
  · exact ⟨_, rfl⟩
  · exact h _ (by simp)
theorem OutN.parts {base : Nat} {w : World} {V : Value} {xs : List Int} (h : OutN base w V xs) (hv : V ≠ .slice none 0 0) :
    ∃ g cap cur, V = .slice (some ⟨g, 0, none⟩) xs.length cap ∧ base ≤ g ∧ g < w.heap.size ∧ w.heap[g]? = some (.cells cur 3 (0, 0)) ∧ xs.length ≤ cap ∧ cap ≤ maxLen ∧ cur.size = cap ∧ cur.toList.take xs.length = xs.map (Value.int .i64) ∧ ∀ u ∈ cur.toList, IsNum .i64 u := by
  rcases h.1.2 with ⟨rfl, _⟩ | ⟨g, cap, cur, rfl, h1, h2, h3, h4, h5, h6⟩
  · exact absurd rfl hv
  · exact ⟨g, cap, cur, rfl, h1, heap_lt h2, h2, h3, h4, by simpa using h5, by simpa using h6, h.2 g cur _ _ (by simp [Value.ownBlock]) h2⟩
theorem OutN.of_block {base g cap : Nat} {w : World} {cur : Array Value} {ys : List Int} (hb : base ≤ g) (hc : w.heap[g]? = some (.cells cur 3 (0, 0))) (hl : ys.length ≤ cap) (hm : cap ≤ maxLen) (hs : cur.size = cap) (ht : cur.toList.take ys.length = ys.map (Value.int .i64)) (hn : ∀ u ∈ cur.toList, IsNum .i64 u) :
    OutN base w (.slice (some ⟨g, 0, none⟩) ys.length cap) ys := by
  refine ⟨⟨by simp, .inr ⟨g, cap, cur, rfl, hb, hc, hl, hm, by simpa using hs, by simpa using ht⟩⟩, fun g' cur' t' fr' hg hc' u hu => ?_⟩
  simp [Value.ownBlock] at hg
  subst hg
  rw [hc] at hc'
  injection hc' with hc'
  injection hc' with hc' _ _
  subst hc'
  exact hn u hu
def SortDone (base : Nat) (w : World) (V : Value) (xs : List Int) (e : Ending) (w' : World) : Prop :=
  e = .returned (.tuple #[]) ∧ OutN base w' V (sortV xs) ∧ But (OwnB V) w w'
theorem sort_any (base : Nat) (w : World) (V : Value) (xs : List Int) (h : OutN base w V xs) (hl : xs.length ≤ 1000000) : Calls Tryz.prog 57 #[V] w (SortDone base w V xs) := by
  by_cases hv : V = .slice none 0 0
  · subst hv
    have hx : xs = [] := by
      have := h.1.1
      rcases h.1.2 with ⟨_, h0⟩ | ⟨g, cap, cur, h0, _⟩
      · exact List.eq_nil_of_length_eq_zero h0
      · cases h0
    subst hx
    refine (Tryz.slices_Sort_int_none none 0 w).mono ?_
    rintro e w' ⟨rfl, rfl⟩
    exact ⟨rfl, by simpa [sortV] using h, But.refl _ _⟩
  · obtain ⟨g, cap, cur, rfl, hb, hlt, hc, h1, h2, h3, h4, h5⟩ := h.parts hv
    refine (Tryz.slices_Sort_int g 0 cap xs w (holds_of_blockI hc h4) hlt (by omega)).mono ?_
    rintro e w' ⟨rfl, n, os, rfl⟩
    refine ⟨rfl, ?_, But.of_grown (V := .slice (some ⟨g, 0, none⟩) xs.length cap) (grownBy_sortedI _)⟩
    have hh := heap_sortedI (n := n) (os := os) (sortV xs).toArray hc
    have := OutN.of_block (ys := sortV xs) hb hh (by rw [sort_length]; exact h1) h2 (by simpa [putCells] using h3) (take_putCellsI cur (sortV xs) (by rw [sort_length]; omega)) (put_num h5)
    rw [sort_length] at this
    exact this
def CompactDone (base : Nat) (w : World) (V : Value) (xs : List Int) (e : Ending) (w' : World) : Prop :=
  ∃ V', e = .returned V' ∧ OutN base w' V' (Lib.compact xs) ∧ But (OwnB V) w w'
theorem compact_any (base : Nat) (w : World) (V : Value) (xs : List Int) (h : OutN base w V xs) (hl : xs.length ≤ 1000000) : Calls Tryz.prog 58 #[V] w (CompactDone base w V xs) := by
  by_cases hv : V = .slice none 0 0
  · subst hv
    have hx : xs = [] := by
      have := h.1.1
      rcases h.1.2 with ⟨_, h0⟩ | ⟨g, cap, cur, h0, _⟩
      · exact List.eq_nil_of_length_eq_zero h0
      · cases h0
    subst hx
    refine (Tryz.slices_Compact_int_empty none 0 w).mono ?_
    rintro e w' ⟨rfl, rfl⟩
    exact ⟨_, rfl, by simpa [Lib.compact, Lib.compactUpTo] using h, But.refl _ _⟩
  · obtain ⟨g, cap, cur, rfl, hb, hlt, hc, h1, h2, h3, h4, h5⟩ := h.parts hv
    refine (Tryz.slices_Compact_int g 0 cap xs w (holds_of_blockI hc h4) (by omega) h1).mono ?_
    rintro e w' ⟨rfl, n, rfl⟩
    have hcl := compact_length xs
    refine ⟨_, rfl, ?_, But.of_grown (V := .slice (some ⟨g, 0, none⟩) xs.length cap) (by have := grownBy_sortedI (w := w) (g := g) (n := n) (os := #[]) (Lib.compact xs ++ List.replicate (xs.length - (Lib.compact xs).length) 0).toArray; rw [grow_empty] at this; exact this)⟩
    have hh := heap_sortedI (n := n) (os := #[]) (Lib.compact xs ++ List.replicate (xs.length - (Lib.compact xs).length) 0).toArray hc
    rw [grow_empty] at hh
    have ht := take_putCellsI cur (Lib.compact xs ++ List.replicate (xs.length - (Lib.compact xs).length) 0) (by simp; omega)
    have ht2 := congrArg (List.take (Lib.compact xs).length) ht
    rw [List.take_take, Nat.min_eq_left (by simp), List.map_append, List.take_append_of_le_length (by simp), show List.take (Lib.compact xs).length (List.map (Value.int .i64) (Lib.compact xs)) = List.map (Value.int .i64) (Lib.compact xs) from List.take_of_length_le (by simp)] at ht2
    exact OutN.of_block hb hh (by omega) h2 (by simpa [putCells] using h3) ht2 (put_num h5)

/-- Lists of numbers of the call's own, in a row of the call's own. -/
structure Lists (base : Nat) (w : World) (g n : Nat) (Xs : Nat → Value) (ll : Nat → List Int) : Prop where
  ge : base ≤ g
  row : RowAt w g n 35 Xs
  own : ∀ i, i < n → OutN base w (Xs i) (ll i)
theorem own_ne {base g n : Nat} {w : World} {Xs : Nat → Value} {V : Value} {xs : List Int} (h : OutN base w V xs) (hr : RowAt w g n 35 Xs) : ¬ OwnB V g := by
  intro hg
  have hv : V ≠ .slice none 0 0 := fun e => by subst e; simp [OwnB, Value.ownBlock] at hg
  obtain ⟨g', cap, cur, rfl, _, _, hc, _⟩ := h.parts hv
  have : g' = g := by simpa [OwnB, Value.ownBlock] using hg
  subst this
  obtain ⟨cur', h1, _⟩ := hr
  rw [hc] at h1
  injection h1 with h1
  injection h1 with _ h1 _
  exact absurd h1 (by decide)
/-- The list k of a row is being made, in the world W; the round began in wr. -/
structure FolAt (wr W : World) (g n k : Nat) (Xs : Nat → Value) (V : Value) (xs : List Int) : Prop where
  row : RowAt W g n 35 (fun i => if i = k then V else Xs i)
  but : But (OneBlock g) wr W
  own : OutN wr.heap.size W V xs
section
variable {wr W W' : World} {g n k : Nat} {Xs : Nat → Value} {V V' : Value} {xs ys : List Int} {ll : Nat → List Int} {base : Nat}
theorem FolAt.start (h : RowAt wr g n 35 Xs) (hx : Xs k = .slice none 0 0) : FolAt wr wr g n k Xs (.slice none 0 0) [] :=
  ⟨h.congr fun i hi => by by_cases e : i = k <;> simp [e, hx], But.refl _ _, Owns.nil _ _ _ _ _⟩
theorem FolAt.grow (h : FolAt wr W g n k Xs V xs) (hb : Below W.heap.size W W') : FolAt wr W' g n k Xs V xs :=
  ⟨h.row.below hb h.row.lt, h.but.trans (But.of_below hb), h.own.below hb (Nat.le_refl _)⟩
theorem FolAt.cell (h : FolAt wr W g n k Xs V xs) (hk : k < n) : W.cell? ⟨g, k, none⟩ = some V ∧ W.frozen? ⟨g, k, none⟩ = false :=
  ⟨by have := h.row.cell hk; simpa using this, h.row.frozen k⟩
theorem FolAt.touch (h : FolAt wr W g n k Xs V xs) (hb : But (OwnB V) W W') (ho : OutN wr.heap.size W' V ys) : FolAt wr W' g n k Xs V ys :=
  ⟨h.row.but hb (own_ne h.own h.row), ⟨hb.os.trans h.but.os, hb.tape.trans h.but.tape, hb.output.trans h.but.output, Nat.le_trans h.but.size hb.size, fun i hi hn => (hb.block i (Nat.lt_of_lt_of_le hi h.but.size) (fun hc => by have := (h.own.lt hc).1; omega)).trans (h.but.block i hi hn)⟩, ho⟩
/-- What holds when the list is made anew, before it is laid. -/
structure FolMid (wr W : World) (g n k : Nat) (Xs : Nat → Value) (V V' : Value) (ys : List Int) : Prop where
  row : RowAt W g n 35 (fun i => if i = k then V else Xs i)
  but : But (OneBlock g) wr W
  own : OutN wr.heap.size W V' ys
theorem FolAt.mid (h : FolAt wr W g n k Xs V xs) (hb : But (OwnB V) W W') (ho : OutN wr.heap.size W' V' ys) : FolMid wr W' g n k Xs V V' ys :=
  ⟨h.row.but hb (own_ne h.own h.row), ⟨hb.os.trans h.but.os, hb.tape.trans h.but.tape, hb.output.trans h.but.output, Nat.le_trans h.but.size hb.size, fun i hi hn => (hb.block i (Nat.lt_of_lt_of_le hi h.but.size) (fun hc => by have := (h.own.lt hc).1; omega)).trans (h.but.block i hi hn)⟩, ho⟩
theorem FolMid.cell (h : FolMid wr W g n k Xs V V' ys) (hk : k < n) : W.cell? ⟨g, k, none⟩ = some V ∧ W.frozen? ⟨g, k, none⟩ = false :=
  ⟨by have := h.row.cell hk; simpa using this, h.row.frozen k⟩
theorem FolMid.lay (h : FolMid wr W g n k Xs V V' ys) : FolAt wr (W.setCell ⟨g, k, none⟩ V') g n k Xs V' ys := by
  refine ⟨(h.row.set k V').congr fun i hi => by by_cases e : i = k <;> simp [e], h.but.setCell (p := ⟨g, k, none⟩) (.inl rfl) _, ?_⟩
  exact h.own.but ((But.refl (OneBlock g) W).setCell (p := ⟨g, k, none⟩) (.inl rfl) V') (fun b hb hc => own_ne h.own h.row (by rw [show b = g from hc] at hb; exact hb))
theorem FolAt.done (h : FolAt wr W g n k Xs V xs) (hl : Lists base wr g n Xs ll) (hb : base ≤ wr.heap.size) : Lists base W g n (fun i => if i = k then V else Xs i) (fun i => if i = k then xs else ll i) := by
  refine ⟨hl.ge, h.row, fun i hi => ?_⟩
  by_cases e : i = k
  · simp only [if_pos e]
    exact h.own.base hb
  · simp only [if_neg e]
    exact (hl.own i hi).but h.but (fun b hb hc => own_ne (hl.own i hi) hl.row (by rw [show b = g from hc] at hb; exact hb))
end
end Go.Proofs.YtfdblmjgpoocpaaGreat

/- (Reach10) What is reached, found by a stack, and by going through all till nothing is new. Plain mathematics. -/
namespace Go.Proofs.YtfdblmjgpoocpaaGreat
set_option linter.unusedVariables false
set_option linter.unusedSimpArgs false

def cntV (r : Nat → Bool) (n : Nat) : Nat := (List.range n).countP fun i => !r i
theorem cnt_succ (r : Nat → Bool) (n : Nat) : cntV r (n + 1) = cntV r n + (if r n then 0 else 1) := by
  unfold cntV
  rw [List.range_succ, List.countP_append, List.countP_singleton]
  cases r n <;> rfl
theorem cnt_congr {r s : Nat → Bool} : ∀ {n : Nat}, (∀ i, i < n → r i = s i) → cntV r n = cntV s n
  | 0, _ => rfl
  | n + 1, h => by rw [cnt_succ, cnt_succ, cnt_congr (fun i hi => h i (by omega)), h n (by omega)]
theorem cnt_set {r : Nat → Bool} {p : Nat} : ∀ {n : Nat}, p < n → r p = false → cntV (fun i => if i = p then true else r i) n + 1 = cntV r n
  | 0, h, _ => absurd h (by omega)
  | n + 1, h, hr => by
    rw [cnt_succ, cnt_succ]
    by_cases e : p = n
    · subst e
      rw [cnt_congr (r := fun i => if i = p then true else r i) (s := r) (fun i hi => by simp [show i ≠ p by omega])]
      simp [hr]
    · have := cnt_set (r := r) (p := p) (n := n) (by omega) hr
      simp only [show n ≠ p from fun h => e h.symm, if_false]
      omega
theorem cnt_le (r : Nat → Bool) (n : Nat) : cntV r n ≤ n := by
  have := List.countP_le_length (p := fun i => !r i) (l := List.range n)
  simpa [cntV] using this
theorem cnt_mono {r s : Nat → Bool} (h : ∀ i, r i = true → s i = true) : ∀ n, cntV s n ≤ cntV r n
  | 0 => Nat.le_refl _
  | n + 1 => by
    rw [cnt_succ, cnt_succ]
    have := cnt_mono h n
    have h1 := h n
    cases hr : r n <;> cases hs : s n <;> simp_all <;> omega
theorem cnt_lt {r s : Nat → Bool} (h : ∀ i, r i = true → s i = true) : ∀ {n p : Nat}, p < n → r p = false → s p = true → cntV s n < cntV r n
  | 0, p, hp, _, _ => absurd hp (by omega)
  | n + 1, p, hp, hr, hs => by
    rw [cnt_succ, cnt_succ]
    by_cases e : p = n
    · subst e
      rw [hr, hs]
      have := cnt_mono h p
      simp
      omega
    · have := cnt_lt h (n := n) (p := p) (by omega) hr hs
      have h1 := h n
      cases hrn : r n <;> cases hsn : s n <;> simp_all <;> omega
/-- What has been met so far: those that are marked, and those that still wait. -/
structure Dfs (n : Nat) (nx : Nat → List Int) (r : Nat → Bool) (ws : List Int) : Prop where
  yes : ∀ i, i < n → r i = true → Rch nx i
  wait : ∀ x ∈ ws, 0 ≤ x ∧ x < n ∧ Rch nx x.toNat
  zero : r 0 = true ∨ (0 : Int) ∈ ws
  shut : ∀ i, i < n → r i = true → ∀ x ∈ nx i, r x.toNat = true ∨ x ∈ ws
section
variable {n : Nat} {nx : Nat → List Int} {r : Nat → Bool} {ws : List Int} {p : Int}
theorem Dfs.start (hn : 0 < n) : Dfs n nx (fun _ => false) [0] :=
  ⟨fun i _ h => by simp at h, fun x hx => by simp at hx; subst hx; exact ⟨by omega, by omega, .zero⟩, .inr (by simp), fun i _ h => by simp at h⟩
theorem Dfs.old (h : Dfs n nx r (ws ++ [p])) (hp : r p.toNat = true) : Dfs n nx r ws := by
  refine ⟨h.yes, fun x hx => h.wait x (by simp [hx]), ?_, fun i hi hr x hx => ?_⟩
  · rcases h.zero with h0 | h0
    · exact .inl h0
    · rcases List.mem_append.1 h0 with h1 | h1
      · exact .inr h1
      · simp at h1
        subst h1
        exact .inl (by simpa using hp)
  · rcases h.shut i hi hr x hx with h0 | h0
    · exact .inl h0
    · rcases List.mem_append.1 h0 with h1 | h1
      · exact .inr h1
      · simp at h1
        subst h1
        exact .inl hp
theorem Dfs.new (h : Dfs n nx r (ws ++ [p])) (hb : ∀ i, i < n → ∀ x ∈ nx i, 0 ≤ x ∧ x < n) : Dfs n nx (fun i => if i = p.toNat then true else r i) (ws ++ nx p.toNat) := by
  have hw := h.wait p (by simp)
  refine ⟨fun i hi hr => ?_, fun x hx => ?_, ?_, fun i hi hr x hx => ?_⟩
  · by_cases e : i = p.toNat
    · subst e; exact hw.2.2
    · exact h.yes i hi (by simpa [e] using hr)
  · rcases List.mem_append.1 hx with h1 | h1
    · exact h.wait x (by simp [h1])
    · have := hb p.toNat (by omega) x h1
      exact ⟨this.1, this.2, .step hw.2.2 (by rwa [Int.toNat_of_nonneg this.1])⟩
  · rcases h.zero with h0 | h0
    · left; simp [h0]
    · rcases List.mem_append.1 h0 with h1 | h1
      · right; simp [h1]
      · simp at h1
        subst h1
        left; simp
  · by_cases e : i = p.toNat
    · subst e
      right
      simp [hx]
    · rcases h.shut i hi (by simpa [e] using hr) x hx with h0 | h0
      · left; simp [h0]
      · rcases List.mem_append.1 h0 with h1 | h1
        · right; simp [h1]
        · simp at h1
          subst h1
          left; simp
theorem Dfs.done (h : Dfs n nx r []) (hn : 0 < n) (hb : ∀ i, i < n → ∀ x ∈ nx i, 0 ≤ x ∧ x < n) : IsReach n nx ((List.range n).map r) := by
  refine ⟨by simp, fun i hi => ?_⟩
  have e : ((List.range n).map r).getD i false = r i := by simp [List.getD, hi]
  rw [e]
  refine ⟨h.yes i hi, fun hr => (Rch.within hn hb (by simpa using h.zero) (fun j hj hr x hx => ?_) hr).2⟩
  simpa using h.shut j hj hr x hx
end
end Go.Proofs.YtfdblmjgpoocpaaGreat

/- (Math10C) A set that is made whole by sweeps. Plain mathematics. -/
namespace Go.Proofs.YtfdblmjgpoocpaaGreat
set_option linter.unusedVariables false
set_option linter.unusedSimpArgs false

/-- What a sweep has done that stands at place j of what comes behind k. -/
structure Swp (n : Nat) (nx : Nat → List Int) (m0 m : Nat → Bool) (k j : Nat) : Prop where
  mono : ∀ i, m0 i = true → m i = true
  done : ∀ a, a < k → m0 a = true → ∀ x ∈ nx a, m x.toNat = true
  here : m0 k = true → ∀ x ∈ (nx k).take j, m x.toNat = true
  same : Closed n nx m0 → ∀ i, i < n → m i = m0 i
section
variable {n : Nat} {nx : Nat → List Int} {m0 m : Nat → Bool} {k j t : Nat}
theorem Swp.start : Swp n nx m m 0 0 := ⟨fun _ h => h, fun a h => absurd h (by omega), fun _ x hx => by simp at hx, fun _ _ _ => rfl⟩
theorem Swp.step (h : Swp n nx m0 m k j) (hk : k < n) (hj : j < (nx k).length) : Swp n nx m0 (fun i => if i = ((nx k).getD j 0).toNat then m ((nx k).getD j 0).toNat || m k else m i) k (j + 1) := by
  have hg : (nx k).getD j 0 = (nx k)[j] := by simp [List.getD, List.getElem?_eq_getElem hj]
  have hup : ∀ i, m i = true → (if i = ((nx k).getD j 0).toNat then m ((nx k).getD j 0).toNat || m k else m i) = true := by
    intro i hi
    by_cases e : i = ((nx k).getD j 0).toNat
    · subst e; rw [if_pos rfl, hi]; rfl
    · rw [if_neg e, hi]
  refine ⟨fun i hi => hup i (h.mono i hi), fun a ha h0 x hx => hup _ (h.done a ha h0 x hx), fun h0 x hx => ?_, fun hc i hi => ?_⟩
  · rw [List.take_add_one, List.getElem?_eq_getElem hj] at hx
    rcases List.mem_append.1 hx with hx | hx
    · exact hup _ (h.here h0 x hx)
    · simp at hx
      subst hx
      show (if _ then _ else _) = true
      rw [hg, if_pos rfl, h.mono k h0]
      simp
  · show (if _ then _ else _) = _
    by_cases e : i = ((nx k).getD j 0).toNat
    · rw [if_pos e, ← e, h.same hc i hi, h.same hc k hk]
      cases hk0 : m0 k with
      | false => simp
      | true =>
        have := hc k hk hk0 ((nx k).getD j 0) (by rw [hg]; exact List.getElem_mem hj)
        rw [← e] at this
        simp [this]
    · rw [if_neg e]
      exact h.same hc i hi
theorem Swp.row (h : Swp n nx m0 m k (nx k).length) : Swp n nx m0 m (k + 1) 0 := by
  refine ⟨h.mono, fun a ha h0 x hx => ?_, fun _ x hx => by simp at hx, h.same⟩
  rcases Nat.lt_or_ge a k with h1 | h1
  · exact h.done a h1 h0 x hx
  · obtain rfl : a = k := by omega
    exact h.here h0 x (by rw [List.take_length]; exact hx)
/-- Whole, or so many sweeps have each brought one more. -/
structure Clo (n : Nat) (nx : Nat → List Int) (t : Nat) (m : Nat → Bool) : Prop where
  zero : m 0 = true
  clo : Closed n nx m ∨ cntV m n + t + 1 ≤ n
theorem Clo.start (hn : 0 < n) (h0 : m 0 = true) : Clo n nx 0 m := by
  refine ⟨h0, .inr ?_⟩
  have := cnt_lt (r := fun _ => false) (s := m) (fun _ h => by simp at h) (n := n) (p := 0) hn rfl h0
  have := cnt_le (fun _ => false) n
  omega
theorem Clo.next (h : Clo n nx t m0) (hs : Swp n nx m0 m n 0) (hb : ∀ i, i < n → ∀ x ∈ nx i, 0 ≤ x ∧ x < n) : Clo n nx (t + 1) m := by
  refine ⟨hs.mono 0 h.zero, ?_⟩
  have hcl : (∀ i, i < n → m i = m0 i) → Closed n nx m0 → Closed n nx m := by
    intro he hc i hi hm x hx
    have hxb := hb i hi x hx
    rw [he x.toNat (by omega)]
    exact hc i hi (by rw [← he i hi]; exact hm) x hx
  rcases h.clo with hc | hc
  · exact .inl (hcl (hs.same hc) hc)
  · by_cases hp : ∃ p, p < n ∧ m0 p = false ∧ m p = true
    · obtain ⟨p, hp, h1, h2⟩ := hp
      have := cnt_lt hs.mono hp h1 h2
      exact .inr (by omega)
    · have he : ∀ i, i < n → m i = m0 i := by
        intro i hi
        cases h0 : m0 i with
        | true => exact hs.mono i h0
        | false =>
          cases h1 : m i with
          | false => rfl
          | true => exact absurd ⟨i, hi, h0, h1⟩ hp
      refine .inl (hcl he fun i hi hm x hx => ?_)
      have hxb := hb i hi x hx
      rw [← he x.toNat (by omega)]
      exact hs.done i hi hm x hx
theorem Clo.done (h : Clo n nx n m) : Closed n nx m := h.clo.resolve_right (by omega)
end
end Go.Proofs.YtfdblmjgpoocpaaGreat

/- (Math10E) A sweep that goes on till nothing more is reached. Plain mathematics. -/
namespace Go.Proofs.YtfdblmjgpoocpaaGreat
set_option linter.unusedVariables false
set_option linter.unusedSimpArgs false

/-- What a sweep has done that stands at place q of what comes behind a: m0 is the set ahead of the sweep, m the set now, b whether it has grown. -/
structure Swr (n : Nat) (nx : Nat → List Int) (m0 m : Nat → Bool) (b : Bool) (a q : Nat) : Prop where
  mono : ∀ i, m0 i = true → m i = true
  rch : ∀ i, i < n → m i = true → Rch nx i
  same : b = false → ∀ i, i < n → m i = m0 i
  grow : b = true → ∃ p, p < n ∧ m0 p = false ∧ m p = true
  done : b = false → ∀ c, c < a → m0 c = true → ∀ x ∈ nx c, m0 x.toNat = true
  here : b = false → m0 a = true → ∀ x ∈ (nx a).take q, m0 x.toNat = true
section
variable {n : Nat} {nx : Nat → List Int} {m0 m : Nat → Bool} {b : Bool} {a q : Nat}
theorem Swr.start (h : ∀ i, i < n → m i = true → Rch nx i) : Swr n nx m m false 0 0 :=
  ⟨fun _ h => h, h, fun _ _ _ => rfl, fun h => by simp at h, fun _ c hc => absurd hc (by omega), fun _ _ x hx => by simp at hx⟩
theorem Swr.step (h : Swr n nx m0 m b a q) (ha : a < n) (hq : q < (nx a).length) (hma : m a = true) (hb : ∀ i, i < n → ∀ x ∈ nx i, 0 ≤ x ∧ x < n) :
    Swr n nx m0 (fun i => if i = ((nx a).getD q 0).toNat then true else m i) (b || !m ((nx a).getD q 0).toNat) a (q + 1) := by
  have hg : (nx a).getD q 0 = (nx a)[q] := by simp [List.getD, List.getElem?_eq_getElem hq]
  have hmem : (nx a).getD q 0 ∈ nx a := by rw [hg]; exact List.getElem_mem hq
  have hxb := hb a ha _ hmem
  have htk : (nx a).take (q + 1) = (nx a).take q ++ [(nx a).getD q 0] := by rw [List.take_add_one, List.getElem?_eq_getElem hq, hg]; rfl
  generalize (nx a).getD q 0 = x at *
  have hx : x.toNat < n := by omega
  have hup : ∀ i, m i = true → (if i = x.toNat then true else m i) = true := by
    intro i hi
    by_cases e : i = x.toNat
    · rw [if_pos e]
    · rw [if_neg e, hi]
  have hsp : (b || !m x.toNat) = false → b = false ∧ m x.toNat = true := by
    intro h0
    cases hb0 : b <;> cases hm0 : m x.toNat <;> simp_all
  refine ⟨fun i hi => hup i (h.mono i hi), fun i hi hmi => ?_, fun h0 i hi => ?_, fun h0 => ?_, fun h0 => h.done (hsp h0).1, fun h0 h1 y hy => ?_⟩
  · by_cases e : i = x.toNat
    · subst e
      exact .step (h.rch a ha hma) (by rw [Int.toNat_of_nonneg hxb.1]; exact hmem)
    · exact h.rch i hi (by have hmi : (if i = x.toNat then true else m i) = true := hmi; rw [if_neg e] at hmi; exact hmi)
  · obtain ⟨h1, h2⟩ := hsp h0
    show (if i = x.toNat then true else m i) = m0 i
    by_cases e : i = x.toNat
    · rw [if_pos e, ← h.same h1 i hi, e, h2]
    · rw [if_neg e]
      exact h.same h1 i hi
  · cases hb0 : b with
    | true =>
      obtain ⟨p, hp, h1, h2⟩ := h.grow hb0
      exact ⟨p, hp, h1, hup p h2⟩
    | false =>
      rw [hb0] at h0
      have hm : m x.toNat = false := by simpa using h0
      exact ⟨x.toNat, hx, by rw [← h.same hb0 _ hx]; exact hm, by show (if _ then _ else _) = true; rw [if_pos rfl]⟩
  · obtain ⟨h2, h3⟩ := hsp h0
    rw [htk] at hy
    rcases List.mem_append.1 hy with hy | hy
    · exact h.here h2 h1 y hy
    · simp at hy
      subst hy
      rw [← h.same h2 _ hx]
      exact h3
theorem Swr.row_yes (h : Swr n nx m0 m b a (nx a).length) : Swr n nx m0 m b (a + 1) 0 := by
  refine ⟨h.mono, h.rch, h.same, h.grow, fun h0 c hc h1 x hx => ?_, fun _ _ x hx => by simp at hx⟩
  rcases Nat.lt_or_ge c a with h2 | h2
  · exact h.done h0 c h2 h1 x hx
  · obtain rfl : c = a := by omega
    exact h.here h0 h1 x (by rw [List.take_length]; exact hx)
theorem Swr.row_no (h : Swr n nx m0 m b a q) (ha : a < n) (hma : m a = false) : Swr n nx m0 m b (a + 1) 0 := by
  refine ⟨h.mono, h.rch, h.same, h.grow, fun h0 c hc h1 x hx => ?_, fun _ _ x hx => by simp at hx⟩
  rcases Nat.lt_or_ge c a with h2 | h2
  · exact h.done h0 c h2 h1 x hx
  · obtain rfl : c = a := by omega
    rw [← h.same h0 c ha, hma] at h1
    cases h1
theorem Swr.shut (h : Swr n nx m0 m false n 0) (hb : ∀ i, i < n → ∀ x ∈ nx i, 0 ≤ x ∧ x < n) : Closed n nx m := by
  intro i hi hm x hx
  have hxb := hb i hi x hx
  rw [h.same rfl _ (by omega)]
  exact h.done rfl i hi (by rw [← h.same rfl i hi]; exact hm) x hx
theorem Swr.less (h : Swr n nx m0 m true n 0) : cntV m n < cntV m0 n := by
  obtain ⟨p, hp, h1, h2⟩ := h.grow rfl
  exact cnt_lt h.mono hp h1 h2
theorem closed_reach (hn : 0 < n) (hb : ∀ i, i < n → ∀ x ∈ nx i, 0 ≤ x ∧ x < n) (h0 : m 0 = true) (hc : Closed n nx m) (hr : ∀ i, i < n → m i = true → Rch nx i) : IsReach n nx ((List.range n).map m) := by
  refine ⟨by simp, fun i hi => ?_⟩
  have e : ((List.range n).map m).getD i false = m i := by simp [List.getD, hi]
  rw [e]
  exact ⟨hr i hi, fun h => (Rch.within hn hb h0 hc h).2⟩
end
end Go.Proofs.YtfdblmjgpoocpaaGreat
