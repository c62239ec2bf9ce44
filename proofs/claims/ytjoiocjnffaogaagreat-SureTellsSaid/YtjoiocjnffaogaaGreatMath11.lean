/- Registers that an instruction writes and reads, as the document tells them. Plain mathematics. -/
import Derived.Test.YtjoiocjnffaogaaGreatS16
import Derived.Test.YtjoiocjnffaogaaGreatReads06
namespace Go.Proofs.YtjoiocjnffaogaaGreat
set_option linter.unusedVariables false
set_option linter.unusedSimpArgs false

/-- The registers of fields of one letter, in order. -/
def pickR (q : Int) : List Int → List Int → List Int
  | [], _ => []
  | x :: L, rs => if isReg x then (if x = q then rs.headD 0 :: pickR q L rs.tail else pickR q L rs.tail) else pickR q L rs
theorem getD_tail (rs : List Int) (n : Nat) : rs.tail.getD n 0 = rs.getD (n + 1) 0 := by cases rs <;> simp [List.getD]
theorem headD_getD (rs : List Int) : rs.headD 0 = rs.getD 0 0 := by cases rs <;> simp [List.getD]
theorem pick_snoc (q : Int) : ∀ (L rs : List Int) (x : Int), pickR q (L ++ [x]) rs = pickR q L rs ++ (if isReg x = true ∧ x = q then [rs.getD (regN L) 0] else [])
  | [], rs, x => by
    simp only [List.nil_append, pickR, regN, headD_getD]
    by_cases h1 : isReg x = true
    · by_cases h2 : x = q
      · simp [h1, h2]
      · simp [h1, h2]
    · simp [h1]
  | y :: L, rs, x => by
    have ih1 := pick_snoc q L rs.tail x
    have ih2 := pick_snoc q L rs x
    simp only [List.cons_append, pickR, regN]
    by_cases h1 : isReg y = true
    · simp only [h1, if_true]
      rw [ih1, getD_tail, Nat.add_comm 1]
      by_cases h2 : y = q
      · simp [h2]
      · simp [h2]
    · simp only [h1, if_false, Nat.zero_add]
      rw [ih2]
      simp
theorem pick_len (q : Int) : ∀ (L rs : List Int), (pickR q L rs).length ≤ L.length
  | [], _ => by simp [pickR]
  | x :: L, rs => by
    have h1 := pick_len q L rs.tail
    have h2 := pick_len q L rs
    simp only [pickR]
    (repeat' split) <;> simp <;> omega
/-- What an instruction writes, and reads. -/
def wrtV (y : InsV) : Int := firstV 119 (itemsOf (shapeI y.op) y.a y.b y.c y.n y.args)
def rdsV (y : InsV) : List Int := readsV (itemsOf (shapeI y.op) y.a y.b y.c y.n y.args)
theorem first_w (n : Int) (args : List Int) : ∀ (L rs : List Int), firstV 119 (itemsL n args L rs) = (pickR 119 L rs).headD (-1)
  | [], rs => by simp [itemsL, firstV, pickR]
  | x :: L, rs => by
    have h1 := first_w n args L rs.tail
    have h2 := first_w n args L rs
    have hskip : ∀ (xs : List Int) (M : List (Int × Int)), x ≠ 119 → firstV 119 (xs.map (fun z => (x, z)) ++ M) = firstV 119 M := by
      intro xs M hne
      induction xs with
      | nil => rfl
      | cons z xs ih' =>
        unfold firstV at ih' ⊢
        rw [List.map_cons, List.cons_append, List.find?_cons_of_neg (by simpa using hne)]
        exact ih'
    rw [itemsL, pickR]
    by_cases hr : isReg x = true
    · rw [if_pos hr]
      by_cases hx : x = 119
      · rw [if_pos hx]
        unfold heldOf
        rw [if_pos hr]
        subst hx
        simp [firstV]
      · rw [if_neg hx, hskip _ _ hx, ← h1]
        unfold restOf
        rw [if_pos hr]
    · rw [if_neg hr]
      have hx : x ≠ 119 := fun e => hr (by subst e; decide)
      rw [hskip _ _ hx, ← h2]
      unfold restOf
      rw [if_neg hr]
/-- No register is read behind the letter of Args. -/
def lastL : List Int → Bool
  | [] => true
  | x :: L => (if x = 108 then !L.contains 114 && !L.contains 108 else true) && lastL L
theorem reads_app (xs : List Int) (x : Int) (M : List (Int × Int)) : readsV (xs.map (fun z => (x, z)) ++ M) = (if x = 114 ∨ x = 108 then xs else []) ++ readsV M := by
  unfold readsV
  rw [List.filter_append, List.map_append]
  congr 1
  induction xs with
  | nil => simp
  | cons z xs ih =>
    rw [List.map_cons, List.filter_cons]
    by_cases h : x = 114 ∨ x = 108
    · have hb : readB (x, z) = true := by unfold readB; rcases h with h | h <;> simp [h]
      rw [hb, if_pos rfl, List.map_cons, ih, if_pos h]
      rw [if_pos h]
    · have hb : readB (x, z) = false := by
        unfold readB
        simp only [not_or] at h
        simp [h.1, h.2]
      rw [hb]
      simp only [Bool.false_eq_true, if_false]
      rw [ih, if_neg h, if_neg h]
theorem pick_none (L : List Int) (h : L.contains 114 = false) : ∀ rs, pickR 114 L rs = [] := by
  induction L with
  | nil => intro rs; simp [pickR]
  | cons x L ih =>
    intro rs
    simp only [List.contains_cons, Bool.or_eq_false_iff] at h
    have hx : ¬ x = 114 := fun e => by subst e; simp at h
    simp [pickR, hx, ih h.2]
theorem reads_pick (n : Int) (args : List Int) : ∀ (L rs : List Int), lastL L = true → readsV (itemsL n args L rs) = pickR 114 L rs ++ (if L.contains 108 then args else [])
  | [], rs, _ => by simp [itemsL, readsV, pickR]
  | x :: L, rs, h => by
    simp only [lastL, Bool.and_eq_true] at h
    have h1 := reads_pick n args L rs.tail h.2
    have h2 := reads_pick n args L rs h.2
    rw [itemsL, reads_app]
    by_cases hr : isReg x = true
    · have hx8 : ¬ x = 108 := fun e => by subst e; revert hr; decide
      have hc : (x :: L).contains 108 = L.contains 108 := by
        simp only [List.contains_cons]
        have : ((108 : Int) == x) = false := by simpa using fun e => hx8 e.symm
        rw [this, Bool.false_or]
      rw [hc]
      unfold restOf heldOf
      rw [if_pos hr, if_pos hr, h1, pickR, if_pos hr]
      by_cases hx : x = 114
      · rw [if_pos (.inl hx), if_pos hx]
        simp
      · rw [if_neg (by simp [hx, hx8]), if_neg hx]
        simp
    · have hx : ¬ x = 114 := fun e => hr (by subst e; decide)
      unfold restOf
      rw [if_neg hr, h2, pickR, if_neg hr]
      by_cases hx8 : x = 108
      · rw [if_pos hx8] at h
        have h8 := h.1
        simp only [Bool.and_eq_true, Bool.not_eq_true'] at h8
        have hc : (x :: L).contains 108 = true := by subst hx8; simp
        rw [if_pos (.inr hx8), hc, h8.2, pick_none L h8.1]
        unfold heldOf
        rw [if_neg hr, if_pos hx8]
        simp
      · have hc : (x :: L).contains 108 = L.contains 108 := by
          simp only [List.contains_cons]
          have : ((108 : Int) == x) = false := by simpa using fun e => hx8 e.symm
          rw [this, Bool.false_or]
        rw [if_neg (by simp [hx, hx8]), hc]
        simp
theorem shapes_last (op : Int) : lastL (lettersOf (shapeI op)) = true := by
  unfold shapeI
  split
  · rename_i h
    have h2 : shapeL.all (fun s => lastL (lettersOf s)) = true := by kernel_rfl
    have hl : shapeL.length = 33 := by kernel_rfl
    have hk : op.toNat < shapeL.length := by omega
    have e : shapeB op.toNat = shapeL[op.toNat] := by simp [shapeB, List.getD, hk]
    rw [e]
    exact List.all_eq_true.1 h2 _ (List.getElem_mem hk)
  · rfl
theorem wrt_pick (y : InsV) : wrtV y = (pickR 119 (lettersOf (shapeI y.op)) [y.a, y.b, y.c]).headD (-1) := first_w _ _ _ _
theorem rds_pick (y : InsV) : rdsV y = pickR 114 (lettersOf (shapeI y.op)) [y.a, y.b, y.c] ++ (if (lettersOf (shapeI y.op)).contains 108 then y.args else []) := reads_pick _ _ _ _ (shapes_last y.op)
end Go.Proofs.YtjoiocjnffaogaaGreat
