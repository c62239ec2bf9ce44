/- The landed way and the document's own way of telling why an instruction may not be are the same: plain mathematics over both. -/
import Derived.Test.YtobbjphpngckgaaCheck06
import Derived.Test.YtobbjphpngckgaaRefF06
namespace Go.Proofs.Ytobbjphpngckgaa
set_option linter.unusedVariables false
set_option linter.unusedSimpArgs false

def InI (x : Int) : Prop := -9223372036854775808 ≤ x ∧ x < 9223372036854775808
theorem fit_reg {regs area q x : Int} (h : isReg q = true ∨ q = 108) : fitB regs area (q, x) = okR regs x := by
  have hq : q = 119 ∨ q = 114 ∨ q = 108 := by
    rcases h with h | h
    · have := of_decide_eq_true h
      rcases this with h | h
      · exact .inl h
      · exact .inr (.inl h)
    · exact .inr (.inr h)
  rw [Bool.eq_iff_iff]
  rcases hq with rfl | rfl | rfl <;> simp [fitB, limV, okR] <;> omega
theorem fit_num {regs area q n : Int} (hr : isReg q = false) (h8 : q ≠ 108) (hn : InI n) : fitB regs area (q, n) = numB q n area := by
  have hq : q ≠ 119 ∧ q ≠ 114 := not_or.1 (of_decide_eq_false hr)
  unfold InI at hn
  rw [Bool.eq_iff_iff]
  by_cases h107 : q = 107
  · subst h107; simp [fitB, limV, numB]
  by_cases h109 : q = 109
  · subst h109; simp [fitB, limV, numB]
  by_cases h122 : q = 122
  · subst h122; simp [fitB, limV, numB]; omega
  by_cases h102 : q = 102
  · subst h102; simp [fitB, limV, numB]
  by_cases h100 : q = 100
  · subst h100; simp [fitB, limV, numB]
  by_cases h116 : q = 116
  · subst h116; simp [fitB, limV, numB]; omega
  by_cases h99 : q = 99
  · subst h99; simp [fitB, limV, numB]; omega
  simp [fitB, limV, numB, hq, h8, h107, h109, h122, h102, h100, h116, h99]
  omega
theorem num_reg {area q n : Int} (h : isReg q = true ∨ q = 108) : numB q n area = true := by
  have hq : q = 119 ∨ q = 114 ∨ q = 108 := by
    rcases h with h | h
    · have := of_decide_eq_true h
      rcases this with h | h
      · exact .inl h
      · exact .inr (.inl h)
    · exact .inr (.inr h)
  rcases hq with rfl | rfl | rfl <;> rfl
theorem items_all (regs area n : Int) (args : List Int) (hn : InI n) : ∀ (L rs : List Int), regN L ≤ rs.length →
    (itemsL n args L rs).all (fitB regs area) = ((rs.take (regN L)).all (okR regs) && ((!conL L || args.all (okR regs)) && L.all (fun q => numB q n area))) := by
  intro L
  induction L with
  | nil => intro rs _; simp [itemsL, regN, conL]
  | cons q qs ih =>
    intro rs hl
    simp only [itemsL, List.all_append]
    by_cases hr : isReg q = true
    · simp only [regN, hr, if_true] at hl
      cases rs with
      | nil => simp at hl
      | cons r rs =>
        have h1 := ih rs (by simp at hl; omega)
        have e1 : heldOf n args q (r :: rs) = [r] := by simp [heldOf, hr]
        have e2 : restOf q (r :: rs) = rs := by simp [restOf, hr]
        have e3 : regN (q :: qs) = regN qs + 1 := by simp [regN, hr]; omega
        have e4 : conL (q :: qs) = conL qs := by
          rcases of_decide_eq_true hr with h | h <;> simp [conL, h]
        rw [e1, e2, h1, e3, e4]
        simp only [List.map_cons, List.map_nil, List.all_cons, List.all_nil, Bool.and_true, List.take_succ_cons, fit_reg (area := area) (.inl hr), num_reg (n := n) (area := area) (.inl hr), Bool.true_and]
        cases okR regs r <;> simp
    · have hrf : isReg q = false := Bool.eq_false_iff.2 hr
      have e3 : regN (q :: qs) = regN qs := by simp [regN, hrf]
      rw [e3] at hl ⊢
      have e2 : restOf q rs = rs := by simp [restOf, hrf]
      have h1 := ih rs hl
      rw [e2, h1]
      by_cases h8 : q = 108
      · subst h8
        have e1 : heldOf n args 108 rs = args := by simp [heldOf, hrf]
        have e4 : conL (108 :: qs) = true := by simp [conL]
        rw [e1, e4]
        have e5 : (args.map fun x => ((108 : Int), x)).all (fitB regs area) = args.all (okR regs) := by
          rw [List.all_map]
          congr 1
          funext x
          exact fit_reg (.inr rfl)
        rw [e5]
        simp only [List.all_cons, num_reg (n := n) (area := area) (q := 108) (.inr rfl), Bool.true_and, Bool.not_true, Bool.false_or]
        cases args.all (okR regs) <;> cases conL qs <;> simp
      · have e1 : heldOf n args q rs = [n] := by simp [heldOf, hrf, h8]
        have e4 : conL (q :: qs) = conL qs := by simp [conL, h8]
        rw [e1, e4]
        simp only [List.map_cons, List.map_nil, List.all_cons, List.all_nil, Bool.and_true, fit_num hrf h8 hn]
        cases numB q n area <;> simp
theorem check_same (op a b c n : Int) (args : List Int) (regs area : Int) (hn : InI n) : checkV op a b c n args regs area = rcheckV op a b c n args regs area := by
  unfold checkV rcheckV
  by_cases hb : bareV (lettersOf (shapeI op)) a b c n args = false
  · simp only [hb, if_true]
  · have hr3 := okShape_reg (shapes_ok op)
    have h := items_all regs area n args hn (lettersOf (shapeI op)) [a, b, c] (by simpa using hr3)
    have hz : (!conL (lettersOf (shapeI op)) || args.all (okR regs)) = args.all (okR regs) := by
      have hb' : bareV (lettersOf (shapeI op)) a b c n args = true := by simpa using hb
      unfold bareV at hb'
      simp only [Bool.and_eq_true] at hb'
      cases hc : conL (lettersOf (shapeI op)) with
      | true => rfl
      | false =>
        have := hb'.2.2
        rw [hc] at this
        simp at this
        rw [this]; rfl
    rw [hz] at h
    unfold itemsOf
    rw [h, List.all_append]
    generalize ([a, b, c].take (regN (lettersOf (shapeI op)))).all (okR regs) = u
    generalize args.all (okR regs) = v
    generalize (lettersOf (shapeI op)).all (fun q => numB q n area) = t
    cases u <;> cases v <;> cases t <;> simp
end Go.Proofs.Ytobbjphpngckgaa
