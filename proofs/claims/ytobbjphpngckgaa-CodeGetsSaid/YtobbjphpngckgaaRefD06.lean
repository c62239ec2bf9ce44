/- The document's own way of telling whether all fields are nought that are not of the shape (twinshaftref06.bare). Contract; no condition but that the argument is an instruction in memory. -/
import Derived.Test.YtobbjphpngckgaaCheck06
namespace Go.Proofs.Ytobbjphpngckgaa
open Go.RowKit
set_option linter.unusedVariables false
set_option linter.unusedSimpArgs false

abbrev ikS : ByteArray := ⟨#[105, 107, 109, 122, 102, 100, 116, 99]⟩
abbrev lS : ByteArray := ⟨#[108]⟩
def hasOk (s : ByteArray) : Bool := decide (hasV s wrS = regN (lettersOf s)) && (decide (0 < hasV s ikS) == hasN (lettersOf s)) && (decide (0 < hasV s lS) == conL (lettersOf s))
theorem has_ok (op : Int) : hasOk (shapeI op) = true := by
  unfold shapeI
  split
  · rename_i h
    have h2 : shapeL.all hasOk = true := by kernel_rfl
    have hl : shapeL.length = 33 := by kernel_rfl
    have hk : op.toNat < shapeL.length := by omega
    have e : shapeB op.toNat = shapeL[op.toNat] := by simp [shapeB, List.getD, hk]
    rw [e]
    exact List.all_eq_true.1 h2 _ (List.getElem_mem hk)
  · kernel_rfl
theorem has_facts (op : Int) : hasV (shapeI op) wrS = regN (lettersOf (shapeI op)) ∧ decide (0 < hasV (shapeI op) ikS) = hasN (lettersOf (shapeI op)) ∧ decide (0 < hasV (shapeI op) lS) = conL (lettersOf (shapeI op)) := by
  have h := has_ok op
  unfold hasOk at h
  simp only [Bool.and_eq_true, decide_eq_true_eq, beq_iff_eq] at h
  exact ⟨h.1.1, h.1.2, h.2⟩
theorem bare_early {L : List Int} {a b c n : Int} {args : List Int} {k : Nat} (h1 : regN L ≤ k) (h2 : k < 3) (h : [a, b, c].getD k 0 ≠ 0) : bareV L a b c n args = false := by
  have hall : ([a, b, c].drop (regN L)).all (fun x => x == 0) = false := by
    rw [List.all_eq_false]
    refine ⟨[a, b, c].getD k 0, ?_, by simpa using h⟩
    have hk : k < [a, b, c].length := h2
    have e : ([a, b, c].drop (regN L))[k - regN L]'(by simp; omega) = [a, b, c].getD k 0 := by
      rw [List.getElem_drop]
      have : regN L + (k - regN L) = k := by omega
      simp only [this]
      simp [List.getD, List.getElem?_eq_getElem hk]
    rw [← e]
    exact List.getElem_mem _
  unfold bareV
  rw [hall]
  rfl
theorem bare_late {L : List Int} {a b c n : Int} {args : List Int} (h : ∀ t, regN L ≤ t → t < 3 → [a, b, c].getD t 0 = 0) : bareV L a b c n args = ((hasN L || n == 0) && (conL L || args.isEmpty)) := by
  have hall : ([a, b, c].drop (regN L)).all (fun x => x == 0) = true := by
    rw [List.all_eq_true]
    intro x hx
    obtain ⟨i, hi, rfl⟩ := List.getElem_of_mem hx
    have hi' : regN L + i < 3 := by simp at hi; omega
    have := h (regN L + i) (by omega) hi'
    rw [List.getElem_drop]
    simp [List.getD] at this
    have hl : regN L + i < [a, b, c].length := hi'
    rw [List.getElem?_eq_getElem hl] at this
    simpa using this
  unfold bareV
  rw [hall]
  rfl

set_option maxHeartbeats 4000000 in
set_option maxRecDepth 100000 in
theorem bare_any (op a b c n : Int) (X : Value) (args : List Int) (w : World) (hX : IsNums .i64 w w.heap.size X args) : Calls Try.prog 58 #[.agg (insCells op a b c n X)] w (Makes w (.bool (bareV (lettersOf (shapeI op)) a b c n args))) := by
  obtain ⟨XA, Xc, rfl⟩ := hX.len
  have hm := hX.1
  unfold maxLen at hm
  obtain ⟨f1, f2, f3⟩ := has_facts op
  have hsm := shapes_small op
  have hr3 := okShape_reg (shapes_ok op)
  have hh1 := fun w => has_any (shapeI op) wrS w (by omega) (by decide)
  have hh2 := fun w => has_any (shapeI op) ikS w (by omega) (by decide)
  have hh3 := fun w => has_any (shapeI op) lS w (by omega) (by decide)
  rw [f1] at hh1
  have HS := Lib.hid (fun w => rshape_any op w)
  obtain ⟨sh, hsh⟩ : ∃ sh, sh = shapeI op := ⟨_, rfl⟩
  rw [← hsh] at hh1 hh2 hh3 HS f1 f2 f3 hsm hr3 ⊢
  obtain ⟨L, hL⟩ : ∃ L, L = lettersOf sh := ⟨_, rfl⟩
  rw [← hL] at f1 f2 f3 hr3 hh1 ⊢
  obtain ⟨v2, hv2⟩ : ∃ v, v = hasV sh ikS := ⟨_, rfl⟩
  obtain ⟨v3, hv3⟩ : ∃ v, v = hasV sh lS := ⟨_, rfl⟩
  rw [← hv2] at hh2 f2
  rw [← hv3] at hh3 f3
  obtain ⟨m, hmv⟩ : ∃ m, m = regN L := ⟨_, rfl⟩
  rw [← hmv] at hh1
  have H1 := Lib.hid hh1
  have HM := Lib.hid hmv
  have hm3 : m ≤ 3 := by omega
  clear hX f1 hh1 hsh hL hv2 hv3 hmv hr3 hsm
  obtain ⟨w1, hw1⟩ : ∃ w1, w1 = (w.alloc (.cells (insCells op a b c n (.slice XA args.length Xc)) 35)) := ⟨_, rfl⟩
  have hb1 : Below w.heap.size w w1 := by rw [hw1]; exact (Below.refl _ w).alloc (Nat.le_refl _) _
  have hrow1 : w1.heap[w.heap.size]? = some (.cells (insCells op a b c n (.slice XA args.length Xc)) 35 (0, 0)) := by rw [hw1]; exact heap_alloc_new _ _
  have HW1 := Lib.hid hw1
  have HB1 := Lib.hid hb1
  have HR1 := Lib.hid hrow1
  clear hw1 hb1 hrow1
  have H2 := Lib.hid hh2
  have H3 := Lib.hid hh3
  clear hh2 hh3
  go_enter Try.func58, Try.ntmps58
  go_wp2_with (first
    | (go_at_call 39; (with_reducible refine (HS.out _).mono ?_); rintro e w2 ⟨rfl, rfl⟩)
    | (go_at_call 69; (with_reducible refine (H1.out _).mono ?_); rintro e w2 ⟨rfl, kd, rfl⟩))
  rw [← HW1.out]
  obtain ⟨w3, hw3⟩ : ∃ w3, w3 = (w1.drewN kd).alloc (.cells #[.int .i64 a, .int .i64 b, .int .i64 c] 3) := ⟨_, rfl⟩
  have hs1 : w1.heap.size = w.heap.size + 1 := by rw [HW1.out]; simp
  have hb3 : Below w.heap.size w w3 := by rw [hw3]; exact (below_drewN HB1.out kd).alloc HB1.out.size _
  have hrow3 : w3.heap[w.heap.size]? = some (.cells (insCells op a b c n (.slice XA args.length Xc)) 35 (0, 0)) := by
    rw [hw3]
    exact (Below.heap_alloc _ _ _ (show w.heap.size < w1.heap.size from heap_lt HR1.out)).trans HR1.out
  have hreg3 : w3.heap[w.heap.size + 1]? = some (.cells #[.int .i64 a, .int .i64 b, .int .i64 c] 3 (0, 0)) := by rw [hw3, ← hs1]; exact heap_alloc_new (w1.drewN kd) _
  rw [← hw3]
  obtain ⟨c0, c1, c2, c3, c4, c5⟩ := cells6 hrow3
  have HB3 := Lib.hid hb3
  have HRg := Lib.hid hreg3
  obtain ⟨len, hlen⟩ : ∃ len, len = args.length := ⟨_, rfl⟩
  have HLn := Lib.hid hlen
  rw [← hlen] at c5 hm
  clear hb3 hrow3 hreg3 hw3 hs1 hlen c0 c1 c2 c3 HW1 HB1 HR1
  go_loop [6] (fun i => ∃ k : Nat, m ≤ k ∧ k ≤ 3 ∧ i = .int .i64 k ∧ ∀ t, m ≤ t → t < k → [a, b, c].getD t 0 = 0) (fun i => 3 - (intOf i).toNat)
  case atStart => exact ⟨m, Nat.le_refl _, hm3, rfl, fun t h1 h2 => by omega⟩
  case round =>
    obtain ⟨k, hmk, hk3, rfl, hz⟩ := hrel
    have HZ := Lib.hid hz
    clear hz
    by_cases hlt : k < 3
    · obtain ⟨x, hx⟩ : ∃ x, x = [a, b, c].getD k 0 := ⟨_, rfl⟩
      have hcell : w3.cell? ⟨w.heap.size + 1, k, none⟩ = some (.int .i64 x) := by
        rw [hx]
        rcases (show k = 0 ∨ k = 1 ∨ k = 2 by omega) with h | h | h <;> simp [World.cell?, HRg.out, h]
      have HX := Lib.hid hx
      have k0 : (0 : Int) ≤ (k : Int) := by omega
      clear hx
      by_cases hx0 : x = 0
      · have HX0 := Lib.hid hx0
        have e1 : (x != 0) = false := by simpa using hx0
        clear hx0
        go_wp2
        go_round
        case rel => exact ⟨k + 1, by omega, by omega, by go_num, fun t h1 h2 => by
          by_cases e : t = k
          · subst e; rw [← HX.out]; exact HX0.out
          · exact HZ.out t h1 (by omega)⟩
        case measure => simp [intOf]; omega
      · have e1 : (x != 0) = true := by simpa using hx0
        have HE : Hid (bareV L a b c n args = false) := Lib.hid (bare_early (k := k) (by rw [← HM.out]; exact hmk) hlt (by rw [← HX.out]; exact hx0))
        clear hx0
        go_wp2
        go_ret
        rw [HE.out]
        exact ⟨rfl, HB3.out⟩
    · obtain rfl : k = 3 := by omega
      have HBL := Lib.hid (bare_late (L := L) (a := a) (b := b) (c := c) (n := n) (args := args) (fun t h1 h2 => HZ.out t (by rw [HM.out]; exact h1) h2))
      clear HZ hlt hk3 hmk
      by_cases h2 : 0 < v2
      · have HFN : Hid ((hasN L || n == 0) = true) := Lib.hid (by rw [f2.symm.trans (decide_eq_true h2)]; rfl)
        clear f2
        by_cases h3 : 0 < v3
        · have hc : conL L = true := f3.symm.trans (decide_eq_true h3)
          have HE : Hid (bareV L a b c n args = true) := Lib.hid (by rw [HBL.out, hc, HFN.out]; rfl)
          clear hc f3 HFN
          go_wp2_with (first | (go_at_call 69; (with_reducible refine (H2.out _).mono ?_); rintro e w4 ⟨rfl, k2, rfl⟩) | (go_at_call 69; (with_reducible refine (H3.out _).mono ?_); rintro e w4 ⟨rfl, k3, rfl⟩))
          go_ret
          rw [HE.out]
          exact ⟨rfl, by first | exact below_drewN (below_drewN HB3.out _) _ | exact below_drewN HB3.out _ | exact HB3.out⟩
        · have hc : conL L = false := f3.symm.trans (decide_eq_false h3)
          have h30 : v3 = 0 := by omega
          subst h30
          have H3' : Hid (∀ w, Calls Try.prog 69 #[.string sh, .string lS] w (Drawn3 w (.int .i64 0))) := Lib.hid (fun w => H3.out w)
          clear H3
          have H3 := H3'
          clear H3' h3 f3
          by_cases hz : len = 0
          · have ha : args.isEmpty = true := by
              have := HLn.out
              rw [hz] at this
              rw [List.eq_nil_of_length_eq_zero this.symm]; rfl
            have HE : Hid (bareV L a b c n args = true) := Lib.hid (by rw [HBL.out, hc, HFN.out, ha]; rfl)
            have e5 : ((len : Int) == 0) = true := by rw [hz]; rfl
            clear hc ha hz HFN
            go_wp2_with (first | (go_at_call 69; (with_reducible refine (H2.out _).mono ?_); rintro e w4 ⟨rfl, k2, rfl⟩) | (go_at_call 69; (with_reducible refine (H3.out _).mono ?_); rintro e w4 ⟨rfl, k3, rfl⟩))
            go_ret
            rw [HE.out]
            exact ⟨rfl, by first | exact below_drewN (below_drewN HB3.out _) _ | exact below_drewN HB3.out _ | exact HB3.out⟩
          · have ha : args.isEmpty = false := by
              cases hh : args with
              | nil => rw [hh] at HLn; exact absurd HLn.out hz
              | cons x xs => rfl
            have HE : Hid (bareV L a b c n args = false) := Lib.hid (by rw [HBL.out, hc, HFN.out, ha]; rfl)
            have e5 : ((len : Int) == 0) = false := by simpa using hz
            clear hc ha hz HFN
            go_wp2_with (first | (go_at_call 69; (with_reducible refine (H2.out _).mono ?_); rintro e w4 ⟨rfl, k2, rfl⟩) | (go_at_call 69; (with_reducible refine (H3.out _).mono ?_); rintro e w4 ⟨rfl, k3, rfl⟩))
            go_ret
            rw [HE.out]
            exact ⟨rfl, by first | exact below_drewN (below_drewN HB3.out _) _ | exact below_drewN HB3.out _ | exact HB3.out⟩
      · have hN : hasN L = false := f2.symm.trans (decide_eq_false h2)
        have h20 : v2 = 0 := by omega
        subst h20
        have H2' : Hid (∀ w, Calls Try.prog 69 #[.string sh, .string ikS] w (Drawn3 w (.int .i64 0))) := Lib.hid (fun w => H2.out w)
        clear H2
        have H2 := H2'
        clear H2' h2 f2
        by_cases hn0 : n = 0
        · have HFN : Hid ((hasN L || n == 0) = true) := Lib.hid (by rw [hN, hn0]; rfl)
          have e4 : (n == 0) = true := by simpa using hn0
          clear hN hn0
          by_cases h3 : 0 < v3
          · have hc : conL L = true := f3.symm.trans (decide_eq_true h3)
            have HE : Hid (bareV L a b c n args = true) := Lib.hid (by rw [HBL.out, hc, HFN.out]; rfl)
            clear hc f3 HFN
            go_wp2_with (first | (go_at_call 69; (with_reducible refine (H2.out _).mono ?_); rintro e w4 ⟨rfl, k2, rfl⟩) | (go_at_call 69; (with_reducible refine (H3.out _).mono ?_); rintro e w4 ⟨rfl, k3, rfl⟩))
            go_ret
            rw [HE.out]
            exact ⟨rfl, by first | exact below_drewN (below_drewN HB3.out _) _ | exact below_drewN HB3.out _ | exact HB3.out⟩
          · have hc : conL L = false := f3.symm.trans (decide_eq_false h3)
            have h30 : v3 = 0 := by omega
            subst h30
            have H3' : Hid (∀ w, Calls Try.prog 69 #[.string sh, .string lS] w (Drawn3 w (.int .i64 0))) := Lib.hid (fun w => H3.out w)
            clear H3
            have H3 := H3'
            clear H3' h3 f3
            by_cases hz : len = 0
            · have ha : args.isEmpty = true := by
                have := HLn.out
                rw [hz] at this
                rw [List.eq_nil_of_length_eq_zero this.symm]; rfl
              have HE : Hid (bareV L a b c n args = true) := Lib.hid (by rw [HBL.out, hc, HFN.out, ha]; rfl)
              have e5 : ((len : Int) == 0) = true := by rw [hz]; rfl
              clear hc ha hz HFN
              go_wp2_with (first | (go_at_call 69; (with_reducible refine (H2.out _).mono ?_); rintro e w4 ⟨rfl, k2, rfl⟩) | (go_at_call 69; (with_reducible refine (H3.out _).mono ?_); rintro e w4 ⟨rfl, k3, rfl⟩))
              go_ret
              rw [HE.out]
              exact ⟨rfl, by first | exact below_drewN (below_drewN HB3.out _) _ | exact below_drewN HB3.out _ | exact HB3.out⟩
            · have ha : args.isEmpty = false := by
                cases hh : args with
                | nil => rw [hh] at HLn; exact absurd HLn.out hz
                | cons x xs => rfl
              have HE : Hid (bareV L a b c n args = false) := Lib.hid (by rw [HBL.out, hc, HFN.out, ha]; rfl)
              have e5 : ((len : Int) == 0) = false := by simpa using hz
              clear hc ha hz HFN
              go_wp2_with (first | (go_at_call 69; (with_reducible refine (H2.out _).mono ?_); rintro e w4 ⟨rfl, k2, rfl⟩) | (go_at_call 69; (with_reducible refine (H3.out _).mono ?_); rintro e w4 ⟨rfl, k3, rfl⟩))
              go_ret
              rw [HE.out]
              exact ⟨rfl, by first | exact below_drewN (below_drewN HB3.out _) _ | exact below_drewN HB3.out _ | exact HB3.out⟩
        · have e4 : (n == 0) = false := by simpa using hn0
          have HE : Hid (bareV L a b c n args = false) := Lib.hid (by rw [HBL.out, hN, e4]; rfl)
          clear hN hn0 f3 H3
          go_wp2_with (go_at_call 69; (with_reducible refine (H2.out _).mono ?_); rintro e w4 ⟨rfl, k2, rfl⟩)
          go_ret
          rw [HE.out]
          exact ⟨rfl, below_drewN HB3.out _⟩

end Go.Proofs.Ytobbjphpngckgaa
