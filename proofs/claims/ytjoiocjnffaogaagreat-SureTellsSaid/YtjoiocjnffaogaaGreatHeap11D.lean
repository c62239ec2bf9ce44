/- The library's up and down over the queue: its numbers are only exchanged. Contracts; no condition but what each names. -/
import Derived.Test.YtjoiocjnffaogaaGreatHeap11C
namespace Go.Proofs.YtjoiocjnffaogaaGreat
open Go.RowKit Go.Shelf
set_option linter.unusedVariables false
set_option linter.unusedSimpArgs false

/-- The queue behind something that only exchanges its numbers. -/
def Turned (B qb wb n : Nat) (V : Value) (f : Nat → Bool) (xs : List Int) (w w' : World) : Prop := ∃ xs', xs'.Perm xs ∧ QAt B w' qb wb n V f xs' ∧ Below B w w'
section
variable {B qb wb n i j : Nat} {w w' : World} {V V' : Value} {f : Nat → Bool} {xs ys : List Int}
theorem Turned.refl (h : QAt B w qb wb n V f xs) : Turned B qb wb n V f xs w w := ⟨xs, .refl _, h, Below.refl _ _⟩
theorem Turned.trans {w2 : World} (h : Turned B qb wb n V f xs w w') (k : ∀ xs', xs'.Perm xs → QAt B w' qb wb n V f xs' → Turned B qb wb n V f xs' w' w2) : Turned B qb wb n V f xs w w2 := by
  obtain ⟨xs', h1, h2, h3⟩ := h
  obtain ⟨xs2, k1, k2, k3⟩ := k xs' h1 h2
  exact ⟨xs2, k1.trans h1, k2, h3.trans k3⟩
theorem Turned.after {w1 w2 : World} (h : Turned B qb wb n V f ys w1 w2) (hp : ys.Perm xs) (hb : Below B w w1) : Turned B qb wb n V f xs w w2 := by
  obtain ⟨xs2, k1, k2, k3⟩ := h
  exact ⟨xs2, k1.trans hp, k2, hb.trans k3⟩
theorem less_at (h : QAt B w qb wb n V f xs) (hi : i < xs.length) (hj : j < xs.length) :
    Calls Tryz.prog 136 #[V, .int .i64 i, .int .i64 j] w fun e w' => ∃ c, e = .returned (.bool c) ∧ QAt B w' qb wb n V f xs ∧ Below B w w' := by
  obtain ⟨g, cap, rfl, hg, hc, hcl⟩ := h.shape (by omega)
  refine (less11 g xs.length cap i j _ _ w (hcl i hi) (hcl j hj) hi hj).mono ?_
  rintro e w' ⟨c, rfl, k, rfl⟩
  exact ⟨c, rfl, h.drewN k, ⟨rfl, rfl, rfl, Nat.le_refl _, fun _ _ => rfl⟩⟩
theorem swap_at (h : QAt B w qb wb n V f xs) (hi : i < xs.length) (hj : j < xs.length) :
    Calls Tryz.prog 140 #[V, .int .i64 i, .int .i64 j] w fun e w' => e = .returned (.tuple #[]) ∧ Turned B qb wb n V f xs w w' := by
  obtain ⟨g, cap, rfl, hg, hc, hcl⟩ := h.shape (by omega)
  have hfz : ∀ k, w.frozen? ⟨g, k, none⟩ = false := fun k => by
    obtain ⟨cur, h1⟩ := h.own.typed (g := g) (by simp [Value.ownBlock])
    exact frozen_of_row w g k cur _ h1
  refine (swap11 g xs.length cap i j _ _ w (hcl i hi) (hcl j hj) hfz hi hj).mono ?_
  rintro e w' ⟨rfl, rfl⟩
  have hl : (xs.set i (xs.getD j 0)).length = xs.length := List.length_set ..
  have o1 := h.drew.own.setAt (p := i) hi (xs.getD j 0)
  have o2 := o1.setAt (p := j) hj (xs.getD i 0)
  have ei : xs.getD i 0 = xs[i] := by simp [List.getD, List.getElem?_eq_getElem hi]
  have ej : xs.getD j 0 = xs[j] := by simp [List.getD, List.getElem?_eq_getElem hj]
  have hb : But (OneBlock g) w ((w.drew.setCell ⟨g, i, none⟩ (.int .i64 (xs.getD j 0))).setCell ⟨g, j, none⟩ (.int .i64 (xs.getD i 0))) :=
    ((But.refl (OneBlock g) w).drew.setCell (p := ⟨g, i, none⟩) (.inl rfl) _).setCell (p := ⟨g, j, none⟩) (.inl rfl) _
  have hgo : OwnB (.slice (some ⟨g, 0, none⟩) xs.length cap) g := by simp [OwnB, Value.ownBlock]
  refine ⟨rfl, (xs.set i (xs.getD j 0)).set j (xs.getD i 0), ?_, ⟨h.box.but hb (fun e => h.ownq (by rw [show qb = g from e]; exact hgo)), o2, h.row.but hb (fun e => h.ownw (by rw [show wb = g from e]; exact hgo)), h.qge, h.wge⟩, ?_⟩
  · rw [ei, ej]
    exact List.set_set_perm hi hj
  · exact (((Below.refl B w).drew).setCell (p := ⟨g, i, none⟩) hg _).setCell (p := ⟨g, j, none⟩) hg _
end
set_option maxRecDepth 100000 in
set_option maxHeartbeats 8000000 in
theorem up11 {B qb wb n : Nat} {w : World} {V : Value} {f : Nat → Bool} {xs : List Int} {j : Nat} (h : QAt B w qb wb n V f xs) (hj : j < xs.length) (hl : xs.length ≤ 100000) :
    Calls Tryz.prog 66 #[.iface 56 (.pointer (some ⟨qb, 0, none⟩)), .int .i64 j] w fun e w' => e = .returned (.tuple #[]) ∧ Turned B qb wb n V f xs w w' := by
  have HQ := Lib.hid h
  have HL := Lib.hid hl
  clear h
  go_enter Tryz.func66, Tryz.ntmps66
  go_wp2
  go_loopw [1] (fun v wr => ∃ (k : Nat), k < xs.length ∧ v = .int .i64 k ∧ Hid (Turned B qb wb n V f xs w wr)) (fun v _ => (intOf v).toNat)
  case atStart => exact ⟨j, hj, rfl, Turned.refl HQ.out⟩
  case round =>
    obtain ⟨k, hk, rfl, HT⟩ := hrel
    obtain ⟨xs', hp, hq, hb⟩ := HT.out
    have hk' : k < xs'.length := by rw [hp.length_eq]; exact hk
    by_cases h0 : k = 0
    · subst h0
      have e1 : Int.tdiv (wrap64 (((0 : Nat) : Int) - 1)) 2 = 0 := by decide +kernel
      go_wp2
      go_end0
      exact ⟨rfl, HT.out⟩
    · obtain ⟨q, hq2⟩ : ∃ q, q = (k - 1) / 2 := ⟨_, rfl⟩
      have hqk : q < k := by omega
      have e0 : wrap64 ((k : Int) - 1) = (k : Int) - 1 := by unfold wrap64; omega
      have e1 : Int.tdiv ((k : Int) - 1) 2 = (q : Int) := by
        rw [show (k : Int) - 1 = ((k - 1 : Nat) : Int) by omega, hq2]; rfl
      have e2 : ((q : Int) == (k : Int)) = false := by simp; omega
      have fl := find_less qb wr V hq.c0
      have HQK := Lib.hid hqk
      clear hq2
      have HLE := Lib.hid (less_at hq hk' (show q < xs'.length by omega))
      go_wp2_with (first
        | (go_at_call 136; (with_reducible refine HLE.out.mono ?_); rintro e w1 ⟨c, rfl, hq1, hb1⟩; have HQ1 := Lib.hid hq1; have HB1 := Lib.hid hb1; have fs := find_swap qb w1 V hq1.c0; have HS1 := Lib.hid (swap_at hq1 (show q < xs'.length by omega) hk'); clear hq1 hb1)
        | (go_at_call 140; (with_reducible refine HS1.out.mono ?_); rintro e w2 ⟨rfl, ht⟩; have HT2 := Lib.hid ht; clear ht))
      · go_end0
        exact ⟨rfl, xs', hp, HQ1.out, hb.trans HB1.out⟩
      · go_roundw
        case rel => exact ⟨q, by omega, rfl, HT2.out.after hp (hb.trans HB1.out)⟩
        case measure => simp [intOf]; omega
set_option maxRecDepth 100000 in
set_option maxHeartbeats 16000000 in
theorem down11 {B qb wb n : Nat} {w : World} {V : Value} {f : Nat → Bool} {xs : List Int} {N : Nat} (h : QAt B w qb wb n V f xs) (hN : N ≤ xs.length) (hl : xs.length ≤ 100000) :
    Calls Tryz.prog 67 #[.iface 56 (.pointer (some ⟨qb, 0, none⟩)), .int .i64 0, .int .i64 N] w fun e w' => ∃ c, e = .returned (.bool c) ∧ Turned B qb wb n V f xs w w' := by
  have HQ := Lib.hid h
  have HN := Lib.hid hN
  have hN2 : N ≤ 100000 := by omega
  clear h hN hl
  go_enter Tryz.func67, Tryz.ntmps67
  go_wp2
  go_loopw [7] (fun v wr => ∃ (k : Nat), k ≤ 100000 ∧ v = .int .i64 k ∧ Hid (Turned B qb wb n V f xs w wr)) (fun v _ => N - (intOf v).toNat)
  case atStart => exact ⟨0, by omega, rfl, Turned.refl HQ.out⟩
  case round =>
    obtain ⟨k, hk, rfl, HT⟩ := hrel
    obtain ⟨xs', hp, hq, hb⟩ := HT.out
    obtain ⟨m, hm⟩ : ∃ m : Nat, m = 2 * k := ⟨_, rfl⟩
    obtain ⟨p, hpm⟩ : ∃ p : Nat, p = m + 1 := ⟨_, rfl⟩
    obtain ⟨q, hqp⟩ : ∃ q : Nat, q = p + 1 := ⟨_, rfl⟩
    have EP := Lib.hid (show (p : Int) = 2 * (k : Int) + 1 by omega)
    have EQ := Lib.hid (show (q : Int) = 2 * (k : Int) + 1 + 1 by omega)
    have p0 : ¬ 2 * (k : Int) + 1 < 0 := by omega
    have HM := Lib.hid (show k < p ∧ p < q by omega)
    have HLN : Hid (N ≤ xs'.length) := Lib.hid (by rw [hp.length_eq]; exact HN.out)
    clear hm hpm hqp
    by_cases hpN : p < N
    · have t1 : ¬ (N : Int) ≤ 2 * (k : Int) + 1 := by have := EP.out; omega
      have hpl : p < xs'.length := Nat.lt_of_lt_of_le hpN HLN.out
      have hkl : k < xs'.length := by have := HM.out; omega
      by_cases hqN : q < N
      · have t2 : 2 * (k : Int) + 1 + 1 < (N : Int) := by have := EQ.out; omega
        have hql : q < xs'.length := Nat.lt_of_lt_of_le hqN HLN.out
        have fl := find_less qb wr V hq.c0
        have HLE := Lib.hid (less_at hq hql hpl)
        rw [EP.out, EQ.out] at HLE
        have HKL := Lib.hid (And.intro hkl (And.intro hpl hql))
        have HQW := Lib.hid (And.intro hpN hqN)
        clear hkl hpl hql hpN hqN hq
        go_wp2_with (first
          | (go_at_call 136; (with_reducible refine HLE.out.mono ?_); rintro e w1 ⟨c, rfl, hq1, hb1⟩; have HQ1 := Lib.hid hq1; have HB1 := Lib.hid hb1; have fl1 := find_less qb w1 V hq1.c0; have HL1 := Lib.hid (less_at hq1 HKL.out.2.1 HKL.out.1); have HL2 := Lib.hid (less_at hq1 HKL.out.2.2 HKL.out.1); rw [EP.out] at HL1; rw [EQ.out] at HL2; clear hq1 hb1)
          | (go_at_call 136; (with_reducible refine HL1.out.mono ?_); rintro e w2 ⟨c2, rfl, hq2, hb2⟩; have HQ2 := Lib.hid hq2; have HB2 := Lib.hid (HB1.out.trans hb2); have fs := find_swap qb w2 V hq2.c0; have HS2 := Lib.hid (swap_at hq2 HKL.out.1 HKL.out.2.1); rw [EP.out] at HS2; clear hq2 hb2)
          | (go_at_call 136; (with_reducible refine HL2.out.mono ?_); rintro e w2 ⟨c2, rfl, hq2, hb2⟩; have HQ2 := Lib.hid hq2; have HB2 := Lib.hid (HB1.out.trans hb2); have fs := find_swap qb w2 V hq2.c0; have HS2 := Lib.hid (swap_at hq2 HKL.out.1 HKL.out.2.2); rw [EQ.out] at HS2; clear hq2 hb2)
          | (go_at_call 140; (with_reducible refine HS2.out.mono ?_); rintro e w3 ⟨rfl, ht⟩; have HT3 := Lib.hid ht; clear ht))
        all_goals first
          | (go_ret; exact ⟨_, rfl, xs', hp, HQ2.out, hb.trans HB2.out⟩)
          | (go_roundw
             case rel => first | exact ⟨q, by have := HQW.out; omega, congrArg (Value.int .i64) EQ.out.symm, HT3.out.after hp (hb.trans HB2.out)⟩ | exact ⟨p, by have := HQW.out; omega, congrArg (Value.int .i64) EP.out.symm, HT3.out.after hp (hb.trans HB2.out)⟩
             case measure => have h1 := HQW.out; have h2 := HM.out; have h3 := EP.out; have h4 := EQ.out; simp [intOf]; omega)
      · have t2 : ¬ 2 * (k : Int) + 1 + 1 < (N : Int) := by have := EQ.out; omega
        have fl := find_less qb wr V hq.c0
        have HLE := Lib.hid (less_at hq hpl hkl)
        rw [EP.out] at HLE
        have HKL := Lib.hid (And.intro hkl hpl)
        have HQW := Lib.hid hpN
        clear hkl hpl hpN hqN hq
        go_wp2_with (first
          | (go_at_call 136; (with_reducible refine HLE.out.mono ?_); rintro e w2 ⟨c2, rfl, hq2, hb2⟩; have HQ2 := Lib.hid hq2; have HB2 := Lib.hid hb2; have fs := find_swap qb w2 V hq2.c0; have HS2 := Lib.hid (swap_at hq2 HKL.out.1 HKL.out.2); rw [EP.out] at HS2; clear hq2 hb2)
          | (go_at_call 140; (with_reducible refine HS2.out.mono ?_); rintro e w3 ⟨rfl, ht⟩; have HT3 := Lib.hid ht; clear ht))
        all_goals first
          | (go_ret; exact ⟨_, rfl, xs', hp, HQ2.out, hb.trans HB2.out⟩)
          | (go_roundw
             case rel => exact ⟨p, by have := HQW.out; omega, congrArg (Value.int .i64) EP.out.symm, HT3.out.after hp (hb.trans HB2.out)⟩
             case measure => have h1 := HQW.out; have h2 := HM.out; have h3 := EP.out; simp [intOf]; omega)
    · have t1 : (N : Int) ≤ 2 * (k : Int) + 1 := by have := EP.out; omega
      go_wp2
      go_ret
      refine ⟨?_, HT.out⟩
      cases decide (0 < k) with
      | false => exact .inl rfl
      | true => exact .inr rfl
end Go.Proofs.YtjoiocjnffaogaaGreat
