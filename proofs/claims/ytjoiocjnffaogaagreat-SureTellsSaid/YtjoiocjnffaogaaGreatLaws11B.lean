/- The chapter's examples of layer 11: awake, and SureKnown. Contracts; the condition is what is named of the landed Masks and Unset (Sure11). -/
import Derived.Test.YtjoiocjnffaogaaGreatLaws11A
import Derived.Test.YtjoiocjnffaogaaGreatRef11C
namespace Go.Proofs.YtjoiocjnffaogaaGreat
open Go.RowKit
set_option linter.unusedVariables false
set_option linter.unusedSimpArgs false

/-- What the statements want of the landed Masks and Unset. -/
structure Sure11 : Prop where
  masks : ∀ (V : Value) (l : List InsV) (p : Int) (W : World), IsCode W W.heap.size V l → InI p → Calls Tryz.prog 7 #[V, .int .i64 p] W (MasksN W l p l.length)
  unset : ∀ (V : Value) (l : List InsV) (p : Int) (W : World), IsCode W W.heap.size V l → InI p → Calls Tryz.prog 9 #[V, .int .i64 p] W (UnsetN W l p)
theorem not_bad {p : Int} (h0 : 0 ≤ p) (h8 : p ≤ 8) : ¬ badP p := by unfold badP; omega
theorem Sure11.masks_ok (S : Sure11) {V : Value} {l : List InsV} {p : Nat} {W : World} (h : IsCode W W.heap.size V l) (h8 : p ≤ 8) (h0 : check10 l = 0) :
    Calls Tryz.prog 7 #[V, .int .i64 p] W fun e w' => Below W.heap.size W w' ∧ ∃ gb, e = .returned (.tuple #[.slice (some ⟨gb, 0, none⟩) l.length l.length, .int .i64 0]) ∧ W.heap.size ≤ gb ∧ RowAt w' gb l.length 30 (wordsU (maskV l p)) :=
  (S.masks V l p W h (by unfold InI; omega)).mono fun e w' hh => ⟨hh.1, by
    have := ((hh.2.resolve_left (fun h => not_bad (by omega) (by omega) h.1)).resolve_left (fun h => h.2.1 h0)).2.2
    rw [Int.toNat_natCast] at this
    exact this⟩
theorem Sure11.unset_is (S : Sure11) {V : Value} {l : List InsV} {p : Nat} {W : World} {i r : Int} (h : IsCode W W.heap.size V l) (h8 : p ≤ 8) (h0 : check10 l = 0) (hu : UnsIs l p i r) :
    Calls Tryz.prog 9 #[V, .int .i64 p] W fun e w' => e = .returned (.tuple #[.int .i64 i, .int .i64 r, .int .i64 0]) ∧ Below W.heap.size W w' :=
  (S.unset V l p W h (by unfold InI; omega)).mono fun e w' hh => by
    obtain ⟨_, _, j, s, he, hk⟩ := (hh.2.resolve_left (fun h => not_bad (by omega) (by omega) h.1)).resolve_left (fun h => h.2.1 h0)
    rw [Int.toNat_natCast] at hk
    obtain ⟨h1, h2⟩ := hk.uniq hu
    subst h1 h2
    exact ⟨he, hh.1⟩
theorem unset11_yes (S : Sure11) {V : Value} {l : List InsV} {p : Nat} {i r : Int} (hI : ∀ (p q : Nat), p = q → True) (h8 : p ≤ 8) (h0 : check10 l = 0) (hu : UnsIs l p i r) (w : World) (h : IsCode w w.heap.size V l) :
    Calls Tryz.prog 13 #[V, .int .i64 p, .int .i64 i, .int .i64 r] w (Makes w (.bool true)) := by
  have HU := Lib.hid (S.unset_is h h8 h0 hu)
  have e1 : (i == i) = true := by simp
  have e2 : (r == r) = true := by simp
  clear h hu h0 h8 hI
  go_enter Tryz.func13, Tryz.ntmps13
  go_wp2_with (go_at_call 9; (with_reducible refine HU.out.mono ?_); rintro e w1 ⟨rfl, hb⟩; have HB1 := Lib.hid hb; clear hb)
  go_ret
  exact ⟨by first | rfl | simp, HB1.out⟩
theorem three_rds : rdsV (threeV.getD 0 .zero) = [0] ∧ rdsV (threeV.getD 1 .zero) = [] ∧ rdsV (threeV.getD 2 .zero) = [1] := by decide +kernel
theorem nop_rds : rdsV (nopV.getD 0 .zero) = [] ∧ rdsV (nopV.getD 1 .zero) = [0] := by decide +kernel
theorem three_s : sureB threeV 0 0 0 = false ∧ sureB threeV 1 0 0 = true ∧ sureB threeV 1 1 2 = false ∧ sureB threeV 2 0 0 = true ∧ sureB threeV 2 1 2 = true := by decide +kernel
theorem uns_three0 : UnsIs threeV 0 0 0 := by
  obtain ⟨r0, r1, r2⟩ := three_rds
  refine .inr ⟨0, 0, by decide, by rw [r0]; decide, rfl, by rw [r0]; rfl, fun a ha => absurd ha (by omega), fun k hk => absurd hk (by omega), three_s.1⟩
theorem uns_three1 : UnsIs threeV 1 2 1 := by
  obtain ⟨r0, r1, r2⟩ := three_rds
  refine .inr ⟨2, 0, by decide, by rw [r2]; decide, rfl, by rw [r2]; rfl, fun a ha x hx => ?_, fun k hk => absurd hk (by omega), three_s.2.2.1⟩
  rcases (show a = 0 ∨ a = 1 by omega) with rfl | rfl
  · rw [r0] at hx
    simp at hx
    subst hx
    exact three_s.2.1
  · rw [r1] at hx
    simp at hx
theorem uns_three2 : UnsIs threeV 2 (-1) (-1) := by
  obtain ⟨r0, r1, r2⟩ := three_rds
  refine .inl ⟨rfl, rfl, fun a ha x hx => ?_⟩
  have ha : a < 3 := ha
  rcases (show a = 0 ∨ a = 1 ∨ a = 2 by omega) with rfl | rfl | rfl
  · rw [r0] at hx
    simp at hx
    subst hx
    exact three_s.2.2.2.1
  · rw [r1] at hx
    simp at hx
  · rw [r2] at hx
    simp at hx
    subst hx
    exact three_s.2.2.2.2
theorem uns_nop : UnsIs nopV 0 1 0 := by
  obtain ⟨r0, r1⟩ := nop_rds
  refine .inr ⟨1, 0, by decide, by rw [r1]; decide, rfl, by rw [r1]; rfl, fun a ha x hx => ?_, fun k hk => absurd hk (by omega), nop_sure⟩
  obtain rfl : a = 0 := by omega
  rw [r0] at hx
  simp at hx
theorem three_m : maskV threeV 1 0 = 1 ∧ maskV threeV 1 1 = 1 ∧ maskV threeV 1 2 = 1 := by decide +kernel
theorem nop_m : maskV nopV 0 0 = 0 ∧ maskV nopV 0 1 = 0 := by decide +kernel
set_option maxRecDepth 100000 in
set_option maxHeartbeats 8000000 in
theorem awake11_any (S : Sure11) (w : World) : Calls Tryz.prog 5 #[] w (Makes w (.bool true)) := by
  have HM : Hid (∀ V W, IsCode W W.heap.size V threeV → Calls Tryz.prog 7 #[V, .int .i64 1] W fun e w' => Below W.heap.size W w' ∧ ∃ gb, e = .returned (.tuple #[.slice (some ⟨gb, 0, none⟩) 3 3, .int .i64 0]) ∧ W.heap.size ≤ gb ∧ RowAt w' gb 3 30 (wordsU (maskV threeV 1))) := Lib.hid (fun V W h => S.masks_ok (p := 1) h (by decide) three_check)
  have HU1 : Hid (∀ V W, IsCode W W.heap.size V threeV → Calls Tryz.prog 13 #[V, .int .i64 1, .int .i64 2, .int .i64 1] W (Makes W (.bool true))) := Lib.hid (fun V W h => unset11_yes S (p := 1) (fun _ _ _ => trivial) (by decide) three_check uns_three1 W h)
  have HU2 : Hid (∀ V W, IsCode W W.heap.size V threeV → Calls Tryz.prog 13 #[V, .int .i64 2, .int .i64 (-1), .int .i64 (-1)] W (Makes W (.bool true))) := Lib.hid (fun V W h => unset11_yes S (p := 2) (fun _ _ _ => trivial) (by decide) three_check uns_three2 W h)
  clear S
  go_enter Tryz.func5, Tryz.ntmps5
  go_wp2_with (first
    | (go_at_call 12; (with_reducible refine (three_any w).mono ?_); rintro e w1 ⟨rfl, hb, hc⟩; have HB1 := Lib.hid hb; have HC1 := Lib.hid hc; clear hb hc)
    | (go_at_call 7; (with_reducible refine (HM.out _ _ HC1.out).mono ?_); rintro e w2 ⟨hb, gb, rfl, hge, hrow⟩; have HB2 := Lib.hid (HB1.out.trans (hb.mono HB1.out.size)); have z0 : w2.cell? ⟨gb, 0, none⟩ = some (.int .u64 1) := (by have := hrow.cell (i := 0) (by decide); rw [this]; simp [wordsU, three_m.1]); have z1 : w2.cell? ⟨gb, 1, none⟩ = some (.int .u64 1) := (by have := hrow.cell (i := 1) (by decide); rw [this]; simp [wordsU, three_m.2.1]); have z2 : w2.cell? ⟨gb, 2, none⟩ = some (.int .u64 1) := (by have := hrow.cell (i := 2) (by decide); rw [this]; simp [wordsU, three_m.2.2]); clear hb hge hrow)
    | (go_at_call 12; (with_reducible refine (three_any w2).mono ?_); rintro e w3 ⟨rfl, hb, hc⟩; have HB3 := Lib.hid (HB2.out.trans (hb.mono HB2.out.size)); have HC3 := Lib.hid hc; clear hb hc)
    | (go_at_call 13; (with_reducible refine (HU1.out _ _ HC3.out).mono ?_); rintro e w4 ⟨rfl, hb⟩; have HB4 := Lib.hid (HB3.out.trans (hb.mono HB3.out.size)); clear hb)
    | (go_at_call 12; (with_reducible refine (three_any w4).mono ?_); rintro e w5 ⟨rfl, hb, hc⟩; have HB5 := Lib.hid (HB4.out.trans (hb.mono HB4.out.size)); have HC5 := Lib.hid hc; clear hb hc)
    | (go_at_call 13; (with_reducible refine (HU2.out _ _ HC5.out).mono ?_); rintro e w6 ⟨rfl, hb⟩; have HB6 := Lib.hid (HB5.out.trans (hb.mono HB5.out.size)); clear hb))
  go_ret
  exact ⟨rfl, HB6.out⟩
end Go.Proofs.YtjoiocjnffaogaaGreat
