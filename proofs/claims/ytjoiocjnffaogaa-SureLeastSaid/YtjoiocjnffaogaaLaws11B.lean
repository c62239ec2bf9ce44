/- The chapter's examples of layer 11: awake, and SureKnown. Contracts; the condition is what is named of the landed Masks and Unset (Sure11). -/
import Derived.Test.YtjoiocjnffaogaaLaws11A
import Derived.Test.YtjoiocjnffaogaaRef11C
namespace Go.Proofs.Ytjoiocjnffaogaa
open Go.RowKit
set_option linter.unusedVariables false
set_option linter.unusedSimpArgs false

/-- What the statements want of the landed Masks and Unset. -/
structure Sure11 : Prop where
  masks : ∀ (V : Value) (l : List InsV) (p : Int) (W : World), IsCode W W.heap.size V l → InI p → Calls Try.prog 6 #[V, .int .i64 p] W (MasksN W l p l.length)
  unset : ∀ (V : Value) (l : List InsV) (p : Int) (W : World), IsCode W W.heap.size V l → InI p → Calls Try.prog 18 #[V, .int .i64 p] W (UnsetN W l p)
theorem not_bad {p : Int} (h0 : 0 ≤ p) (h8 : p ≤ 8) : ¬ badP p := by unfold badP; omega
theorem Sure11.masks_ok (S : Sure11) {V : Value} {l : List InsV} {p : Nat} {W : World} (h : IsCode W W.heap.size V l) (h8 : p ≤ 8) (h0 : check10 l = 0) :
    Calls Try.prog 6 #[V, .int .i64 p] W fun e w' => Below W.heap.size W w' ∧ ∃ gb, e = .returned (.tuple #[.slice (some ⟨gb, 0, none⟩) l.length l.length, .int .i64 0]) ∧ W.heap.size ≤ gb ∧ RowAt w' gb l.length 33 (wordsU (maskV l p)) :=
  (S.masks V l p W h (by unfold InI; omega)).mono fun e w' hh => ⟨hh.1, by
    have := ((hh.2.resolve_left (fun h => not_bad (by omega) (by omega) h.1)).resolve_left (fun h => h.2.1 h0)).2.2
    rw [Int.toNat_natCast] at this
    exact this⟩
theorem Sure11.unset_is (S : Sure11) {V : Value} {l : List InsV} {p : Nat} {W : World} {i r : Int} (h : IsCode W W.heap.size V l) (h8 : p ≤ 8) (h0 : check10 l = 0) (hu : UnsIs l p i r) :
    Calls Try.prog 18 #[V, .int .i64 p] W fun e w' => e = .returned (.tuple #[.int .i64 i, .int .i64 r, .int .i64 0]) ∧ Below W.heap.size W w' :=
  (S.unset V l p W h (by unfold InI; omega)).mono fun e w' hh => by
    obtain ⟨_, _, j, s, he, hk⟩ := (hh.2.resolve_left (fun h => not_bad (by omega) (by omega) h.1)).resolve_left (fun h => h.2.1 h0)
    rw [Int.toNat_natCast] at hk
    obtain ⟨h1, h2⟩ := hk.uniq hu
    subst h1 h2
    exact ⟨he, hh.1⟩
theorem unset11_yes (S : Sure11) {V : Value} {l : List InsV} {p : Nat} {i r : Int} (hI : ∀ (p q : Nat), p = q → True) (h8 : p ≤ 8) (h0 : check10 l = 0) (hu : UnsIs l p i r) (w : World) (h : IsCode w w.heap.size V l) :
    Calls Try.prog 9 #[V, .int .i64 p, .int .i64 i, .int .i64 r] w (Makes w (.bool true)) := by
  have HU := Lib.hid (S.unset_is h h8 h0 hu)
  have e1 : (i == i) = true := by simp
  have e2 : (r == r) = true := by simp
  clear h hu h0 h8 hI
  go_enter Try.func9, Try.ntmps9
  go_wp2_with (go_at_call 18; (with_reducible refine HU.out.mono ?_); rintro e w1 ⟨rfl, hb⟩; have HB1 := Lib.hid hb; clear hb)
  go_ret
  exact ⟨by first | rfl | simp, HB1.out⟩
theorem three_rds : rdsV (threeV.getD 0 .zero) = [0] ∧ rdsV (threeV.getD 1 .zero) = [] ∧ rdsV (threeV.getD 2 .zero) = [1] := by decide +kernel
theorem nop_rds : rdsV (nopV.getD 0 .zero) = [] ∧ rdsV (nopV.getD 1 .zero) = [0] := by decide +kernel
theorem three_s : sureB threeV 0 0 0 = false ∧ sureB threeV 1 0 0 = true ∧ sureB threeV 1 1 2 = false ∧ sureB threeV 2 0 0 = true ∧ sureB threeV 2 1 2 = true := by decide +kernel
theorem uns_three0 : UnsIs threeV 0 0 0 := by
  obtain ⟨r0, r1, r2⟩ := three_rds
  refine .inr ⟨0, 0, by decide, by rw [r0]; decide, rfl, by rw [r0]; rfl, fun a ha => absurd ha (by omega), fun k hk => absurd hk (by omega), three_s.1⟩
theorem uns_three1 : UnsIs threeV 1 2 1 := by
  obtain ⟨r0, r1, r2⟩ := three_rds
  refine .inr ⟨2, 0, by decide, by rw [r2]; decide, rfl, by rw [r2]; rfl, fun a ha x hx => ?_, fun k hk => absurd hk (by omega), three_s.2.2.1⟩
  rcases (show a = 0 ∨ a = 1 by omega) with rfl | rfl
  · rw [r0] at hx
    simp at hx
    subst hx
    exact three_s.2.1
  · rw [r1] at hx
    simp at hx
theorem uns_three2 : UnsIs threeV 2 (-1) (-1) := by
  obtain ⟨r0, r1, r2⟩ := three_rds
  refine .inl ⟨rfl, rfl, fun a ha x hx => ?_⟩
  have ha : a < 3 := ha
  rcases (show a = 0 ∨ a = 1 ∨ a = 2 by omega) with rfl | rfl | rfl
  · rw [r0] at hx
    simp at hx
    subst hx
    exact three_s.2.2.2.1
  · rw [r1] at hx
    simp at hx
  · rw [r2] at hx
    simp at hx
    subst hx
    exact three_s.2.2.2.2
theorem uns_nop : UnsIs nopV 0 1 0 := by
  obtain ⟨r0, r1⟩ := nop_rds
  refine .inr ⟨1, 0, by decide, by rw [r1]; decide, rfl, by rw [r1]; rfl, fun a ha x hx => ?_, fun k hk => absurd hk (by omega), nop_sure⟩
  obtain rfl : a = 0 := by omega
  rw [r0] at hx
  simp at hx
theorem three_m : maskV threeV 1 0 = 1 ∧ maskV threeV 1 1 = 1 ∧ maskV threeV 1 2 = 1 := by decide +kernel
theorem nop_m : maskV nopV 0 0 = 0 ∧ maskV nopV 0 1 = 0 := by decide +kernel
set_option maxRecDepth 100000 in
set_option maxHeartbeats 8000000 in
theorem awake11_any (S : Sure11) (w : World) : Calls Try.prog 8 #[] w (Makes w (.bool true)) := by
  have HM : Hid (∀ V W, IsCode W W.heap.size V threeV → Calls Try.prog 6 #[V, .int .i64 1] W fun e w' => Below W.heap.size W w' ∧ ∃ gb, e = .returned (.tuple #[.slice (some ⟨gb, 0, none⟩) 3 3, .int .i64 0]) ∧ W.heap.size ≤ gb ∧ RowAt w' gb 3 33 (wordsU (maskV threeV 1))) := Lib.hid (fun V W h => S.masks_ok (p := 1) h (by decide) three_check)
  have HU1 : Hid (∀ V W, IsCode W W.heap.size V threeV → Calls Try.prog 9 #[V, .int .i64 1, .int .i64 2, .int .i64 1] W (Makes W (.bool true))) := Lib.hid (fun V W h => unset11_yes S (p := 1) (fun _ _ _ => trivial) (by decide) three_check uns_three1 W h)
  have HU2 : Hid (∀ V W, IsCode W W.heap.size V threeV → Calls Try.prog 9 #[V, .int .i64 2, .int .i64 (-1), .int .i64 (-1)] W (Makes W (.bool true))) := Lib.hid (fun V W h => unset11_yes S (p := 2) (fun _ _ _ => trivial) (by decide) three_check uns_three2 W h)
  clear S
  go_enter Try.func8, Try.ntmps8
  go_wp2_with (first
    | (go_at_call 7; (with_reducible refine (three_any w).mono ?_); rintro e w1 ⟨rfl, hb, hc⟩; have HB1 := Lib.hid hb; have HC1 := Lib.hid hc; clear hb hc)
    | (go_at_call 6; (with_reducible refine (HM.out _ _ HC1.out).mono ?_); rintro e w2 ⟨hb, gb, rfl, hge, hrow⟩; have HB2 := Lib.hid (HB1.out.trans (hb.mono HB1.out.size)); have z0 : w2.cell? ⟨gb, 0, none⟩ = some (.int .u64 1) := (by have := hrow.cell (i := 0) (by decide); rw [this]; simp [wordsU, three_m.1]); have z1 : w2.cell? ⟨gb, 1, none⟩ = some (.int .u64 1) := (by have := hrow.cell (i := 1) (by decide); rw [this]; simp [wordsU, three_m.2.1]); have z2 : w2.cell? ⟨gb, 2, none⟩ = some (.int .u64 1) := (by have := hrow.cell (i := 2) (by decide); rw [this]; simp [wordsU, three_m.2.2]); clear hb hge hrow)
    | (go_at_call 7; (with_reducible refine (three_any w2).mono ?_); rintro e w3 ⟨rfl, hb, hc⟩; have HB3 := Lib.hid (HB2.out.trans (hb.mono HB2.out.size)); have HC3 := Lib.hid hc; clear hb hc)
    | (go_at_call 9; (with_reducible refine (HU1.out _ _ HC3.out).mono ?_); rintro e w4 ⟨rfl, hb⟩; have HB4 := Lib.hid (HB3.out.trans (hb.mono HB3.out.size)); clear hb)
    | (go_at_call 7; (with_reducible refine (three_any w4).mono ?_); rintro e w5 ⟨rfl, hb, hc⟩; have HB5 := Lib.hid (HB4.out.trans (hb.mono HB4.out.size)); have HC5 := Lib.hid hc; clear hb hc)
    | (go_at_call 9; (with_reducible refine (HU2.out _ _ HC5.out).mono ?_); rintro e w6 ⟨rfl, hb⟩; have HB6 := Lib.hid (HB5.out.trans (hb.mono HB5.out.size)); clear hb))
  go_ret
  exact ⟨rfl, HB6.out⟩
set_option maxRecDepth 100000 in
set_option maxHeartbeats 8000000 in
theorem known11_any (S : Sure11) (w : World) : Calls Try.prog 3 #[] w (Makes w (.bool true)) := by
  have HC0 := Lib.hid (code_new w nopV #[.int .i64 0, .int .i64 0, .int .i64 0, .int .i64 0, .int .i64 0, .slice none 0 0, .int .i64 29, .int .i64 0, .int .i64 0, .int .i64 0, .int .i64 0, .slice none 0 0] rfl (by decide) nop_in (by decide) (by decide))
  have HM : Hid (∀ V W, IsCode W W.heap.size V nopV → Calls Try.prog 6 #[V, .int .i64 0] W fun e w' => Below W.heap.size W w' ∧ ∃ gb, e = .returned (.tuple #[.slice (some ⟨gb, 0, none⟩) 2 2, .int .i64 0]) ∧ W.heap.size ≤ gb ∧ RowAt w' gb 2 33 (wordsU (maskV nopV 0))) := Lib.hid (fun V W h => S.masks_ok (p := 0) h (by decide) nop_check)
  have HM9 : Hid (∀ V W, IsCode W W.heap.size V threeV → Calls Try.prog 6 #[V, .int .i64 9] W fun e w' => e = .returned (.tuple #[.slice none 0 0, .int .i64 2]) ∧ Below W.heap.size W w') := Lib.hid (fun V W h => (S.masks V threeV 9 W h (by unfold InI; decide)).mono fun e w' hh => ⟨(hh.2.resolve_right (fun h => by rcases h with h | h <;> exact h.1 (by unfold badP; omega))).2, hh.1⟩)
  have HMN : Hid (∀ W, Calls Try.prog 6 #[.slice none 0 0, .int .i64 0] W fun e w' => e = .returned (.tuple #[.slice none 0 0, .int .i64 10]) ∧ Below W.heap.size W w') := Lib.hid (fun W => (S.masks (.slice none 0 0) [] 0 W ⟨by simp, by simp, .inl ⟨rfl, none, 0, rfl⟩⟩ (by unfold InI; decide)).mono fun e w' hh => ⟨by
    have h := ((hh.2.resolve_left (fun h => not_bad (by omega) (by omega) h.1)).resolve_right (fun h => by have := h.2.1; rw [show check10 [] = 10 from by decide +kernel] at this; omega)).2.2
    rw [show check10 [] = 10 from by decide +kernel] at h
    exact h, hh.1⟩)
  have HU0 : Hid (∀ V W, IsCode W W.heap.size V threeV → Calls Try.prog 9 #[V, .int .i64 0, .int .i64 0, .int .i64 0] W (Makes W (.bool true))) := Lib.hid (fun V W h => unset11_yes S (p := 0) (fun _ _ _ => trivial) (by decide) three_check uns_three0 W h)
  have HUN : Hid (∀ V W, IsCode W W.heap.size V nopV → Calls Try.prog 9 #[V, .int .i64 0, .int .i64 1, .int .i64 0] W (Makes W (.bool true))) := Lib.hid (fun V W h => unset11_yes S (p := 0) (fun _ _ _ => trivial) (by decide) nop_check uns_nop W h)
  have HK := Lib.hid (awake11_any S)
  have HB0 := Lib.hid ((Below.refl w.heap.size w).alloc (Nat.le_refl _) (.cells #[.int .i64 0, .int .i64 0, .int .i64 0, .int .i64 0, .int .i64 0, .slice none 0 0, .int .i64 29, .int .i64 0, .int .i64 0, .int .i64 0, .int .i64 0, .slice none 0 0] 24))
  have HC1 : Hid (∀ W, Below (w.heap.size + 1) (w.alloc (.cells #[.int .i64 0, .int .i64 0, .int .i64 0, .int .i64 0, .int .i64 0, .slice none 0 0, .int .i64 29, .int .i64 0, .int .i64 0, .int .i64 0, .int .i64 0, .slice none 0 0] 24)) W → IsCode W W.heap.size (.slice (some ⟨w.heap.size, 0, none⟩) 2 2) nopV) := Lib.hid (fun W hb => (HC0.out.below hb (Nat.le_refl _) (by simp)).more (by have := hb.size; simp at this; omega))
  have HZ : Hid (∀ W, Below (w.heap.size + 1) (w.alloc (.cells #[.int .i64 0, .int .i64 0, .int .i64 0, .int .i64 0, .int .i64 0, .slice none 0 0, .int .i64 29, .int .i64 0, .int .i64 0, .int .i64 0, .int .i64 0, .slice none 0 0] 24)) W → Below w.heap.size w W) := Lib.hid (fun W hb => HB0.out.trans (hb.mono (by omega)))
  have HS0 : Hid ((w.alloc (.cells #[.int .i64 0, .int .i64 0, .int .i64 0, .int .i64 0, .int .i64 0, .slice none 0 0, .int .i64 29, .int .i64 0, .int .i64 0, .int .i64 0, .int .i64 0, .slice none 0 0] 24)).heap.size = w.heap.size + 1) := Lib.hid (by simp)
  clear S HC0
  go_enter Try.func3, Try.ntmps3
  go_wp2_with (first
    | (go_at_call 6; (with_reducible refine (HM.out _ _ (HC1.out _ (Below.refl _ _))).mono ?_); rintro e w2 ⟨hb, gb, rfl, hge, hrow⟩; rw [HS0.out] at hb; have HB2 := Lib.hid hb; have hz0 : w2.cell? ⟨gb, 0, none⟩ = some (.int .u64 0) := (by have := hrow.cell (i := 0) (by decide); rw [this]; simp [wordsU, nop_m.1]); have hz1 : w2.cell? ⟨gb, 1, none⟩ = some (.int .u64 0) := (by have := hrow.cell (i := 1) (by decide); rw [this]; simp [wordsU, nop_m.2]); have HZ0 := Lib.hid (fun W (hb : Below w2.heap.size w2 W) => And.intro ((hb.cell (p := ⟨gb, 0, none⟩) hrow.lt).trans hz0) ((hb.cell (p := ⟨gb, 1, none⟩) hrow.lt).trans hz1)); clear hb hge hrow hz0 hz1)
    | (go_at_call 7; (with_reducible refine (three_any w2).mono ?_); rintro e w3 ⟨rfl, hb, hc⟩; have HD3 := Lib.hid hb; have HC3 := Lib.hid hc; clear hb hc)
    | (go_at_call 6; (with_reducible refine (HM9.out _ _ HC3.out).mono ?_); rintro e w4 ⟨rfl, hb⟩; have HD4 := Lib.hid (HD3.out.trans (hb.mono HD3.out.size)); clear hb)
    | (go_at_call 6; (with_reducible refine (HMN.out w4).mono ?_); rintro e w5 ⟨rfl, hb⟩; have HD5 := Lib.hid (HD4.out.trans (hb.mono HD4.out.size)); clear hb)
    | (go_at_call 8; (with_reducible refine (HK.out w5).mono ?_); rintro e w6 ⟨rfl, hb⟩; have HD6 := Lib.hid (HD5.out.trans (hb.mono HD5.out.size)); clear hb)
    | (go_at_call 7; (with_reducible refine (three_any w6).mono ?_); rintro e w7 ⟨rfl, hb, hc⟩; have HD7 := Lib.hid (HD6.out.trans (hb.mono HD6.out.size)); have HC7 := Lib.hid hc; clear hb hc)
    | (go_at_call 9; (with_reducible refine (HU0.out _ _ HC7.out).mono ?_); rintro e w8 ⟨rfl, hb⟩; have HD8 := Lib.hid (HD7.out.trans (hb.mono HD7.out.size)); obtain ⟨y0, y1⟩ := HZ0.out w8 HD8.out; have HC8 := Lib.hid (HC1.out w8 (HB2.out.trans (HD8.out.mono (by have := HB2.out.size; simp at this; omega)))); clear hb)
    | (go_at_call 9; (with_reducible refine (HUN.out _ _ HC8.out).mono ?_); rintro e w9 ⟨rfl, hb⟩; have HD9 := Lib.hid (HD8.out.trans (hb.mono HD8.out.size)); clear hb))
  go_ret
  exact ⟨rfl, HZ.out _ (HB2.out.trans (HD9.out.mono (by have := HB2.out.size; simp at this; omega)))⟩
end Go.Proofs.Ytjoiocjnffaogaa
