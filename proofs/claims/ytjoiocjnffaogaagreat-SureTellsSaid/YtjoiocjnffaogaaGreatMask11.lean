/- The landed Masks. Contract; no condition. -/
import Derived.Test.YtjoiocjnffaogaaGreatSet11B
import Derived.Test.YtjoiocjnffaogaaGreatRef11C
namespace Go.Proofs.YtjoiocjnffaogaaGreat
open Go.RowKit Go.Shelf
set_option linter.unusedVariables false
set_option linter.unusedSimpArgs false

set_option maxRecDepth 100000 in
set_option maxHeartbeats 8000000 in
theorem masks11_any (V : Value) (l : List InsV) (p : Int) (w : World) (h : IsCode w w.heap.size V l) : Calls Tryz.prog 7 #[V, .int .i64 p] w (MasksN w l p l.length) := by
  have HC := Lib.hid h
  obtain ⟨A, cap, rfl⟩ := h.len
  by_cases hp : badP p
  · have HP := Lib.hid hp
    unfold badP at hp
    clear h
    by_cases h1 : p < 0
    · clear hp
      go_enter Tryz.func7, Tryz.ntmps7
      go_wp2
      go_ret2
      exact ⟨Below.refl _ _, .inl ⟨HP.out, rfl⟩⟩
    · have h2 : 8 < p := by omega
      clear hp
      go_enter Tryz.func7, Tryz.ntmps7
      go_wp2
      go_ret2
      exact ⟨Below.refl _ _, .inl ⟨HP.out, rfl⟩⟩
  · have HP := Lib.hid hp
    unfold badP at hp
    have p0 : ¬ p < 0 := by omega
    have p8 : ¬ 8 < p := by omega
    have HNX := Lib.hid (next_any _ l w h)
    by_cases h0 : check10 l = 0
    · have hg := good10 h0
      have HG := Lib.hid hg
      have H0 := Lib.hid h0
      have HN2 := Lib.hid (HNX.out.mono fun e w' hh => And.intro hh.1 (hh.2.resolve_left (fun h => h.1 h0)).2)
      have h4 := short10 h0
      obtain ⟨pn, rfl⟩ : ∃ pn : Nat, p = pn := ⟨p.toNat, by omega⟩
      have hp8 : pn ≤ 8 := by omega
      have HWR := Lib.hid (fun W hc => written11 A l.length cap l W rfl hc hg h4)
      have HBI := Lib.hid (fun W => bit11 pn (by omega) W)
      have HSE := Lib.hid (fun g (Xs : Nat → Value) base wb0 W hl hw => settled11 base g l.length wb0 pn Xs (nextV l) (fun a => wrtV (l.getD a .zero)) W hl hw (fun i hi => (wrt_bd (good_chk hg hi)).2) hg.pos h4 hp8 (fun i hi => hg.next hi) (nextV_two l))
      obtain ⟨e2, he2⟩ : ∃ e2, e2 = 2 ^ pn - 1 := ⟨_, rfl⟩
      have h8 : 2 ^ pn ≤ 2 ^ 8 := Nat.pow_le_pow_right (by decide) hp8
      have h9 : 0 < 2 ^ pn := Nat.two_pow_pos pn
      have e3 : (2 ^ pn : Nat) = e2 + 1 := by omega
      rw [← he2] at HSE
      rw [e3] at HBI
      have e4 : e2 ≤ 256 := by omega
      have HN : Hid (∀ (m : Nat → Nat), Fix l.length pn (nextV l) (fun a => wrtV (l.getD a .zero)) m [] → ∀ i, i < l.length → m i = maskV l pn i) := Lib.hid (fun m hf => Fix.masks hf hg)
      have HPN : Hid (((pn : Nat) : Int).toNat = pn) := Lib.hid (Int.toNat_natCast pn)
      unfold MasksN
      rw [HPN.out]
      generalize hnl : l.length = n at *
      clear h hg h0 HNX hp he2 h8 h9 e3 hnl h4
      go_enter Tryz.func7, Tryz.ntmps7
      go_wp2_with (first
        | (go_at_call 15; (with_reducible refine HN2.out.mono ?_); rintro e w1 ⟨hb, g, Xs, rfl, hl⟩; have HB1 := Lib.hid hb; have HL1 := Lib.hid hl; have HC1 := Lib.hid ((HC.out.below hb (Nat.le_refl _) (Nat.le_refl _)).more hb.size); clear hb hl)
        | (go_at_call 17; (with_reducible refine (HWR.out w1 HC1.out).mono ?_); rintro e w2 ⟨rfl, hm⟩; have HB2 := Lib.hid hm.bel; have HR2 := Lib.hid hm.row; have HL2 : Hid (Lists w.heap.size w2 g n Xs (nextV l)) := Lib.hid ⟨HL1.out.ge, HL1.out.row.below hm.bel HL1.out.row.lt, fun i hi => Owns.below (HL1.out.own i hi) hm.bel (Nat.le_refl _)⟩; clear hm)
        | (go_at_call 18; (with_reducible refine (HBI.out _).mono ?_); rintro e w3 ⟨rfl, rfl⟩)
        | (go_at_call 16; (with_reducible refine (HSE.out g Xs w.heap.size w1.heap.size w2 HL2.out HR2.out).mono ?_); rintro e w4 ⟨mb, m, rfl, hge, hrow, hb, hf⟩; have HB4 := Lib.hid (HB1.out.trans ((HB2.out.trans (hb.mono HB2.out.size)).mono HB1.out.size)); have HGE := Lib.hid (show w.heap.size ≤ mb by have := HB1.out.size; have := HB2.out.size; omega); have HRW := Lib.hid (hrow.congr (mk' := wordsU (maskV l pn)) fun i hi => by unfold wordsU; rw [HN.out m hf i hi]); clear hge hrow hb hf))
      go_ret2
      exact ⟨HB4.out, .inr (.inr ⟨HP.out, H0.out, mb, rfl, HGE.out, HRW.out⟩)⟩
    · have HN2 := Lib.hid (HNX.out.mono fun e w' hh => And.intro hh.1 (hh.2.resolve_right (fun h => h0 h.1)).2)
      have hne : (check10 l != 0) = true := by simpa using h0
      have H0 := Lib.hid h0
      unfold MasksN
      generalize check10 l = z at *
      clear h h0 hp HNX
      go_enter Tryz.func7, Tryz.ntmps7
      go_wp2_with (go_at_call 15; (with_reducible refine HN2.out.mono ?_); rintro e w1 ⟨hb, rfl⟩; have HB1 := Lib.hid hb; clear hb)
      go_ret2
      exact ⟨HB1.out, .inr (.inl ⟨HP.out, H0.out, rfl⟩)⟩
end Go.Proofs.YtjoiocjnffaogaaGreat
