/- TextBack's call: what is put is read again, what is read is put and read again. No condition but that the module lies in memory. -/
import Derived.Test.YtohlifeenhaifaaGreatDoorLaws13B
import Derived.Test.YtohlifeenhaifaaGreatDoorLong13
import Derived.Test.YtohlifeenhaifaaGreatDoorMath13Q
import Derived.BigQuiet
import Derived.Deep.CutRange
namespace Go.Proofs.YtohlifeenhaifaaGreatDoor
open Go.RowKit Go.Shelf
set_option linter.unusedVariables false
set_option linter.unusedSimpArgs false

/-- A module that came in, in its box. -/
structure One13 (w W : World) (D F : Value) (data : List Int) (fs : List FunV) : Prop where
  box : W.heap[w.heap.size]? = some (.cells #[D, F] 25 (0, 0))
  dat : IsBytes W W.heap.size D data
  funs : IsFuns W W.heap.size F fs
  bel : Below w.heap.size w W
  lt : w.heap.size < W.heap.size
theorem One13.grow {w W W' : World} {D F : Value} {data : List Int} {fs : List FunV} (h : One13 w W D F data fs) (hb : Below W.heap.size W W') : One13 w W' D F data fs :=
  ⟨box_below h.box hb, h.dat.grow hb, h.funs.grow hb, h.bel.trans (hb.mono h.bel.size), Nat.lt_of_lt_of_le h.lt hb.size⟩
theorem one13_new {w : World} {D F : Value} {data : List Int} {fs : List FunV} (hD : IsBytes w w.heap.size D data) (hF : IsFuns w w.heap.size F fs) : One13 w (w.alloc (.cells #[D, F] 25)) D F data fs := by
  have hB0 : Below w.heap.size w (w.alloc (.cells #[D, F] 25)) := (Below.refl _ w).alloc (Nat.le_refl _) _
  exact ⟨heap_alloc_new w _, hD.grow hB0, hF.grow hB0, hB0, by simp⟩
theorem putT_err {data : List Int} {fs : List FunV} (h : (ModV.mk data fs).err ≠ 0) : putT data fs = ByteArray.empty := by
  unfold putT
  rw [if_neg h]
  rfl
theorem putT_ok {data : List Int} {fs : List FunV} (h : (ModV.mk data fs).err = 0) : lettersOf (putT data fs) = textM ⟨data, fs⟩ := by
  unfold putT
  rw [if_pos h]
  exact letters_text _
set_option maxRecDepth 100000 in
set_option maxHeartbeats 20000000 in
theorem back13_any (D F : Value) (data : List Int) (fs : List FunV) (s : ByteArray) (w : World) (hE : Env13 w) (hD : IsBytes w w.heap.size D data) (hF : IsFuns w w.heap.size F fs) :
    Calls Tryz.prog 6 #[.agg #[D, F], .string s] w (Makes w (.bool true)) := by
  have h0 := one13_new hD hF
  have HKN := Lib.hid (fun W (hb : Below w.heap.size w W) => known13_any W (hE.grow hb))
  have HLG := Lib.hid (fun W (h : One13 w W D F data fs) => long13_any D F data fs W h.dat h.funs)
  have HCH := Lib.hid (fun W (h : One13 w W D F data fs) => check8_any D F data fs W h.dat h.funs)
  have HEV := Lib.hid (fun W (h : One13 w W D F data fs) => hE.grow h.bel)
  have HFD : Hid ((ModV.mk data fs).err = 0 → ∀ f ∈ fs, Fun13 f) := Lib.hid (fun h => funs13_of hF h)
  have HDB := Lib.hid (show ∀ x ∈ data, 0 ≤ x ∧ x < 256 from hD.1)
  obtain ⟨DA, dc, hDe⟩ := hD.len
  obtain ⟨FA, fc, hFe⟩ := hF.len
  subst hDe hFe
  have H0 := Lib.hid h0
  clear hE hD hF h0
  by_cases hL : longM13 ⟨data, fs⟩ = true
  · rw [hL] at HLG
    go_enter Tryz.func6, Tryz.ntmps6
    go_wp2_with (first
      | (go_at_call 5; (with_reducible refine (HKN.out _ H0.out.bel).mono ?_); rintro e w1 ⟨rfl, hb⟩; have H1 := Lib.hid (H0.out.grow hb); obtain ⟨a0, a1⟩ := cells2 H1.out.box; clear hb)
      | (go_at_call 8; (with_reducible refine (HLG.out _ H1.out).mono ?_); rintro e w2 ⟨rfl, hb⟩; have H2 := Lib.hid (H1.out.grow hb); clear hb))
    go_ret
    exact ⟨rfl, H2.out.bel⟩
  have hL2 : longM13 ⟨data, fs⟩ = false := by simpa using hL
  have HFEW := Lib.hid (long13_few hL2)
  rw [hL2] at HLG
  clear hL hL2
  by_cases hs : 4000 < s.size
  · have hsI : (4000 : Int) < (s.size : Int) := by omega
    go_enter Tryz.func6, Tryz.ntmps6
    go_wp2_with (first
      | (go_at_call 5; (with_reducible refine (HKN.out _ H0.out.bel).mono ?_); rintro e w1 ⟨rfl, hb⟩; have H1 := Lib.hid (H0.out.grow hb); obtain ⟨a0, a1⟩ := cells2 H1.out.box; clear hb)
      | (go_at_call 8; (with_reducible refine (HLG.out _ H1.out).mono ?_); rintro e w2 ⟨rfl, hb⟩; have H2 := Lib.hid (H1.out.grow hb); clear hb))
    go_ret
    exact ⟨rfl, H2.out.bel⟩
  have hsI : ¬ (4000 : Int) < (s.size : Int) := by omega
  have HS := Lib.hid hs
  clear hs
  have HT : Hid ((ModV.mk data fs).err = 0 → (textM ⟨data, fs⟩).length ≤ 400000) := Lib.hid (fun h => text_few HDB.out (HFD.out h) HFEW.out.1 HFEW.out.2.1 (fun f hf => (HFEW.out.2.2 f hf).1))
  have HPU := Lib.hid (fun W (h : One13 w W (.slice DA data.length dc) (.slice FA fs.length fc) data fs) => put13_any _ _ data fs W h.dat h.funs (fun he => by have := HT.out he; omega) (Nat.le_trans HFEW.out.1 (by decide)) (HEV.out W h))
  go_enter Tryz.func6, Tryz.ntmps6
  go_upto_if 23 with (first
      | (go_at_call 5; (with_reducible refine (HKN.out _ H0.out.bel).mono ?_); rintro e w1 ⟨rfl, hb⟩; have H1 := Lib.hid (H0.out.grow hb); obtain ⟨a0, a1⟩ := cells2 H1.out.box; clear hb)
      | (go_at_call 8; (with_reducible refine (HLG.out _ H1.out).mono ?_); rintro e w2 ⟨rfl, hb⟩; have H2 := Lib.hid (H1.out.grow hb); obtain ⟨b0, b1⟩ := cells2 H2.out.box; clear hb))
  have HGP : Hid ((ModV.mk data fs).err = 0 → ∀ W, One13 w W (.slice DA data.length dc) (.slice FA fs.length fc) data fs → Calls Tryz.prog 18 #[.string (putT data fs)] W (MGotDone W ⟨0, 0, ⟨data, fs⟩⟩)) := Lib.hid (fun he W h => by
    have h1 := get13_any (putT data fs) W (HEV.out W h)
    rw [putT_ok he, got13_text he HDB.out (HFD.out he) (HT.out he)] at h1
    exact h1)
  have HPE : Hid ((ModV.mk data fs).err ≠ 0 → putT data fs = ByteArray.empty) := Lib.hid putT_err
  generalize putT data fs = A at *
  obtain ⟨er, her⟩ : ∃ er, er = (ModV.mk data fs).err := ⟨_, rfl⟩
  rw [← her] at HPU HCH HGP HPE HFD HT
  clear her
  have hee : (er != er) = false := by simp
  have HSM : Hid (er = 0 → ∀ (W : World) (D F D' F' : Value), IsBytes W W.heap.size D data → IsFuns W W.heap.size F fs → IsBytes W W.heap.size D' data → IsFuns W W.heap.size F' fs → Calls Tryz.prog 21 #[.agg #[D, F], .agg #[D', F']] W (Makes W (.bool true))) := Lib.hid (fun he W D F D' F' h1 h2 h3 h4 => by
    have hq : fs.length ≤ 100000 := Nat.le_trans HFEW.out.2.1 (by decide)
    have h := same8_any D F D' F' _ _ _ _ W h1 h2 h3 h4 hq hq
    rw [sameM_refl] at h
    exact h)
  have HDL := Lib.hid (show data.length ≤ 200 from HFEW.out.1)
  have HFL := Lib.hid (show fs.length ≤ 8 from HFEW.out.2.1)
  clear HKN HLG HFD HT HFEW a0 a1
  go_upto_region 5 with (go_at_call 11; (with_reducible refine (HPU.out _ H2.out).mono ?_); rintro e w3 ⟨rfl, hb⟩; have H3 := Lib.hid (H2.out.grow hb); obtain ⟨d0, d1⟩ := cells2 H3.out.box; clear hb)
  go_cut [4, 41] from 30 to 41 (fun s4 s41 wx => s4 = .bool false ∧ s41 = .bool false ∧ One13 w wx (.slice DA data.length dc) (.slice FA fs.length fc) data fs)
  case first =>
    by_cases he : er = 0
    · subst he
      go_wp2_with (go_at_call 24; (with_reducible refine (HCH.out _ H3.out).mono ?_); rintro e w4 ⟨rfl, hb⟩; have H4 := Lib.hid (H3.out.grow hb); clear hb)
      go_meet
      case rel => exact ⟨rfl, rfl, H4.out⟩
    · have heb : (er != 0) = true := by simp [he]
      have hA := HPE.out he
      subst hA
      go_wp2_with (go_at_call 24; (with_reducible refine (HCH.out _ H3.out).mono ?_); rintro e w4 ⟨rfl, hb⟩; have H4 := Lib.hid (H3.out.grow hb); clear hb)
      go_meet
      case rel => exact ⟨rfl, by first | rfl | simp, H4.out⟩
  case rest =>
    obtain ⟨rfl, rfl, h4⟩ := hcut
    have H4 := Lib.hid h4
    obtain ⟨e0, e1⟩ := cells2 h4.box
    clear h4 b0 b1 d0 d1 HPU HCH HPE
    go_upto_if 43 with fail
    go_cut [4, 8, 9] from 42 to 57 (fun s4 s8 s9 wx => s4 = .bool false ∧ Hid (One13 w wx (.slice DA data.length dc) (.slice FA fs.length fc) data fs))
    case first =>
      by_cases he : er = 0
      · have HSM0 := Lib.hid (HSM.out he)
        have HGP0 := Lib.hid (HGP.out he)
        clear HSM HGP
        subst he
        go_upto_region 9 with (go_at_call 18; (with_reducible refine (HGP0.out _ H4.out).mono ?_); rintro e w5 ⟨D5, F5, Cs5, rfl, ho, hf⟩; obtain ⟨dA5, dc5, hde⟩ := owns_len ho.own; subst hde; obtain ⟨fA5, fc5, hfe⟩ := owns_len hf.own; subst hfe; obtain ⟨hG, hb, -⟩ := gotB13_new (g := ⟨0, 0, ⟨data, fs⟩⟩) ho HDB.out hf (Nat.le_trans HFL.out (by decide)); have HG5 := Lib.hid hG; have H5 := Lib.hid (H4.out.grow hb); clear ho hf hG hb)
        refine (show ∀ W, (GotB13 W w5.heap.size (.slice dA5 data.length dc5) (.slice fA5 fs.length fc5) ⟨0, 0, ⟨data, fs⟩⟩ ∧ One13 w W (.slice DA data.length dc) (.slice FA fs.length fc) data fs) → Code.wp _ _ _ _ W from fun W6 h6 => ?_) _ ⟨HG5.out, H5.out⟩
        obtain ⟨hG, hO⟩ := h6
        have HG6 := Lib.hid hG
        have H6 := Lib.hid hO
        obtain ⟨g0, g1, g2, g3⟩ := hG.cells
        obtain ⟨o0, o1⟩ := cells2 hO.box
        clear hG hO e0 e1
        go_wp2_with (go_at_call 21; (with_reducible refine (HSM0.out _ _ _ _ _ HG6.out.dat HG6.out.funs H6.out.dat H6.out.funs).mono ?_); rintro e w7 ⟨rfl, hb⟩; have H7 := Lib.hid (H6.out.grow hb); clear hb)
        go_meet
        case rel => exact ⟨rfl, H7⟩
      · go_wp2
        go_meet
        case rel => exact ⟨rfl, H4⟩
    case rest =>
      obtain ⟨rfl, H5⟩ := hcut
      clear HGP HSM e0 e1
      clear hee
      obtain ⟨⟨ge, ga, md⟩, hg⟩ : ∃ g, g = got13 (lettersOf s) := ⟨_, rfl⟩
      have hg := hg.symm
      have HGS : Hid (∀ W, One13 w W (.slice DA data.length dc) (.slice FA fs.length fc) data fs → Calls Tryz.prog 18 #[.string s] W (MGotDone W ⟨ge, ga, md⟩)) := Lib.hid (fun W h => by
        have h1 := get13_any s W (HEV.out W h)
        rw [hg] at h1
        exact h1)
      have hls : (lettersOf s).length ≤ 4000 := by rw [letters_len]; have := HS.out; omega
      have HBD : Hid ((∀ x ∈ md.data, 0 ≤ x ∧ x < 256) ∧ md.funcs.length ≤ 100000 ∧ md.data.length ≤ 600000) := Lib.hid (by
        have h1 := got13_bd (lettersOf s)
        have h2 := got13_lim (lettersOf s)
        have h3 := cnt_fun (m := (got13 (lettersOf s)).m)
        have h4 := h1.2
        rw [hg] at h1 h2 h3 h4
        have h5 : md.data.length ≤ 600000 := h2.2
        have h6 : cntM md ≤ (lettersOf s).length + 1 := h4
        have h7 : md.funcs.length ≤ cntM md := h3.2.1
        exact ⟨h1.1, by omega, h5⟩)
      have HBAD : Hid (ge ≠ 0 → md = ⟨[], []⟩ ∧ 0 ≤ ga ∧ ga ≤ s.size) := Lib.hid (fun h => by
        have := got13_bad (by omega) hg h
        rw [letters_len] at this
        exact this)
      have HGOOD : Hid (ge = 0 → got13 (textM md) = ⟨0, 0, md⟩ ∧ (textM md).length ≤ 400000 ∧ md.err = 0) := Lib.hid (fun h => by
        subst h
        exact got13_again (by omega) hg)
      clear hg hls
      go_upto_region 12 with (go_at_call 18; (with_reducible refine (HGS.out _ H5.out).mono ?_); rintro e w8 ⟨D8, F8, Cs8, rfl, ho, hf⟩; obtain ⟨dA8, dc8, hde⟩ := owns_len ho.own; subst hde; obtain ⟨fA8, fc8, hfe⟩ := owns_len hf.own; subst hfe; obtain ⟨hG, hb, -⟩ := gotB13_new (g := ⟨ge, ga, md⟩) ho HBD.out.1 hf (Nat.le_trans HBD.out.2.1 (by decide)); have HG8 := Lib.hid hG; have H8 := Lib.hid (H5.out.grow hb); clear ho hf hG hb)
      refine (show ∀ W, (GotB13 W w8.heap.size (.slice dA8 md.data.length dc8) (.slice fA8 md.funcs.length fc8) ⟨ge, ga, md⟩ ∧ One13 w W (.slice DA data.length dc) (.slice FA fs.length fc) data fs) → Code.wp _ _ _ _ W from fun W9 h9 => ?_) _ ⟨HG8.out, H8.out⟩
      obtain ⟨hG, hO⟩ := h9
      have HG9 := Lib.hid hG
      have H9 := Lib.hid hO
      obtain ⟨g0, g1, g2, g3⟩ := hG.cells
      have hg2 : W9.cell? ⟨w8.heap.size + 1, 0, none⟩ = some (.int .i64 ge) := g2
      have hg3 : W9.cell? ⟨w8.heap.size + 1, 1, none⟩ = some (.int .i64 ga) := g3
      clear hG hO HGS HG8 H8 H5 H4 g2 g3
      by_cases he : ge = 0
      · obtain ⟨q1, q2, q3⟩ := HGOOD.out he
        have Q1 := Lib.hid q1
        have Q2 := Lib.hid q2
        have Q3 := Lib.hid q3
        clear q1 q2 q3 HBAD HGOOD
        subst he
        have hme : (ModV.mk md.data md.funcs).err = 0 := Q3.out
        have HPX : Hid (∀ W, GotB13 W w8.heap.size (.slice dA8 md.data.length dc8) (.slice fA8 md.funcs.length fc8) ⟨0, ga, md⟩ → One13 w W (.slice DA data.length dc) (.slice FA fs.length fc) data fs → Calls Tryz.prog 11 #[.agg #[.slice dA8 md.data.length dc8, .slice fA8 md.funcs.length fc8]] W (Makes W (.tuple #[.string (putT md.data md.funcs), .int .i64 0]))) := Lib.hid (fun W hG hO => by
          have h := put13_any _ _ md.data md.funcs W hG.dat hG.funs (fun _ => Nat.le_trans Q2.out (by decide)) (Nat.le_trans HBD.out.2.2 (by decide)) (HEV.out W hO)
          rw [hme] at h
          exact h)
        have HGX : Hid (∀ W, One13 w W (.slice DA data.length dc) (.slice FA fs.length fc) data fs → Calls Tryz.prog 18 #[.string (putT md.data md.funcs)] W (MGotDone W ⟨0, 0, md⟩)) := Lib.hid (fun W hO => by
          have h1 := get13_any (putT md.data md.funcs) W (HEV.out W hO)
          rw [putT_ok hme, show textM ⟨md.data, md.funcs⟩ = textM md from rfl, Q1.out] at h1
          exact h1)
        have HCX : Hid (∀ W, GotB13 W w8.heap.size (.slice dA8 md.data.length dc8) (.slice fA8 md.funcs.length fc8) ⟨0, ga, md⟩ → Calls Tryz.prog 24 #[.agg #[.slice dA8 md.data.length dc8, .slice fA8 md.funcs.length fc8]] W (Makes W (.int .i64 0))) := Lib.hid (fun W hG => by
          have h := check8_any _ _ md.data md.funcs W hG.dat hG.funs
          rw [hme] at h
          exact h)
        have HSX : Hid (∀ (W : World) (D F D' F' : Value), IsBytes W W.heap.size D md.data → IsFuns W W.heap.size F md.funcs → IsBytes W W.heap.size D' md.data → IsFuns W W.heap.size F' md.funcs → Calls Tryz.prog 21 #[.agg #[D, F], .agg #[D', F']] W (Makes W (.bool true))) := Lib.hid (fun W D F D' F' h1 h2 h3 h4 => by
          have h := same8_any D F D' F' _ _ _ _ W h1 h2 h3 h4 HBD.out.2.1 HBD.out.2.1
          rw [sameM_refl] at h
          exact h)
        clear hme Q1 Q2 Q3
        generalize putT md.data md.funcs = B at *
        go_upto_region 16 with (first
          | (go_at_call 11; (with_reducible refine (HPX.out _ HG9.out H9.out).mono ?_); rintro e w10 ⟨rfl, hb⟩; have H10 := Lib.hid (H9.out.grow hb); have HG10 := Lib.hid (HG9.out.grow hb); clear hb)
          | (go_at_call 18; (with_reducible refine (HGX.out _ H10.out).mono ?_); rintro e w11 ⟨D11, F11, Cs11, rfl, ho, hf⟩; obtain ⟨dA11, dc11, hde⟩ := owns_len ho.own; subst hde; obtain ⟨fA11, fc11, hfe⟩ := owns_len hf.own; subst hfe; obtain ⟨hG, hb, -⟩ := gotB13_new (g := ⟨0, 0, md⟩) ho HBD.out.1 hf (Nat.le_trans HBD.out.2.1 (by decide)); have HGN := Lib.hid hG; have HG11 := Lib.hid (HG10.out.grow hb); have H11 := Lib.hid (H10.out.grow hb); clear ho hf hG hb))
        refine (show ∀ W, (GotB13 W w11.heap.size (.slice dA11 md.data.length dc11) (.slice fA11 md.funcs.length fc11) ⟨0, 0, md⟩ ∧ GotB13 W w8.heap.size (.slice dA8 md.data.length dc8) (.slice fA8 md.funcs.length fc8) ⟨0, ga, md⟩ ∧ One13 w W (.slice DA data.length dc) (.slice FA fs.length fc) data fs) → Code.wp _ _ _ _ W from fun W12 h12 => ?_) _ ⟨HGN.out, HG11.out, H11.out⟩
        obtain ⟨hN, hG, hO⟩ := h12
        have HN12 := Lib.hid hN
        have HG12 := Lib.hid hG
        have H12 := Lib.hid hO
        obtain ⟨n0, n1, n2, n3⟩ := hN.cells
        obtain ⟨m0, m1, m2, m3⟩ := hG.cells
        clear hN hG hO g0 g1 hg2 hg3
        go_wp2_with (first
          | (go_at_call 21; (with_reducible refine (HSX.out _ _ _ _ _ HG12.out.dat HG12.out.funs HN12.out.dat HN12.out.funs).mono ?_); rintro e w13 ⟨rfl, hb⟩; have H13 := Lib.hid (H12.out.grow hb); have HG13 := Lib.hid (HG12.out.grow hb); obtain ⟨l0, l1, l2, l3⟩ := HG13.out.cells; clear hb)
          | (go_at_call 24; (with_reducible refine (HCX.out _ HG13.out).mono ?_); rintro e w14 ⟨rfl, hb⟩; have H14 := Lib.hid (H13.out.grow hb); clear hb))
        go_ret
        exact ⟨by first | rfl | simp, H14.out.bel⟩
      · obtain ⟨q1, q2, q3⟩ := HBAD.out he
        subst q1
        clear HBAD HGOOD
        have heb : (ge != 0) = true := by simp [he]
        go_wp2
        go_ret
        exact ⟨by first | rfl | simp, H9.out.bel⟩
end Go.Proofs.YtohlifeenhaifaaGreatDoor
