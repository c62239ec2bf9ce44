/- VerifyHolds: of what is accepted, whichever way is gone, all is as it should be. Out of what is wanted of the landed Find and Check (Verify12) and of the examples; no condition but these and that the module lies in memory. -/
import Derived.Test.YtfdblmjgpoocpaaGreatS24
import Derived.Test.YtfdblmjgpoocpaaGreatKit08B
import Derived.Test.YtfdblmjgpoocpaaGreatS23
import Derived.Test.YtfdblmjgpoocpaaGreatPick11
import Derived.Test.YtfdblmjgpoocpaaGreatReg12
import Derived.StillTailTactics
import Derived.BigQuiet
import Derived.Deep.QuietTactic
import Derived.Deep.RegionHeld3
import Derived.Deep.CutRange
namespace Go.Proofs.YtfdblmjgpoocpaaGreat
open Go.RowKit Go.Shelf
set_option linter.unusedVariables false
set_option linter.unusedSimpArgs false

/-- A module's box, first in memory. -/
structure OneH12 (w W : World) (D F : Value) : Prop where
  one : W.heap[w.heap.size]? = some (.cells #[D, F] 25 (0, 0))
  bel : Below w.heap.size w W
theorem OneH12.grow {w W W' : World} {D F : Value} (h : OneH12 w W D F) (hb : Below W.heap.size W W') : OneH12 w W' D F := ⟨box_below h.one hb, h.bel.trans (hb.mono h.bel.size)⟩
theorem oneH12_new (w : World) (D F : Value) : OneH12 w (w.alloc (.cells #[D, F] 25)) D F := ⟨heap_alloc_new _ _, (Below.refl _ w).alloc (Nat.le_refl _) _⟩
theorem down12h {k n : Nat} (h : k < n) : n - (intOf (.int .i64 ((k : Int) + 1))).toNat < n - (intOf (.int .i64 (k : Int))).toNat := by
  simp [intOf]
  omega
theorem ls_cells12 {w : World} {g n k : Nat} {ll : Nat → List Int} (h : IsLs w w.heap.size (.slice (some ⟨g, 0, none⟩) n n) n ll) (hk : k < n) :
    ∃ XA Xc, ∀ W, Below w.heap.size w W → IsNums .i64 W W.heap.size (.slice XA (ll k).length Xc) (ll k) ∧ W.cell? ⟨g, k, none⟩ = some (.slice XA (ll k).length Xc) := by
  obtain ⟨g', o', c', hV, _, hgB, hl⟩ := h.plain (by omega)
  cases hV
  obtain ⟨X, hX, hc⟩ := hl k hk
  rw [Nat.zero_add] at hc
  obtain ⟨XA, Xc, hXe⟩ := hX.len
  subst hXe
  exact ⟨XA, Xc, fun W hb => ⟨(hX.below hb (Nat.le_refl _)).more hb.size, (hb.cell (p := ⟨g, k, none⟩) hgB).trans hc⟩⟩
/-- While a way is gone: which registers have been written, in a row of their own above the world w8; all below it is as it was. -/
structure Hs12 (w8 W : World) (f : Nat → Bool) : Prop where
  bel : Below w8.heap.size w8 W
  row : RowAt W w8.heap.size 64 4 (boolsV f)
theorem Hs12.grow {w8 W W' : World} {f : Nat → Bool} (h : Hs12 w8 W f) (hb : Below W.heap.size W W') : Hs12 w8 W' f := ⟨h.bel.trans (hb.mono h.bel.size), h.row.below hb h.row.lt⟩
theorem Hs12.drewN {w8 W : World} {f : Nat → Bool} (h : Hs12 w8 W f) (n : Nat) : Hs12 w8 (W.drewN n) f := h.grow (below_drewN (Below.refl _ W) n)
theorem Hs12.congr {w8 W : World} {f g : Nat → Bool} (h : Hs12 w8 W f) (hg : ∀ i, i < 64 → g i = f i) : Hs12 w8 W g := ⟨h.bel, h.row.congr fun i hi => by unfold boolsV; rw [hg i hi]⟩
theorem Hs12.set {w8 W : World} {f : Nat → Bool} (h : Hs12 w8 W f) (k : Nat) {g : Nat → Bool} (hg : ∀ i, i < 64 → g i = if i = k then true else f i) : Hs12 w8 (W.setCell ⟨w8.heap.size, k, none⟩ (.bool true)) g :=
  ⟨h.bel.setCell (Nat.le_refl _) _, (h.row.set k (.bool true)).congr fun i hi => by unfold boolsV; rw [hg i hi]; split <;> rfl⟩
theorem Hs12.cell {w8 W : World} {f : Nat → Bool} (h : Hs12 w8 W f) {i : Nat} (hi : i < 64) : W.cell? ⟨w8.heap.size, i, none⟩ = some (.bool (f i)) := h.row.cell hi
/-- What VerifyHolds has: the module's box, and the function's. -/
structure Fn12 (w W : World) (xb : Nat) (D F C : Value) (p rg ar : Int) : Prop where
  one : OneH12 w W D F
  box : W.heap[xb]? = some (.cells #[.int .i64 p, .int .i64 rg, .int .i64 ar, C] 41 (0, 0))
theorem Fn12.grow {w W W' : World} {xb : Nat} {D F C : Value} {p rg ar : Int} (h : Fn12 w W xb D F C p rg ar) (hb : Below W.heap.size W W') : Fn12 w W' xb D F C p rg ar := ⟨h.one.grow hb, box_below h.box hb⟩
theorem Fn12.made {w W : World} {D F : Value} (h : OneH12 w W D F) (C : Value) (p rg ar : Int) : Fn12 w (W.alloc (.cells #[.int .i64 p, .int .i64 rg, .int .i64 ar, C] 41)) W.heap.size D F C p rg ar :=
  ⟨h.grow ((Below.refl _ W).alloc (Nat.le_refl _) _), heap_alloc_new _ _⟩
set_option maxRecDepth 100000 in
set_option maxHeartbeats 64000000 in
theorem holds12_law (S : Verify12) (HKn : ∀ W, Calls Tryz.prog 4 #[] W (Makes W (.bool true))) (D F : Value) (data : List Int) (fs : List FunV) (which : Int) (Y : Value) (m : Nat) (way : Nat → Bool) (w : World)
    (hD : IsBytes w w.heap.size D data) (hF : IsFuns w w.heap.size F fs) (hY : IsBools w w.heap.size Y m way) : Calls Tryz.prog 5 #[.agg #[D, F], .int .i64 which, Y] w (Makes w (.bool true)) := by
  have HK := Lib.hid HKn
  have HM0 := Lib.hid (oneH12_new w D F)
  have HLg := Lib.hid (fun W (hb : Below w.heap.size w W) => longModule_any D F data fs W (hD.grow hb) (hF.grow hb))
  have HCH := Lib.hid (fun W (hb : Below w.heap.size w W) => S.check D F data fs W (hD.grow hb) (hF.grow hb))
  obtain ⟨yA, yc, hYe⟩ := hY.len
  have hml := hY.1
  unfold maxLen at hml
  subst hYe
  cases hlg : longM ⟨data, fs⟩
  case true =>
    rw [hlg] at HLg
    obtain ⟨DA, dc, hDe⟩ := hD.len
    obtain ⟨FA, fc, hFe⟩ := hF.len
    subst hDe hFe
    clear hlg hD hF HKn S HCH hY
    go_enter Tryz.func5, Tryz.ntmps5
    go_wp2_with (first
      | (go_at_call 4; (with_reducible refine (HK.out _).mono ?_); rintro e w2 ⟨rfl, hb⟩; have H2 := Lib.hid (HM0.out.grow hb); obtain ⟨a0, a1⟩ := cells2 H2.out.one; clear hb)
      | (go_at_call 8; (with_reducible refine (HLg.out _ H2.out.bel).mono ?_); rintro e w3 ⟨rfl, hb⟩; have H3 := Lib.hid (H2.out.grow hb); clear hb))
    go_ret
    exact ⟨rfl, H3.out.bel⟩
  rw [hlg] at HLg
  by_cases hm200 : 200 < m
  · have hmI : (200 : Int) < (m : Int) := by omega
    obtain ⟨DA, dc, hDe⟩ := hD.len
    obtain ⟨FA, fc, hFe⟩ := hF.len
    subst hDe hFe
    clear hlg hD hF HKn S HCH hY
    go_enter Tryz.func5, Tryz.ntmps5
    go_wp2_with (first
      | (go_at_call 4; (with_reducible refine (HK.out _).mono ?_); rintro e w2 ⟨rfl, hb⟩; have H2 := Lib.hid (HM0.out.grow hb); obtain ⟨a0, a1⟩ := cells2 H2.out.one; clear hb)
      | (go_at_call 8; (with_reducible refine (HLg.out _ H2.out.bel).mono ?_); rintro e w3 ⟨rfl, hb⟩; have H3 := Lib.hid (H2.out.grow hb); clear hb))
    go_ret
    exact ⟨rfl, H3.out.bel⟩
  have hmI : (m : Int) ≤ 200 := by omega
  by_cases hc : (findM ⟨data, fs⟩).2.2 = 0
  case neg =>
    have hne : ((findM ⟨data, fs⟩).2.2 != 0) = true := by simpa using hc
    generalize (findM ⟨data, fs⟩).2.2 = z at *
    obtain ⟨DA, dc, hDe⟩ := hD.len
    obtain ⟨FA, fc, hFe⟩ := hF.len
    subst hDe hFe
    clear hlg hD hF HKn S hc hY
    go_enter Tryz.func5, Tryz.ntmps5
    go_wp2_with (first
      | (go_at_call 4; (with_reducible refine (HK.out _).mono ?_); rintro e w2 ⟨rfl, hb⟩; have H2 := Lib.hid (HM0.out.grow hb); obtain ⟨a0, a1⟩ := cells2 H2.out.one; clear hb)
      | (go_at_call 8; (with_reducible refine (HLg.out _ H2.out.bel).mono ?_); rintro e w3 ⟨rfl, hb⟩; have H3 := Lib.hid (H2.out.grow hb); obtain ⟨b0, b1⟩ := cells2 H3.out.one; clear hb)
      | (go_at_call 13; (with_reducible refine (HCH.out _ H3.out.bel).mono ?_); rintro e w4 ⟨rfl, hb⟩; have H4 := Lib.hid (H3.out.grow hb); clear hb))
    go_ret
    exact ⟨rfl, H4.out.bel⟩
  case pos =>
    have hacc := (findM_acc (m := ⟨data, fs⟩)).1 hc
    obtain ⟨hl1, hl2, hl3⟩ := long_few hlg
    dsimp only at hl1 hl2 hl3
    rw [hc] at HCH
    have HMC := Lib.hid (fun W (hb : Below w.heap.size w W) => check8_any D F data fs W (hD.grow hb) (hF.grow hb))
    rw [hacc.err] at HMC
    have hpos : 0 < fs.length := by
      have := (err_funs hacc.err).2.1
      have := of_decide_eq_true this
      dsimp only at this
      omega
    obtain ⟨k, hk⟩ : ∃ k : Nat, pkV which fs.length = k := ⟨(pkV which fs.length).toNat, by have := pk_bd which (n := (fs.length : Int)) (by omega); omega⟩
    have hkb := pk_bd which (n := (fs.length : Int)) (by omega)
    have HPK := Lib.hid (fun W => pk_any which fs.length W (by omega) (by omega))
    rw [hk] at hkb HPK
    have hkl : k < fs.length := by omega
    have hmem : fs.getD k .zero ∈ fs := by simp [List.getD, List.getElem?_eq_getElem hkl]
    have hn60 := (hl3 _ hmem).1
    obtain ⟨hfr, hie⟩ := fun_ins (mem_err (err_funs hacc.err).2.2 _ hmem)
    have hfr2 := of_decide_eq_true hfr
    have hg := good10 (hacc.flow k hkl)
    have hun := hacc.uns k hkl
    have h0p := (fun_facts (m := ⟨data, fs⟩) hacc.err (k := 0) hpos).1
    have h0q := hacc.par
    have hins := hacc.ins k hkl
    dsimp only at hg hun h0p h0q hins
    have hfunP : ∀ j, j < fs.length → 0 ≤ (fs.getD j .zero).params := fun j hj => by
      have := (fun_facts (m := ⟨data, fs⟩) hacc.err (k := j) hj).1
      unfold badP at this
      dsimp only at this
      omega
    have h00 : (fs.getD 0 .zero).params = 0 := by unfold badP at h0p; omega
    obtain ⟨fb, fo, fcap, hFv, hfcap, hfB, hfc⟩ := hF.plain hpos
    have hP : Hid (∀ W, Below w.heap.size w W → ∀ j, j < fs.length → W.cell? ⟨fb, fo + j * 4, none⟩ = some (.int .i64 (fs.getD j .zero).params)) := Lib.hid (fun W hb j hj => by
      obtain ⟨C, _, hcl⟩ := hfc j hj
      exact (hb.cell (p := ⟨fb, fo + j * 4, none⟩) hfB).trans (hcl 0 (by omega)))
    have q00 : Hid (∀ W, Below w.heap.size w W → W.cell? ⟨fb, fo, none⟩ = some (.int .i64 0)) := Lib.hid (fun W hb => by
      have := hP.out W hb 0 hpos
      rw [Nat.zero_mul, Nat.add_zero, h00] at this
      exact this)
    obtain ⟨C, hC, hcl⟩ := hfc k hkl
    have hFk : Hid (∀ W, Below w.heap.size w W → W.cell? ⟨fb, fo + k * 4, none⟩ = some (.int .i64 (fs.getD k .zero).params) ∧ W.cell? ⟨fb, fo + k * 4 + 1, none⟩ = some (.int .i64 (fs.getD k .zero).regs) ∧ W.cell? ⟨fb, fo + k * 4 + 2, none⟩ = some (.int .i64 (fs.getD k .zero).area) ∧ W.cell? ⟨fb, fo + k * 4 + 3, none⟩ = some C) := Lib.hid (fun W hb =>
      ⟨(hb.cell (p := ⟨fb, fo + k * 4, none⟩) hfB).trans (hcl 0 (by omega)), (hb.cell (p := ⟨fb, fo + k * 4 + 1, none⟩) hfB).trans (hcl 1 (by omega)), (hb.cell (p := ⟨fb, fo + k * 4 + 2, none⟩) hfB).trans (hcl 2 (by omega)), (hb.cell (p := ⟨fb, fo + k * 4 + 3, none⟩) hfB).trans (hcl 3 (by omega))⟩)
    have HCW := Lib.hid (fun W (hb : Below w.heap.size w W) => hC.grow hb)
    obtain ⟨⟨pI, rg, ar, l⟩, hfv⟩ : ∃ f, f = fs.getD k .zero := ⟨_, rfl⟩
    rw [← hfv] at hC hFk HCW hn60 hie hfr2 hg hun hins
    dsimp only at hC hFk HCW hn60 hie hfr2 hg hun hins
    obtain ⟨p, rfl⟩ : ∃ p : Nat, pI = p := ⟨pI.toNat, by omega⟩
    rw [Int.toNat_natCast] at hun
    obtain ⟨CA, Cc, hCe⟩ := hC.len
    subst hCe
    have HNX : Hid (∀ W, Below w.heap.size w W → Calls Tryz.prog 20 #[.slice CA l.length Cc] W fun e w' => Below W.heap.size W w' ∧ ∃ g, e = .returned (.tuple #[.slice (some ⟨g, 0, none⟩) l.length l.length, .int .i64 0]) ∧ IsLs w' w'.heap.size (.slice (some ⟨g, 0, none⟩) l.length l.length) l.length (nextV l)) := Lib.hid (fun W hb => (next_any _ l W (HCW.out W hb)).mono fun e w' hh => by
      obtain ⟨_, g, Xs, he, hl⟩ := hh.2.resolve_left (fun h => h.1 (by have := hacc.flow k hkl; dsimp only at this; rw [← hfv] at this; exact this))
      exact ⟨hh.1, g, he, hl.ls (by unfold maxLen; omega)⟩)
    have HG := Lib.hid hg
    have HUN := Lib.hid hun
    have HINS := Lib.hid hins
    have HIE := Lib.hid hie
    have hYB := Lib.hid hY
    have HYW := Lib.hid (fun W (hb : Below w.heap.size w W) => hY.below hb (Nat.le_refl _))
    obtain ⟨DA, dc, hDe⟩ := hD.len
    subst hDe hFv
    obtain ⟨n, hn⟩ : ∃ n, n = l.length := ⟨_, rfl⟩
    have HN := Lib.hid hn
    have hnp := hg.pos
    obtain ⟨nf, hnf⟩ : ∃ nf, nf = fs.length := ⟨_, rfl⟩
    have HNF := Lib.hid hnf
    obtain ⟨nd, hnd⟩ : ∃ nd, nd = data.length := ⟨_, rfl⟩
    have HND := Lib.hid hnd
    rw [← hn] at HNX HCW hFk hn60 hnp
    rw [← hnf] at HM0 HLg HCH HMC HPK hkb hpos hl2 hP
    rw [← hnd] at HM0 HLg HCH HMC hl1
    rw [← hnf, ← hnd]
    have k0 : (0 : Int) ≤ (k : Int) := by omega
    have k1 : (k : Int) < (nf : Int) := by omega
    have nI : (n : Int) ≤ 60 := by omega
    have nI0 : (0 : Int) < (n : Int) := by omega
    have nfI : (nf : Int) ≤ 6 := by omega
    have nfI0 : (0 : Int) < (nf : Int) := by omega
    have nfz : (((nf : Nat) : Int) == 0) = false := by simp; omega
    have m200 : decide ((200 : Int) < (m : Int)) = false := by simp; omega
    have ndI : (nd : Int) ≤ 300 := by omega
    have hp8 : p ≤ 8 := by omega
    have pI0 : (0 : Int) ≤ (p : Int) := by omega
    have pI8 : (p : Int) ≤ 8 := by omega
    have rg0 : 0 ≤ rg := by omega
    have rg64 : rg ≤ 64 := by omega
    have hnn : (n != n) = false := by simp
    have HRG := Lib.hid (And.intro rg0 rg64)
    clear hlg hD hF HKn S hc hY hacc hl1 hl2 hl3 hpos hk hkb hkl hmem hn60 hfr hie hfr2 hg hun h0p h0q hins h00 hfB hfc hC hcl hn hnp hnf hnd hfunP
    go_enter Tryz.func5, Tryz.ntmps5
    go_wp2_with (first
      | (go_at_call 4; (with_reducible refine (HK.out _).mono ?_); rintro e w2 ⟨rfl, hb⟩; have H2 := Lib.hid (HM0.out.grow hb); obtain ⟨a0, a1⟩ := cells2 H2.out.one; clear hb)
      | (go_at_call 8; (with_reducible refine (HLg.out _ H2.out.bel).mono ?_); rintro e w3 ⟨rfl, hb⟩; have H3 := Lib.hid (H2.out.grow hb); obtain ⟨b0, b1⟩ := cells2 H3.out.one; clear hb)
      | (go_at_call 13; (with_reducible refine (HCH.out _ H3.out.bel).mono ?_); rintro e w4 ⟨rfl, hb⟩; have H4 := Lib.hid (H3.out.grow hb); obtain ⟨d0, d1⟩ := cells2 H4.out.one; clear hb)
      | (go_at_call 18; (with_reducible refine (HMC.out _ H4.out.bel).mono ?_); rintro e w5 ⟨rfl, hb⟩; have H5 := Lib.hid (H4.out.grow hb); obtain ⟨e0, e1⟩ := cells2 H5.out.one; have q5 := q00.out _ H5.out.bel; obtain ⟨f0, f1, f2, f3⟩ := hFk.out _ H5.out.bel; clear hb))
    clear a0 a1 b0 b1 d0 d1
    have HKR : Hid (w5.drew.cell? ⟨w.heap.size, 1, none⟩ = some (.slice (some ⟨fb, fo, none⟩) nf fcap) ∧ w5.drew.cell? ⟨fb, fo + k * 4, none⟩ = some (.int .i64 p) ∧ w5.drew.cell? ⟨fb, fo + k * 4 + 1, none⟩ = some (.int .i64 rg) ∧ w5.drew.cell? ⟨fb, fo + k * 4 + 2, none⟩ = some (.int .i64 ar) ∧ w5.drew.cell? ⟨fb, fo + k * 4 + 3, none⟩ = some (.slice CA n Cc)) := Lib.hid ⟨e1, f0, f1, f2, f3⟩
    go_cut [8] from 51 to 59 (fun s8 wx => s8 = .pointer (some ⟨w5.heap.size, 0, none⟩) ∧ Fn12 w wx w5.heap.size (.slice DA nd dc) (.slice (some ⟨fb, fo, none⟩) nf fcap) (.slice CA n Cc) p rg ar)
    case first =>
      have HMD := Lib.hid (Fn12.made (H5.out.grow (Below.refl _ w5).drew) (.slice CA n Cc) p rg ar)
      go_region_held3 (fun W => W.cell? ⟨w.heap.size, 1, none⟩ = some (.slice (some ⟨fb, fo, none⟩) nf fcap) ∧ W.cell? ⟨fb, fo + k * 4, none⟩ = some (.int .i64 p) ∧ W.cell? ⟨fb, fo + k * 4 + 1, none⟩ = some (.int .i64 rg) ∧ W.cell? ⟨fb, fo + k * 4 + 2, none⟩ = some (.int .i64 ar) ∧ W.cell? ⟨fb, fo + k * 4 + 3, none⟩ = some (.slice CA n Cc)) (first | with_reducible exact HKR.out | go_keep) ((go_at_call 19; (with_reducible refine (HPK.out _).mono ?_); rintro e w6 ⟨rfl, hw⟩; subst hw))
      all_goals
        go_wp2
        go_meet
        case rel => exact ⟨rfl, HMD.out⟩
    case rest =>
      obtain ⟨rfl, hfn⟩ := hcut
      have H6 := Lib.hid hfn
      obtain ⟨g0, g1, g2, g3⟩ := cells4 hfn.box
      have HS0 : Hid (∀ W : World, Hs12 W (W.alloc (.cells (madeCells (Value.bool false).cells (64 * 1)) 4)) (fun i => decide (i < 0))) := Lib.hid (fun W => ⟨(Below.refl _ _).alloc (Nat.le_refl _) _, (bools_made 64 W).congr fun i hi => by simp [boolsV]⟩)
      have hmk : ∀ w : World, (Instr.makeSlice 43 (.int .i64 64) (.int .i64 64)).run Tryz.prog w = .ok (.slice (some ⟨w.heap.size, 0, none⟩) 64 64) (w.alloc (.cells (madeCells (Value.bool false).cells (64 * 1)) 4)) := fun w => make_bools 64 (by decide) w
      generalize madeCells (Value.bool false).cells (64 * 1) = mb at *
      clear e0 e1 f0 f1 f2 f3 hfn q5 HKR
      go_wp2_with (go_at_call 20; (with_reducible refine (HNX.out wc H6.out.one.bel).mono ?_); rintro e w7 ⟨hb, g, rfl, hls⟩; have H7 := Lib.hid (H6.out.grow hb); have HLS := Lib.hid hls; obtain ⟨h0, h1, h2, h3⟩ := cells4 H7.out.box; clear hb hls)
      clear g0 g1 g2 g3
      go_loopw [12] (fun v wr => ∃ r : Nat, r ≤ p ∧ v = .int .i64 r ∧ Hid (Hs12 w7 wr (fun i => decide (i < r)))) (fun v _ => p - (intOf v).toNat)
      case atStart => exact ⟨0, by omega, rfl, HS0.out w7⟩
      case round =>
        obtain ⟨r, hr, rfl, HR⟩ := hrel
        obtain ⟨i0, i1, i2, i3⟩ := cells4 (H7.out.grow HR.out.bel).box
        by_cases hlt : r < p
        · have r0 : (0 : Int) ≤ (r : Int) := by omega
          have r1 : (r : Int) < (p : Int) := by omega
          have r64 : (r : Int) < 64 := by omega
          have cr := HR.out.cell (i := r) (by omega)
          have fz := HR.out.row.frozen r
          have HADD : Hid (wrap64 ((r : Int) + 1) = (r : Int) + 1) := Lib.hid (by unfold wrap64; omega)
          have HN1 : Hid (Hs12 w7 (wr.setCell ⟨w7.heap.size, r, none⟩ (.bool true)) (fun i => decide (i < r + 1))) := Lib.hid (HR.out.set r (fun i hi => by
            by_cases e : i = r
            · subst e; simp
            · rw [if_neg e]; simp; omega))
          have HLT := Lib.hid hlt
          go_wp2
          go_roundw
          case rel => exact ⟨r + 1, HLT.out, by go_num, HN1.out⟩
          case measure => first | exact down12h HLT.out | (rw [HADD.out]; exact down12h HLT.out)
        · obtain rfl : r = p := by omega
          have HS1 := Lib.hid HR.out
          go_wp2
          clear h0 h1 h2 h3 i0 i1 i2 i3 hmk HS0 hfv hml hm200 q00 HK HPK HMC HCH HLg HM0 H2 H3 H4 H5 nfz m200 hnn hfcap hr hlt hp8 HR HYW k0 k1 nfI nfI0 ndI
          go_loopw [13, 14] (fun v13 v14 wr => ∃ (at' s : Nat) (f : Nat → Bool), s ≤ m ∧ v14 = .int .i64 s ∧ v13 = .int .i64 at' ∧ Hid (Hs12 w7 wr f ∧ HoldAt l r at' f)) (fun _ v14 _ => m - (intOf v14).toNat)
          case atStart => exact ⟨0, 0, _, by omega, rfl, rfl, HS1.out, HoldAt.start HG.out⟩
          case round =>
            obtain ⟨at', s, f, hs, rfl, rfl, HRR⟩ := hrel
            have HB := Lib.hid HRR.out.1
            have HH := Lib.hid HRR.out.2
            have HBW := Lib.hid (H7.out.one.bel.trans (HB.out.bel.mono H7.out.one.bel.size))
            clear HRR
            by_cases hsm : s < m
            · have s0 : (0 : Int) ≤ (s : Int) := by omega
              have s1 : (s : Int) < (m : Int) := by omega
              have hal := HH.out.lt
              have hat : at' < n := by rw [HN.out]; exact hal
              have a0 : (0 : Int) ≤ (at' : Int) := by omega
              have a1 : (at' : Int) < (n : Int) := by omega
              have HADD : Hid (wrap64 ((s : Int) + 1) = (s : Int) + 1) := Lib.hid (by unfold wrap64; omega)
              obtain ⟨i0, i1, i2, i3⟩ := cells4 (H7.out.grow HB.out.bel).box
              obtain ⟨cb, co, op, ca, b1, c, n1, args, YA, Yc, hA, hyy, hin, hcc⟩ := code_cells (HCW.out wr HBW.out) HN.out hat
              cases hA
              obtain ⟨hX, c0, c1, c2, c3, c4, c5⟩ := hcc wr (Below.refl _ _)
              have herr := HIE.out at' hal
              have hins := HINS.out at' hal
              have hrr := rds_regs herr
              have hwr := wrt_regs herr
              have hrd := HH.out.read HG.out HUN.out
              have hck := good_chk HG.out hal
              have hln := rds_len hck
              have hag := chk_args hck
              have hb3 : Below wr.heap.size wr (wr.alloc (.cells (insCells op ca b1 c n1 (.slice YA args.length Yc)) 37)) := (Below.refl _ _).alloc (Nat.le_refl _) _
              have KI := Lib.hid (heap_alloc_new wr (.cells (insCells op ca b1 c n1 (.slice YA args.length Yc)) 37))
              have HB3 := Lib.hid (HB.out.grow hb3)
              have HX3 := Lib.hid ((hX.below hb3 (Nat.le_refl _)).more hb3.size)
              rw [hyy] at hag herr hins
              dsimp only at hag
              have HCI : Hid (∀ W, IsNums .i64 W W.heap.size (.slice YA args.length Yc) args → Calls Tryz.prog 21 #[.agg (insCells op ca b1 c n1 (.slice YA args.length Yc)), .int .i64 rg, .int .i64 ar] W (Makes W (.int .i64 0))) := Lib.hid (fun W hX => by
                have := check_any op ca b1 c n1 (.slice YA args.length Yc) args rg ar W hX
                rw [show checkV op ca b1 c n1 args rg ar = 0 from herr] at this
                exact this)
              have HRD : Hid (∀ W, IsNums .i64 W W.heap.size (.slice YA args.length Yc) args → Calls Tryz.prog 22 #[.agg (insCells op ca b1 c n1 (.slice YA args.length Yc))] W (ReadsDone W (rdsV (l.getD at' .zero)))) := Lib.hid (fun W hX => by
                rw [hyy]
                exact reads_any op ca b1 c n1 (.slice YA args.length Yc) args W hX (by have := items_small11 op ca b1 c n1 hag; omega))
              have HWT : Hid (∀ W, IsNums .i64 W W.heap.size (.slice YA args.length Yc) args → Calls Tryz.prog 23 #[.agg (insCells op ca b1 c n1 (.slice YA args.length Yc))] W (Makes W (.int .i64 (wrtV (l.getD at' .zero))))) := Lib.hid (fun W hX => by rw [hyy]; exact writes_any op ca b1 c n1 (.slice YA args.length Yc) args W hX)
              have H28 : op = 28 → 0 ≤ n1 ∧ n1 < (nf : Int) ∧ (args.length : Int) = (fs.getD n1.toNat .zero).params := fun ho => by
                have h0 := (call_nn herr ho).1
                unfold insE at hins
                dsimp only at hins
                rw [← HNF.out] at hins
                by_cases x1 : op = 28 ∧ (nf : Int) ≤ n1
                · rw [if_pos x1] at hins; exact absurd hins (by decide)
                · rw [if_neg x1] at hins
                  by_cases x2 : op = 28 ∧ (args.length : Int) ≠ (fs.getD n1.toNat .zero).params
                  · rw [if_pos x2] at hins; exact absurd hins (by decide)
                  · exact ⟨h0, by omega, Decidable.byContradiction fun hc => x2 ⟨ho, hc⟩⟩
              have H24 : op = 24 → n1 ≤ (nd : Int) := fun ho => by
                unfold insE at hins
                dsimp only at hins
                rw [← HND.out, if_neg (fun h => by have := h.1; omega), if_neg (fun h => by have := h.1; omega)] at hins
                by_cases x3 : op = 24 ∧ (nd : Int) < n1
                · rw [if_pos x3] at hins; exact absurd hins (by decide)
                · omega
              obtain ⟨rs, hrs⟩ : ∃ rs, rs = rdsV (l.getD at' .zero) := ⟨_, rfl⟩
              rw [← hrs] at HRD hrr hrd hln
              have HRS := Lib.hid (And.intro hrr (And.intro hrd hln))
              obtain ⟨xw, hxw⟩ : ∃ xw, xw = wrtV (l.getD at' .zero) := ⟨_, rfl⟩
              have HXW := Lib.hid hxw
              rw [← hxw] at HWT hwr
              have HLT := Lib.hid hsm
              have HWR := Lib.hid hwr
              obtain ⟨xl, hxl⟩ : ∃ xl, xl = rs.length := ⟨_, rfl⟩
              have HXL := Lib.hid hxl
              have xl11 : (xl : Int) ≤ 11 := by omega
              obtain ⟨LA, Lc, hls⟩ := ls_cells12 HLS.out hat
              obtain ⟨ll, hll⟩ : ∃ ll, ll = (nextV l at').length := ⟨_, rfl⟩
              have HLL := Lib.hid hll
              have HL2 : Hid (ll = 0 ∨ ll = 1 ∨ ll = 2) := Lib.hid (by have := nextV_two l at'; omega)
              rw [← hll] at hls
              have HLQ := Lib.hid hls
              have HMEM : Hid (∀ q, q < ll → (nextV l at').getD q 0 ∈ nextV l at') := Lib.hid (fun q hq => by rw [hll] at hq; rw [List.getD, List.getElem?_eq_getElem hq]; exact List.getElem_mem hq)
              have HBD := Lib.hid (fun x hx => HG.out.next HH.out.lt x hx)
              obtain ⟨yb, yo, yc2, hYV, _, _, hyc⟩ := hYB.out.plain (by omega)
              cases hYV
              have HYC : Hid (∀ W, Below w.heap.size w W → W.cell? ⟨yb, yo + s, none⟩ = some (.bool (way s))) := Lib.hid (fun W hb => (hb.cell (p := ⟨yb, yo + s, none⟩) (by assumption)).trans (hyc s hsm))
              clear hxl hls hll hyc
              clear hcc hX hyy hin hat herr hins hrr hwr hrd hck hln hag hb3 hrs hxw hal
              go_wp2
              generalize wr.alloc (.cells (insCells op ca b1 c n1 (.slice YA args.length Yc)) 37) = W3 at *
              clear i0 i1 i2 i3 c0 c1 c2 c3 c4 c5
              go_cut [146] from 90 to 227 (fun s146 wx => s146 = .bool false ∧ Below W3.heap.size W3 wx)
              case first =>
                by_cases h28 : op = 28
                · subst h28
                  obtain ⟨h1, h2, h3⟩ := H28 rfl
                  obtain ⟨kk, rfl⟩ : ∃ kk : Nat, n1 = kk := ⟨n1.toNat, by omega⟩
                  rw [Int.toNat_natCast] at h3
                  have h2n : kk < nf := by omega
                  have HPK4 : Hid (∀ W, Below w.heap.size w W → W.cell? ⟨fb, fo + kk * 4, none⟩ = some (.int .i64 args.length)) := Lib.hid (fun W hb => by
                    have h := hP.out W hb kk h2n
                    rw [h3]
                    exact h)
                  clear H28 H24
                  refine region20_call (nd := nd) (dc := dc) (DA := DA) (nf := nf) (fcap := fcap) (fb := fb) (fo := fo) (kk := kk) (fun _ _ _ _ _ h => h) h2n (fun W hb => HCI.out W ((HX3.out.below hb (Nat.le_refl _)).more hb.size)) (fun W hb => ?_) ?_
                  · have HB4 := HB3.out.grow hb
                    obtain ⟨y0, y1, y2, y3, y4, y5⟩ := cells6 (box_below KI.out hb)
                    obtain ⟨y6, y7, y8, y9⟩ := cells4 (H7.out.grow HB4.bel).box
                    obtain ⟨y10, y11⟩ := cells2 (H7.out.grow HB4.bel).one.one
                    exact ⟨⟨y0, y1, y2, y3, y4, y5, y7, y8, y10, y11⟩, HPK4.out W (H7.out.one.bel.trans (HB4.bel.mono H7.out.one.bel.size))⟩
                  · intro w6 v101 v102 v103 v104 v105 v106 v107 v108 v109 v110 v111 v112 v113 v114 v115 v116 v117 v118 v119 v120 v121 v122 v123 v124 v125 v126 v127 v128 v129 v130 v131 v132 v133 v134 v135 v136 v137 v138 v139 v140 v141 v142 v143 v144 v145 hb
                    have H6C := Lib.hid hb
                    clear hb
                    go_wp2
                    go_meet
                    case rel => exact ⟨rfl, H6C.out⟩
                · by_cases h24 : op = 24
                  · subst h24
                    have h4 := H24 rfl
                    clear H28 H24
                    refine region20_data (nd := nd) (dc := dc) (DA := DA) (nf := nf) (fcap := fcap) (FA := some ⟨fb, fo, none⟩) (fun _ _ _ _ _ h => h) h4 (fun W hb => HCI.out W ((HX3.out.below hb (Nat.le_refl _)).more hb.size)) (fun W hb => ?_) ?_
                    · have HB4 := HB3.out.grow hb
                      obtain ⟨y0, y1, y2, y3, y4, y5⟩ := cells6 (box_below KI.out hb)
                      obtain ⟨y6, y7, y8, y9⟩ := cells4 (H7.out.grow HB4.bel).box
                      obtain ⟨y10, y11⟩ := cells2 (H7.out.grow HB4.bel).one.one
                      exact ⟨y0, y1, y2, y3, y4, y5, y7, y8, y10, y11⟩
                    · intro w6 v101 v102 v103 v104 v105 v106 v107 v108 v109 v110 v111 v112 v113 v114 v115 v116 v117 v118 v119 v120 v121 v122 v123 v124 v125 v126 v127 v128 v129 v130 v131 v132 v133 v134 v135 v136 v137 v138 v139 v140 v141 v142 v143 v144 v145 hb
                      have H6C := Lib.hid hb
                      clear hb
                      go_wp2
                      go_meet
                      case rel => exact ⟨rfl, H6C.out⟩
                  · clear H28 H24
                    refine region20_other (nd := nd) (dc := dc) (DA := DA) (nf := nf) (fcap := fcap) (FA := some ⟨fb, fo, none⟩) (fun _ _ _ _ _ h => h) h28 h24 (fun W hb => HCI.out W ((HX3.out.below hb (Nat.le_refl _)).more hb.size)) (fun W hb => ?_) ?_
                    · have HB4 := HB3.out.grow hb
                      obtain ⟨y0, y1, y2, y3, y4, y5⟩ := cells6 (box_below KI.out hb)
                      obtain ⟨y6, y7, y8, y9⟩ := cells4 (H7.out.grow HB4.bel).box
                      obtain ⟨y10, y11⟩ := cells2 (H7.out.grow HB4.bel).one.one
                      exact ⟨y0, y1, y2, y3, y4, y5, y7, y8, y10, y11⟩
                    · intro w6 v101 v102 v103 v104 v105 v106 v107 v108 v109 v110 v111 v112 v113 v114 v115 v116 v117 v118 v119 v120 v121 v122 v123 v124 v125 v126 v127 v128 v129 v130 v131 v132 v133 v134 v135 v136 v137 v138 v139 v140 v141 v142 v143 v144 v145 hb
                      have H6C := Lib.hid hb
                      clear hb
                      go_wp2
                      go_meet
                      case rel => exact ⟨rfl, H6C.out⟩
              case rest =>
                obtain ⟨rfl, hcut⟩ := hcut
                have HB6 := Lib.hid (HB3.out.grow hcut)
                have KI6 := Lib.hid (box_below KI.out hcut)
                have HX6 : Hid (IsNums .i64 wc wc.heap.size (.slice YA args.length Yc) args) := Lib.hid ((HX3.out.below hcut (Nat.le_refl _)).more hcut.size)
                obtain ⟨v0, v1, v2, v3, v4, v5⟩ := cells6 KI6.out
                clear HB3 HX3 KI hcut H28 H24 HCI
                go_wp2_with (go_at_call 22; (with_reducible refine (HRD.out wc HX6.out).mono ?_); rintro e w8 ⟨R, rfl, hor, hb⟩; have ho : Owns w8 _ 3 1 (fun _ => True) R rs.length (rs.map (Value.int .i64)) := ⟨hor, fun _ _ _ _ _ _ _ _ => trivial⟩; have HR8 := Lib.hid (IsNums.of_owns ho (Nat.le_refl _)); obtain ⟨rA, rc, hre⟩ := owns_len ho; rw [← HXL.out] at hre; subst hre; have HB8 := Lib.hid (HB6.out.grow hb); have KI8 := Lib.hid (box_below KI6.out hb); have HX8 := Lib.hid ((HX6.out.below hb (Nat.le_refl _)).more hb.size); clear hb ho hor)
                clear v0 v1 v2 v3 v4 v5
                go_loopw [17] (fun v wi => ∃ q : Nat, q ≤ xl ∧ v = .int .i64 q ∧ Hid (Below w8.heap.size w8 wi)) (fun v _ => xl - (intOf v).toNat)
                case atStart => exact ⟨0, by omega, rfl, Below.refl _ _⟩
                case round =>
                  obtain ⟨q, hq, rfl, HQ⟩ := hrel
                  have HBQ := Lib.hid (HB8.out.grow HQ.out)
                  by_cases hql : q < xl
                  · have q0 : (0 : Int) ≤ (q : Int) := by omega
                    have q1 : (q : Int) < (xl : Int) := by omega
                    have HADQ : Hid (wrap64 ((q : Int) + 1) = (q : Int) + 1) := Lib.hid (by unfold wrap64; omega)
                    have hql2 : q < rs.length := by rw [← HXL.out]; exact hql
                    obtain ⟨nb, no, nc, hV, _, _, hnc⟩ := (HR8.out.below HQ.out (Nat.le_refl _)).plain (by rw [← HXL.out]; omega)
                    rw [← HXL.out] at hV
                    cases hV
                    have hx1 := hnc q hql2
                    have hmem : rs.getD q 0 ∈ rs := by rw [List.getD, List.getElem?_eq_getElem hql2]; exact List.getElem_mem hql2
                    have hxb := HRS.out.1 _ hmem
                    have hxr := HRS.out.2.1 _ hmem
                    generalize rs.getD q 0 = x at hx1 hxb hxr
                    obtain ⟨xn, rfl⟩ : ∃ xn : Nat, x = xn := ⟨x.toNat, by omega⟩
                    rw [Int.toNat_natCast] at hxr
                    have y0 : (0 : Int) ≤ (xn : Int) := by omega
                    have y1 : (xn : Int) < rg := hxb.2
                    have y64 : (xn : Int) < 64 := by have := HRG.out.2; omega
                    have hyc := HBQ.out.cell (i := xn) (by omega)
                    rw [hxr] at hyc
                    obtain ⟨j0, j1, j2, j3⟩ := cells4 (H7.out.grow HBQ.out.bel).box
                    have HQL := Lib.hid hql
                    clear hql2 hnc hmem hxb hxr hql
                    go_wp2
                    go_quiet (fail)
                    go_wp2
                    go_roundw
                    case rel => exact ⟨q + 1, HQL.out, by go_num, below_drewN HQ.out _⟩
                    case measure => first | exact down12h HQL.out | (rw [HADQ.out]; exact down12h HQL.out)
                  · obtain rfl : q = xl := by omega
                    have KIQ := Lib.hid (box_below KI8.out HQ.out)
                    have HXQ := Lib.hid ((HX8.out.below HQ.out (Nat.le_refl _)).more HQ.out.size)
                    obtain ⟨v0, v1, v2, v3, v4, v5⟩ := cells6 KIQ.out
                    obtain ⟨j0, j1, j2, j3⟩ := cells4 (H7.out.grow HBQ.out.bel).box
                    clear hql
                    have u1 : xw < rg := by have h1 := HWR.out; have h2 := HRG.out.1; omega
                    go_upto_if 186 with (go_at_call 23; (with_reducible refine (HWT.out _ HXQ.out).mono ?_); rintro e wr9 ⟨rfl, hb⟩; have HB9 := Lib.hid (HBQ.out.grow hb); obtain ⟨b90, b91, b92, b93⟩ := cells4 (H7.out.grow HB9.out.bel).box; clear hb)
                    clear v0 v1 v2 v3 v4 v5 j0 j1 j2 j3 b90 b91 b92 b93
                    go_cut [18] from 90 to 227 (fun s18 wx => Hs12 w7 wx (wroteB f xw))
                    case first =>
                      by_cases hw : 0 ≤ xw
                      · obtain ⟨xn, rfl⟩ : ∃ xn : Nat, xw = xn := ⟨xw.toNat, by omega⟩
                        have u0 : (0 : Int) ≤ (xn : Int) := hw
                        have u64 : (xn : Int) < 64 := by have := HRG.out.2; omega
                        have HWB : Hid (∀ i, i < 64 → wroteB f ((xn : Nat) : Int) i = if i = xn then true else f i) := Lib.hid (fun i hi => by
                          unfold wroteB
                          by_cases e : i = xn
                          · rw [if_pos (by omega), if_pos e]
                          · rw [if_neg (by omega), if_neg e])
                        have HBF := Lib.hid (HB9.out.set xn HWB.out)
                        have c9 := HB9.out.cell (i := xn) (by omega)
                        have z9 := HB9.out.row.frozen xn
                        clear hw
                        go_wp2
                        go_meet
                        case rel => exact HBF.out
                      · have HBF : Hid (Hs12 w7 wr9 (wroteB f xw)) := Lib.hid (HB9.out.congr (fun i hi => by unfold wroteB; rw [if_neg (by omega)]))
                        go_wp2
                        go_meet
                        case rel => exact HBF.out
                    case rest =>
                      have HBF := Lib.hid hcut
                      clear hcut
                      obtain ⟨p0, p1, p2, p3⟩ := cells4 (H7.out.grow HBF.out.bel).box
                      obtain ⟨hnn, x0⟩ := HLQ.out _ HBF.out.bel
                      have HFD := Lib.hid (H7.out.one.bel.trans (HBF.out.bel.mono H7.out.one.bel.size))
                      have yw := HYC.out _ HFD.out
                      by_cases hl0 : ll = 0
                      · have e6 : (((ll : Nat) : Int) == 0) = true := by simp [hl0]
                        have e7 : (ll == 0) = true := by simp [hl0]
                        clear hl0 hnn yw
                        go_wp2
                        go_ret
                        exact ⟨by first | rfl | simp, HFD.out⟩
                      · obtain ⟨l1, hl1⟩ : ∃ l1, ll = l1 + 1 := ⟨ll - 1, by omega⟩
                        have hl2 := HL2.out
                        have e6 : (((ll : Nat) : Int) == 0) = false := by simp; omega
                        have e7 : (ll == 0) = false := by simp; omega
                        have hsub : ((ll : Nat) : Int) - 1 = (l1 : Int) := by omega
                        have l0 : (0 : Int) ≤ (l1 : Int) := by omega
                        have l3 : (l1 : Int) < ((ll : Nat) : Int) := by omega
                        have l4 : (0 : Int) < ((ll : Nat) : Int) := by omega
                        have l5 : ((ll : Nat) : Int) ≤ 2 := by omega
                        have hm0 := HMEM.out 0 (by omega)
                        have hm1 := HMEM.out l1 (by omega)
                        have hb0 := HBD.out _ hm0
                        have hb1 := HBD.out _ hm1
                        obtain ⟨nb, no, nc, hV, _, _, hnc⟩ := hnn.plain (by rw [← HLL.out]; omega)
                        rw [← HLL.out] at hV
                        cases hV
                        have x1 := hnc 0 (by rw [← HLL.out]; omega)
                        have x2 := hnc l1 (by rw [← HLL.out]; omega)
                        rw [Nat.add_zero] at x1
                        obtain ⟨m0, hm0e⟩ : ∃ m0 : Nat, (nextV l at').getD 0 0 = (m0 : Int) := ⟨((nextV l at').getD 0 0).toNat, by omega⟩
                        obtain ⟨m1, hm1e⟩ : ∃ m1 : Nat, (nextV l at').getD l1 0 = (m1 : Int) := ⟨((nextV l at').getD l1 0).toNat, by omega⟩
                        rw [hm0e] at x1 hm0
                        rw [hm1e] at x2 hm1
                        have HM0 := Lib.hid hm0
                        have HM1 := Lib.hid hm1
                        clear hm0 hm1 hb0 hb1 hm0e hm1e hnn hnc hl0 hl1 hl2
                        go_upto_if 205 with fail
                        go_cut [19] from 90 to 227 (fun s19 wx => ∃ b' : Nat, s19 = .int .i64 b' ∧ (b' : Int) ∈ nextV l at' ∧ Hs12 w7 wx (wroteB f xw))
                        case first =>
                          cases hwy : way s with
                          | true =>
                            go_wp2
                            go_quiet (fail)
                            go_wp2
                            go_meet
                            case rel => exact ⟨m1, rfl, HM1.out, HBF.out.drewN _⟩
                          | false =>
                            go_wp2
                            go_meet
                            case rel => exact ⟨m0, rfl, HM0.out, HBF.out⟩
                        case rest =>
                          obtain ⟨b', rfl, hmem, hbf⟩ := hcut
                          have HBG := Lib.hid hbf
                          have hbd := HBD.out _ hmem
                          have HN2 := Lib.hid (HH.out.step HG.out hmem)
                          rw [← HXW.out] at HN2
                          have bb0 : (0 : Int) ≤ (b' : Int) := hbd.1
                          have bb1 : (b' : Int) < (n : Int) := by rw [HN.out]; exact hbd.2
                          obtain ⟨r0, r1, r2, r3⟩ := cells4 (H7.out.grow HBG.out.bel).box
                          clear hmem hbf hbd p0 p1 p2 p3 x0 x1 x2 yw
                          go_wp2
                          go_roundw
                          case rel => exact ⟨b', s + 1, _, HLT.out, by go_num, rfl, Lib.hid ⟨HBG.out, HN2.out⟩⟩
                          case measure => first | exact down12h HLT.out | (rw [HADD.out]; exact down12h HLT.out)
            · obtain rfl : s = m := by omega
              go_wp2
              go_ret
              exact ⟨rfl, HBW.out⟩
end Go.Proofs.YtfdblmjgpoocpaaGreat
