/- ModulePuts: which modules may be, their bytes, and whether two are the same, beside the document's own answers. Contract; no condition but that the modules lie in memory. -/
import Derived.Test.YtimhlbejjbnofaaLaws08D
import Derived.Test.YtimhlbejjbnofaaRef08P
import Derived.Test.YtimhlbejjbnofaaRef08S
import Derived.Test.YtimhlbejjbnofaaKit08C
import Derived.Test.YtimhlbejjbnofaaS05
namespace Go.Proofs.Ytimhlbejjbnofaa
open Go.RowKit Go.Shelf
set_option linter.unusedVariables false
set_option linter.unusedSimpArgs false

/-- A copy of a module. -/
structure MCopy (W : World) (D F : Value) (data : List Int) (fs : List FunV) : Prop where
  dat : Owns W 0 5 1 IsU8 D data.length (data.map (Value.int .u8))
  bd : ∀ x ∈ data, 0 ≤ x ∧ x < 256
  fns : ∃ Cs, OwnF 47 0 W F fs Cs
  len : fs.length ≤ 1000000
section
variable {W W' : World} {D F : Value} {data : List Int} {fs : List FunV}
theorem MCopy.grow (h : MCopy W D F data fs) (hb : Below W.heap.size W W') : MCopy W' D F data fs := by
  obtain ⟨Cs, hf⟩ := h.fns
  exact ⟨h.dat.below hb (Nat.le_refl _), h.bd, ⟨Cs, hf.below hb (Nat.le_refl _)⟩, h.len⟩
theorem mcopy_stab (D F : Value) (data : List Int) (fs : List FunV) : Stab 25 (fun W => MCopy W D F data fs) := by
  refine ⟨fun W W' hb h => h.grow hb, fun R W W' hb hR h => ?_⟩
  have typ : ∀ (u : TypeId), u ≠ 25 → ∀ g c, W.heap[g]? = some (.cells c u (0, 0)) → ¬ R g := fun u hu g c hc e => by
    obtain ⟨c2, hc2⟩ := hR g e
    exact hu (other_type hc hc2)
  obtain ⟨Cs, hf⟩ := h.fns
  refine ⟨Owns.but h.dat hb (fun g hg => ?_), h.bd, ⟨Cs, hf.but hb (fun g hg => ?_) (fun k hk => absurd hk (Nat.not_lt_zero _)) (typ _ (by decide)) (typ _ (by decide))⟩, h.len⟩
  · obtain ⟨c, hc⟩ := h.dat.typed hg
    exact typ _ (by decide) g c hc
  · obtain ⟨c, hc⟩ := hf.own.typed hg
    exact typ _ (by decide) g c hc
theorem MCopy.byt (h : MCopy W D F data fs) : IsBytes W W.heap.size D data := IsBytes.of_owns h.dat h.bd (Nat.le_refl _)
theorem MCopy.funs (h : MCopy W D F data fs) : IsFuns W W.heap.size F fs := by
  obtain ⟨Cs, hf⟩ := h.fns
  exact hf.funs h.len
end
theorem copy_pkm (D F : Value) (data : List Int) (fs : List FunV) (B0 : World) (hD : IsBytes B0 B0.heap.size D data) (hF : IsFuns B0 B0.heap.size F fs) (hl : longM ⟨data, fs⟩ = false) (W : World) (A : List Nat) (C : List (World → Prop)) (h : PkG 25 #[.slice none 0 0, .slice none 0 0] B0 W A C) :
    Calls Try.prog 11 #[.agg #[D, F]] W (fun e w' => ∃ S l c G m d, e = .returned (.agg #[.slice S l c, .slice G m d]) ∧ PkG 25 #[.slice none 0 0, .slice none 0 0] B0 w' A ((fun W => MCopy W (.slice S l c) (.slice G m d) data fs) :: C)) := by
  refine (copyModule_any D F data fs W (hD.grow h.bel) (hF.grow h.bel) hl).mono ?_
  rintro e w' ⟨D', F', Cs, rfl, ho, hf⟩
  obtain ⟨S, c, hde⟩ := owns_len ho.own
  obtain ⟨G, d, hfe⟩ := owns_len hf.own
  subst hde hfe
  exact ⟨S, _, c, G, _, d, rfl, h.call ho.bel (mcopy_stab _ _ _ _) ⟨Owns.base ho.own (Nat.zero_le _), hD.1, ⟨Cs, hf⟩, by have := (long_few hl).2.1; dsimp only at this; omega⟩⟩
/-- Two modules, their copies, and the boxes of all four. -/
structure MQuad (w W : World) (p9 p10 : Nat) (D F D' F' E G E' G' : Value) (data : List Int) (fs : List FunV) (data' : List Int) (fs' : List FunV) : Prop where
  two : TwoM w W D F D' F'
  x0 : W.cell? ⟨p9, 0, none⟩ = some E
  x1 : W.cell? ⟨p9, 1, none⟩ = some G
  y0 : W.cell? ⟨p10, 0, none⟩ = some E'
  y1 : W.cell? ⟨p10, 1, none⟩ = some G'
  l9 : p9 < W.heap.size
  l10 : p10 < W.heap.size
  c1 : MCopy W E G data fs
  c2 : MCopy W E' G' data' fs'
theorem MQuad.grow {w W W' : World} {p9 p10 : Nat} {D F D' F' E G E' G' : Value} {data : List Int} {fs : List FunV} {data' : List Int} {fs' : List FunV} (h : MQuad w W p9 p10 D F D' F' E G E' G' data fs data' fs') (hb : Below W.heap.size W W') : MQuad w W' p9 p10 D F D' F' E G E' G' data fs data' fs' :=
  ⟨h.two.grow hb, (hb.cell (p := ⟨p9, 0, none⟩) h.l9).trans h.x0, (hb.cell (p := ⟨p9, 1, none⟩) h.l9).trans h.x1, (hb.cell (p := ⟨p10, 0, none⟩) h.l10).trans h.y0, (hb.cell (p := ⟨p10, 1, none⟩) h.l10).trans h.y1, Nat.lt_of_lt_of_le h.l9 hb.size, Nat.lt_of_lt_of_le h.l10 hb.size, h.c1.grow hb, h.c2.grow hb⟩
theorem MQuad.eight {w W : World} {p9 p10 : Nat} {D F D' F' E G E' G' : Value} {data : List Int} {fs : List FunV} {data' : List Int} {fs' : List FunV} (h : MQuad w W p9 p10 D F D' F' E G E' G' data fs data' fs') :
    W.cell? ⟨w.heap.size, 0, none⟩ = some D ∧ W.cell? ⟨w.heap.size, 1, none⟩ = some F ∧ W.cell? ⟨w.heap.size + 1, 0, none⟩ = some D' ∧ W.cell? ⟨w.heap.size + 1, 1, none⟩ = some F' ∧ W.cell? ⟨p9, 0, none⟩ = some E ∧ W.cell? ⟨p9, 1, none⟩ = some G ∧ W.cell? ⟨p10, 0, none⟩ = some E' ∧ W.cell? ⟨p10, 1, none⟩ = some G' :=
  ⟨h.two.cells.1, h.two.cells.2.1, h.two.cells.2.2.1, h.two.cells.2.2.2, h.x0, h.x1, h.y0, h.y1⟩
theorem rput_law (D F : Value) (data : List Int) (fs : List FunV) (w : World) (hD : IsBytes w w.heap.size D data) (hF : IsFuns w w.heap.size F fs) (hs : ∀ f ∈ fs, f.code.length ≤ 1000) :
    Calls Try.prog 13 #[.agg #[D, F]] w fun e w' => ∃ A n c xs, n = xs.length ∧ Hid (xs = goodB (ModV.mk data fs).err (ModV.mk data fs).bytes) ∧ e = .returned (.tuple #[.slice A n c, .int .i64 (ModV.mk data fs).err]) ∧ OutB w w' (.slice A n c) xs :=
  (rput8_any D F data fs w hD hF hs).mono fun e w' ⟨V, he, ho⟩ => by
    obtain ⟨ys, A, c, hy, hV, hO⟩ := ho.name
    subst hV
    exact ⟨A, ys.length, c, ys, rfl, hy, he, hO.out⟩
theorem good_bd {z : Int} {xs : List Int} (h : ∀ x ∈ xs, 0 ≤ x ∧ x < 256) : ∀ x ∈ goodB z xs, 0 ≤ x ∧ x < 256 := by
  unfold goodB
  split
  · exact h
  · simp
set_option maxRecDepth 100000 in
set_option maxHeartbeats 16000000 in
theorem puts8_law (D F D' F' : Value) (data data' : List Int) (fs fs' : List FunV) (w : World) (hD : IsBytes w w.heap.size D data) (hF : IsFuns w w.heap.size F fs) (hD' : IsBytes w w.heap.size D' data') (hF' : IsFuns w w.heap.size F' fs') :
    Calls Try.prog 3 #[.agg #[D, F], .agg #[D', F']] w (Makes w (.bool true)) := by
  have HT := Lib.hid (twoM_new w D F D' F')
  have HLg := Lib.hid (fun W (hb : Below w.heap.size w W) => longModule_any D F data fs W (hD.grow hb) (hF.grow hb))
  have HLg' := Lib.hid (fun W (hb : Below w.heap.size w W) => longModule_any D' F' data' fs' W (hD'.grow hb) (hF'.grow hb))
  have HDw := Lib.hid (fun W (hb : Below w.heap.size w W) => hD.grow hb)
  have HFw := Lib.hid (fun W (hb : Below w.heap.size w W) => hF.grow hb)
  have HDw' := Lib.hid (fun W (hb : Below w.heap.size w W) => hD'.grow hb)
  have HFw' := Lib.hid (fun W (hb : Below w.heap.size w W) => hF'.grow hb)
  have HBd := Lib.hid (bytes_okM (fs := fs) hD.1)
  obtain ⟨DA, dc, hDe⟩ := hD.len
  obtain ⟨FA, fc, hFe⟩ := hF.len
  obtain ⟨DA', dc', hDe'⟩ := hD'.len
  obtain ⟨FA', fc', hFe'⟩ := hF'.len
  subst hDe hFe hDe' hFe'
  clear hD hF hD' hF'
  cases hlg : longM ⟨data, fs⟩
  case true =>
    rw [hlg] at HLg
    clear hlg
    go_enter Try.func3, Try.ntmps3
    obtain ⟨a0, a1, a2, a3⟩ := HT.out.cells
    go_wp2_with (first
      | (go_at_call 9; (with_reducible refine (HLg.out _ HT.out.bel).mono ?_); rintro e w2 ⟨rfl, hb⟩; have H2 := Lib.hid (HT.out.grow hb); clear hb)
      | (go_at_call 10; (with_reducible refine (awake8_any _).mono ?_); rintro e w3 ⟨rfl, hb⟩; have H3 := Lib.hid (H2.out.grow hb); clear hb))
    go_ret
    exact ⟨rfl, H3.out.bel⟩
  rw [hlg] at HLg
  cases hlg' : longM ⟨data', fs'⟩
  case true =>
    rw [hlg'] at HLg'
    clear hlg hlg'
    go_enter Try.func3, Try.ntmps3
    obtain ⟨a0, a1, a2, a3⟩ := HT.out.cells
    go_wp2_with (first
      | (go_at_call 9; (with_reducible refine (HLg.out _ HT.out.bel).mono ?_); rintro e w1 ⟨rfl, hb⟩; have H1 := Lib.hid (HT.out.grow hb); obtain ⟨b0, b1, b2, b3⟩ := H1.out.cells; clear hb)
      | (go_at_call 9; (with_reducible refine (HLg'.out _ H1.out.bel).mono ?_); rintro e w2 ⟨rfl, hb⟩; have H2 := Lib.hid (H1.out.grow hb); clear hb)
      | (go_at_call 10; (with_reducible refine (awake8_any _).mono ?_); rintro e w3 ⟨rfl, hb⟩; have H3 := Lib.hid (H2.out.grow hb); clear hb))
    go_ret
    exact ⟨rfl, H3.out.bel⟩
  rw [hlg'] at HLg'
  have HSm := Lib.hid (long_few hlg)
  have HSm' := Lib.hid (long_few hlg')
  have HNl := Lib.hid hlg
  have HNl' := Lib.hid hlg'
  clear hlg hlg'
  go_enter Try.func3, Try.ntmps3
  obtain ⟨a0, a1, a2, a3⟩ := HT.out.cells
  go_wp2_with (first
    | (go_at_call 9; (with_reducible refine (HLg.out _ HT.out.bel).mono ?_); rintro e w1 ⟨rfl, hb⟩; have H1 := Lib.hid (HT.out.grow hb); obtain ⟨b0, b1, b2, b3⟩ := H1.out.cells; clear hb)
    | (go_at_call 9; (with_reducible refine (HLg'.out _ H1.out.bel).mono ?_); rintro e w0 ⟨rfl, hb⟩; have H0 := Lib.hid (H1.out.grow hb); clear hb))
  clear a0 a1 a2 a3 b0 b1 b2 b3
  rename_i J0 hJ0
  have rest : ∀ (u0 u1 u12 u13 u14 u15 u16 u17 : Value) (W : World) (p9 p10 : Nat) (S1 : Option Addr) (l1 c1 : Nat) (G1 : Option Addr) (m1 d1 : Nat) (S2 : Option Addr) (l2 c2 : Nat) (G2 : Option Addr) (m2 d2 : Nat), (Below w0.heap.size w0 W ∧ (fun W => MCopy W (.slice S1 l1 c1) (.slice G1 m1 d1) data fs) W ∧ (fun W => MCopy W (.slice S2 l2 c2) (.slice G2 m2 d2) data' fs') W ∧ W.cell? ⟨p9, 0, none⟩ = some (.slice S1 l1 c1) ∧ W.cell? ⟨p9, 1, none⟩ = some (.slice G1 m1 d1) ∧ W.cell? ⟨p10, 0, none⟩ = some (.slice S2 l2 c2) ∧ W.cell? ⟨p10, 1, none⟩ = some (.slice G2 m2 d2) ∧ p9 < W.heap.size ∧ p10 < W.heap.size ∧ p9 ≠ p10) → J0 { tmps := #[u0, u1, .pointer (some ⟨w.heap.size, 0, none⟩), .pointer (some ⟨w.heap.size + 1, 0, none⟩), .bool false, .pointer (some ⟨p9, 0, none⟩), .pointer (some ⟨p10, 0, none⟩), undef, undef, undef, undef, undef, u12, u13, u14, u15, u16, u17, undef, .agg #[.slice DA data.length dc, .slice FA fs.length fc], .agg #[.slice S1 l1 c1, .slice G1 m1 d1], .agg #[.slice DA' data'.length dc', .slice FA' fs'.length fc'], .agg #[.slice S2 l2 c2, .slice G2 m2 d2], undef, undef, undef, undef, undef, undef, undef, undef, undef, undef, undef, undef, undef, undef, undef, undef, undef, undef, undef, undef, undef, undef, undef, undef, undef, undef, undef, undef, undef, undef, undef, undef, undef, undef, undef, undef, undef, undef, undef, undef, undef, undef, undef, undef, undef, undef, undef, undef, undef, undef], defers := [] } W := by
    intro u0 u1 u12 u13 u14 u15 u16 u17 W p9 p10 S1 l1 c1 G1 m1 d1 S2 l2 c2 G2 m2 d2 hQ
    apply hJ0
    obtain ⟨hbel, hc1, hc2, x0, x1, y0, y1, l9, l10, hne⟩ := hQ
    have Q0 := Lib.hid (MQuad.mk (H0.out.grow hbel) x0 x1 y0 y1 l9 l10 hc1 hc2)
    obtain ⟨k0, k1, k2, k3, _, _, _, _⟩ := Q0.out.eight
    have HBg := Lib.hid (good_bd (z := (ModV.mk data fs).err) HBd.out)
    have HP := Lib.hid (put_law (.slice S1 l1 c1) (.slice G1 m1 d1) data fs W hc1.byt hc1.funs)
    have HRP := Lib.hid (fun W (hb : Below w.heap.size w W) => rput_law (.slice DA data.length dc) (.slice FA fs.length fc) data fs W (HDw.out W hb) (HFw.out W hb) (fun f hf => by have := (HSm.out.2.2 f hf).1; omega))
    have HC := Lib.hid (fun W (hq : MCopy W (.slice S1 l1 c1) (.slice G1 m1 d1) data fs) => check8_any (.slice S1 l1 c1) (.slice G1 m1 d1) data fs W hq.byt hq.funs)
    have HRC := Lib.hid (fun W (hb : Below w.heap.size w W) => rcheck8_any (.slice DA data.length dc) (.slice FA fs.length fc) data fs W (HDw.out W hb) (HFw.out W hb) (fun f hf => by have := (HSm.out.2.2 f hf).1; omega))
    have HS := Lib.hid (fun W (hq : MCopy W (.slice S1 l1 c1) (.slice G1 m1 d1) data fs) (hq' : MCopy W (.slice S2 l2 c2) (.slice G2 m2 d2) data' fs') => same8_any (.slice S1 l1 c1) (.slice G1 m1 d1) (.slice S2 l2 c2) (.slice G2 m2 d2) data data' fs fs' W hq.byt hq.funs hq'.byt hq'.funs (by have := HSm.out.2.1; omega) (by have := HSm'.out.2.1; omega))
    have HRS := Lib.hid (fun W (hb : Below w.heap.size w W) => rsame8_any (.slice DA data.length dc) (.slice FA fs.length fc) (.slice DA' data'.length dc') (.slice FA' fs'.length fc') data data' fs fs' W (HDw.out W hb) (HFw.out W hb) (HDw'.out W hb) (HFw'.out W hb))
    have HM1 := Lib.hid (fun W (hq : MCopy W (.slice S1 l1 c1) (.slice G1 m1 d1) data fs) (hb : Below w.heap.size w W) => sameModule_any (.slice S1 l1 c1) (.slice G1 m1 d1) (.slice DA data.length dc) (.slice FA fs.length fc) data data fs fs W hq.byt hq.funs (HDw.out W hb) (HFw.out W hb))
    have HM2 := Lib.hid (fun W (hq : MCopy W (.slice S2 l2 c2) (.slice G2 m2 d2) data' fs') (hb : Below w.heap.size w W) => sameModule_any (.slice S2 l2 c2) (.slice G2 m2 d2) (.slice DA' data'.length dc') (.slice FA' fs'.length fc') data' data' fs' fs' W hq.byt hq.funs (HDw'.out W hb) (HFw'.out W hb))
    rw [sameM_refl] at HM1 HM2
    obtain ⟨sv, hsv⟩ : ∃ x, x = sameM ⟨data, fs⟩ ⟨data', fs'⟩ := ⟨_, rfl⟩
    rw [← hsv] at HS HRS
    obtain ⟨gl, hgl⟩ : ∃ x, x = goodB (ModV.mk data fs).err (ModV.mk data fs).bytes := ⟨_, rfl⟩
    rw [← hgl] at HP HRP HBg
    obtain ⟨z, hz⟩ : ∃ x, x = (ModV.mk data fs).err := ⟨_, rfl⟩
    rw [← hz] at HP HRP HC HRC
    have hzz : (z == z) = true := by simp
    have hss : (sv == sv) = true := by cases sv <;> rfl
    clear hbel hc1 hc2 hne hsv hgl hz HBd
    go_wp2_with (first
      | (go_at_call 12; (with_reducible refine HP.out.mono ?_); rintro e w3 ⟨A3, n3, c3, x3, hn3, hx3, rfl, ho⟩; have Q3 := Lib.hid (Q0.out.grow ho.bel); have O3 := Lib.hid ho; have X3 := Lib.hid (And.intro hn3 hx3.out); obtain ⟨e0, e1, e2, e3, _, _, _, _⟩ := Q3.out.eight; clear ho hn3 hx3)
      | (go_at_call 13; (with_reducible refine (HRP.out _ Q3.out.two.bel).mono ?_); rintro e w4 ⟨A4, n4, c4, x4, hn4, hx4, rfl, ho⟩; have Q4 := Lib.hid ((Q3.out.grow ho.bel).grow (Below.refl _ _).drew); have O4 := Lib.hid (O3.out.grow ho.bel).drew; have B4 := Lib.hid ((named_is X3.out.2 (outB_is O4.out (by rw [X3.out.2]; exact HBg.out)))); have B4' := Lib.hid ((named_is hx4.out (outB_is ho (by rw [hx4.out]; exact HBg.out))).below (Below.refl w4.heap.size w4).drew (Nat.le_refl _)); have K4 := Lib.hid Q4.out.eight; obtain ⟨f0, f1, f2, f3, f4, f5, f6, f7⟩ := (Q3.out.grow ho.bel).eight; clear ho hn4 hx4))
    clear k0 k1 k2 k3 e0 e1 e2 e3
    go_region_held3 (fun W' => W'.cell? ⟨w.heap.size, 0, none⟩ = some (.slice DA data.length dc) ∧ W'.cell? ⟨w.heap.size, 1, none⟩ = some (.slice FA fs.length fc) ∧ W'.cell? ⟨w.heap.size + 1, 0, none⟩ = some (.slice DA' data'.length dc') ∧ W'.cell? ⟨w.heap.size + 1, 1, none⟩ = some (.slice FA' fs'.length fc') ∧ W'.cell? ⟨p9, 0, none⟩ = some (.slice S1 l1 c1) ∧ W'.cell? ⟨p9, 1, none⟩ = some (.slice G1 m1 d1) ∧ W'.cell? ⟨p10, 0, none⟩ = some (.slice S2 l2 c2) ∧ W'.cell? ⟨p10, 1, none⟩ = some (.slice G2 m2 d2))
      (first | with_reducible exact K8.out | with_reducible exact K7.out | with_reducible exact K6.out | with_reducible exact K5.out | with_reducible exact K4.out | go_keep)
      (first
        | (go_at_call 14; (with_reducible refine (sameBytes_yes _ _ gl _ _ _ B4.out B4'.out).mono ?_); rintro e w' ⟨rfl, rfl⟩)
        | (go_at_call 15; (with_reducible refine (HC.out _ Q4.out.c1).mono ?_); rintro e w5 ⟨rfl, hb⟩; have Q5 := Lib.hid (Q4.out.grow hb); have K5 := Lib.hid Q5.out.eight; have O5 := Lib.hid (O4.out.grow hb); clear hb)
        | (go_at_call 16; (with_reducible refine (HRC.out _ Q5.out.two.bel).mono ?_); rintro e w6 ⟨rfl, hb⟩; have Q6 := Lib.hid (Q5.out.grow hb); have K6 := Lib.hid Q6.out.eight; have O6 := Lib.hid (O5.out.grow hb); clear hb)
        | (go_at_call 17; (with_reducible refine (HS.out _ Q6.out.c1 Q6.out.c2).mono ?_); rintro e w7 ⟨rfl, hb⟩; have Q7 := Lib.hid (Q6.out.grow hb); have K7 := Lib.hid Q7.out.eight; have O7 := Lib.hid (O6.out.grow hb); clear hb)
        | (go_at_call 18; (with_reducible refine (HRS.out _ Q7.out.two.bel).mono ?_); rintro e w8 ⟨rfl, hb⟩; have Q8 := Lib.hid (Q7.out.grow hb); have K8 := Lib.hid Q8.out.eight; have O8 := Lib.hid (O7.out.grow hb); clear hb))
    obtain ⟨g0, g1, g2, g3, g4, g5, g6, g7⟩ := K8.out
    clear f0 f1 f2 f3 f4 f5 f6 f7
    go_wp2_with (first
      | (go_at_call 19; (with_reducible refine (over_any _ _ _ _ _ O8.out.own).mono ?_); rintro e w9 ⟨rfl, hb⟩; have Q9 := Lib.hid (Q0.out.grow (O8.out.bel.trans hb)); obtain ⟨h0, h1, h2, h3, h4, h5, h6, h7⟩ := Q9.out.eight; clear hb)
      | (go_at_call 20; (with_reducible refine (HM1.out _ Q9.out.c1 Q9.out.two.bel).mono ?_); rintro e w10 ⟨rfl, hb⟩; have Q10 := Lib.hid (Q9.out.grow hb); obtain ⟨i0, i1, i2, i3, i4, i5, i6, i7⟩ := Q10.out.eight; clear hb)
      | (go_at_call 20; (with_reducible refine (HM2.out _ Q10.out.c2 Q10.out.two.bel).mono ?_); rintro e w11 ⟨rfl, hb⟩; have Q11 := Lib.hid (Q10.out.grow hb); clear hb)
      | (go_at_call 10; (with_reducible refine (awake8_any _).mono ?_); rintro e w12 ⟨rfl, hb⟩; have Q12 := Lib.hid (Q11.out.grow hb); clear hb))
    go_ret
    exact ⟨by first | rfl | simp, Q12.out.two.bel⟩
  have HD1 := Lib.hid (copy_pkm (.slice DA data.length dc) (.slice FA fs.length fc) data fs w0 (HDw.out _ H0.out.bel) (HFw.out _ H0.out.bel) HNl.out)
  have HD2 := Lib.hid (copy_pkm (.slice DA' data'.length dc') (.slice FA' fs'.length fc') data' fs' w0 (HDw'.out _ H0.out.bel) (HFw'.out _ H0.out.bel) HNl'.out)
  refine wp_region_held_drew (S := (fun W' => Below w0.heap.size w0 W')) (by kernel_rfl) (Below.refl _ _).drew (fun hHeld => ?_)
  refine wpAnyH_take (i := 0) (oi := { dst := some 19, op := Op.load 25 (Operand.tmp 2), type := 25, pos := "law.go:16", after := #[], guard := none }) (v := .agg #[.slice DA data.length dc, .slice FA fs.length fc]) rfl (by kernel_rfl) (by kernel_rfl) (by kernel_rfl) (fun _ _ _ h => h) (Or.inl ⟨by rfl, ?_⟩) hHeld ?_
  · intro W hS
    obtain ⟨k0, k1, k2, k3⟩ := (H0.out.grow hS).cells
    go_simp
  try simp only [Act.put, List.setIfInBounds_toArray, List.set_cons_zero, List.set_cons_succ]
  refine wpAnyH_take (i := 2) (oi := { dst := some 21, op := Op.load 25 (Operand.tmp 3), type := 25, pos := "law.go:16", after := #[], guard := none }) (v := .agg #[.slice DA' data'.length dc', .slice FA' fs'.length fc']) rfl (by kernel_rfl) (by kernel_rfl) (by kernel_rfl) (fun _ _ _ h => h) (Or.inl ⟨by rfl, ?_⟩) hHeld ?_
  · intro W hS
    obtain ⟨k0, k1, k2, k3⟩ := (H0.out.grow hS).cells
    go_simp
  try simp only [Act.put, List.setIfInBounds_toArray, List.set_cons_zero, List.set_cons_succ]
  have RS := Lib.hid rest
  clear rest
  refine by_fun' (fun G hG => ?_)
  have HG := Lib.hid hG
  clear hG
  have st1345' : ∀ (u0 u1 u12 u13 u14 u15 u16 u17 : Value) (W : World) (L : List Nat) (p9 : Nat) (p10 : Nat) (S1 : Option Addr) (l1 c1 : Nat) (G1 : Option Addr) (m1 d1 : Nat) (S2 : Option Addr) (l2 c2 : Nat) (G2 : Option Addr) (m2 d2 : Nat), PkG 25 #[.slice none 0 0, .slice none 0 0] w0 W L [fun W => MCopy W (.slice S2 l2 c2) (.slice G2 m2 d2) data' fs', fun W => MCopy W (.slice S1 l1 c1) (.slice G1 m1 d1) data fs] → p9 ∈ L → p10 ∈ L → p9 ≠ p10 → G 2 #[true, true, true, true, true, true, false, false] { tmps := #[u0, u1, .pointer (some ⟨w.heap.size, 0, none⟩), .pointer (some ⟨w.heap.size + 1, 0, none⟩), .bool false, .pointer (some ⟨p9, 0, none⟩), .pointer (some ⟨p10, 0, none⟩), undef, undef, undef, undef, undef, u12, u13, u14, u15, u16, u17, undef, .agg #[.slice DA data.length dc, .slice FA fs.length fc], .agg #[.slice S1 l1 c1, .slice G1 m1 d1], .agg #[.slice DA' data'.length dc', .slice FA' fs'.length fc'], .agg #[.slice S2 l2 c2, .slice G2 m2 d2], undef, undef, undef, undef, undef, undef, undef, undef, undef, undef, undef, undef, undef, undef, undef, undef, undef, undef, undef, undef, undef, undef, undef, undef, undef, undef, undef, undef, undef, undef, undef, undef, undef, undef, undef, undef, undef, undef, undef, undef, undef, undef, undef, undef, undef, undef, undef, undef, undef, undef], defers := [] } W := by
    intro u0 u1 u12 u13 u14 u15 u16 u17 W L p9 p10 S1 l1 c1 G1 m1 d1 S2 l2 c2 G2 m2 d2 hp h9 h10 hne
    have m0 := hp.cell (k := 0) h9 rfl
    have m1 := hp.cell (k := 1) h9 rfl
    have mf := hp.free h9
    have mlt := hp.lt h9
    have r0 := hp.cell (k := 0) h10 rfl
    have r1 := hp.cell (k := 1) h10 rfl
    have rf := hp.free h10
    have rlt := hp.lt h10
    have hne' := Ne.symm hne
    have HP := Lib.hid hp
    clear hp
    rw [HG.out]
    refine wpAnyH_ready (rs := [6]) (by kernel_rfl) (by simp) ?_
    refine AllReadyH.cons (o := { dst := none, op := Op.store 25 (Operand.tmp 5) (Operand.tmp 20), type := 0, pos := "law.go:16", after := #[{ on := 4, ground := Ground.data }, { on := 1, ground := Ground.data }, { on := 3, ground := Ground.chain }, { on := 0, ground := Ground.phase }, { on := 1, ground := Ground.phase }, { on := 2, ground := Ground.textOnly Departure.lateStores }, { on := 3, ground := Ground.textOnly Departure.lateStoresUnsure }, { on := 4, ground := Ground.phase }, { on := 5, ground := Ground.phase }], guard := none }) rfl (fun K hK => ?_) AllReadyH.nil
    go_simp
    refine hK.out _ _ ?_ (fun _ => ?_)
    · refine PkG.bel_but HP.out ?_; (repeat' (first | with_reducible exact But.refl _ _ | with_reducible apply But.drew | with_reducible refine But.alloc ?_ _ | with_reducible refine But.setCell ?_ ?_ _ | exact Or.inl ‹_›))
    clear hK K
    try simp only [Act.put, List.setIfInBounds_toArray, List.set_cons_zero, List.set_cons_succ]
    refine wpAnyH_ready (rs := [7]) (by kernel_rfl) (by simp) ?_
    refine AllReadyH.cons (o := { dst := none, op := Op.store 25 (Operand.tmp 6) (Operand.tmp 22), type := 0, pos := "law.go:16", after := #[{ on := 5, ground := Ground.data }, { on := 3, ground := Ground.data }, { on := 6, ground := Ground.chain }, { on := 0, ground := Ground.phase }, { on := 1, ground := Ground.phase }, { on := 2, ground := Ground.phase }, { on := 3, ground := Ground.phase }, { on := 4, ground := Ground.phase }, { on := 5, ground := Ground.phase }, { on := 6, ground := Ground.phase }], guard := none }) rfl (fun K hK => ?_) AllReadyH.nil
    go_simp
    refine hK.out _ _ ?_ (fun _ => ?_)
    · refine PkG.bel_but HP.out ?_; (repeat' (first | with_reducible exact But.refl _ _ | with_reducible apply But.drew | with_reducible refine But.alloc ?_ _ | with_reducible refine But.setCell ?_ ?_ _ | exact Or.inl ‹_›))
    clear hK K
    try simp only [Act.put, List.setIfInBounds_toArray, List.set_cons_zero, List.set_cons_succ]
    refine wpAnyH_done (by kernel_rfl) ?_ _
    refine RS.out _ _ _ _ _ _ _ _ _ _ _ _ _ _ _ _ _ _ _ _ _ _ _ ⟨PkG.bel_but HP.out ?_, PkG.cp_but HP.out ?_ (.tail _ (.head _)), PkG.cp_but HP.out ?_ (.head _), ?_, ?_, ?_, ?_, ?_, ?_, hne⟩
    · (repeat' (first | with_reducible exact But.refl _ _ | with_reducible apply But.drew | with_reducible refine But.alloc ?_ _ | with_reducible refine But.setCell ?_ ?_ _ | exact Or.inl ‹_›))
    · (repeat' (first | with_reducible exact But.refl _ _ | with_reducible apply But.drew | with_reducible refine But.alloc ?_ _ | with_reducible refine But.setCell ?_ ?_ _ | exact Or.inl ‹_›))
    · (repeat' (first | with_reducible exact But.refl _ _ | with_reducible apply But.drew | with_reducible refine But.alloc ?_ _ | with_reducible refine But.setCell ?_ ?_ _ | exact Or.inl ‹_›))
    · first | (go_simp; done) | (go_keep; done)
    · first | (go_simp; done) | (go_keep; done)
    · first | (go_simp; done) | (go_keep; done)
    · first | (go_simp; done) | (go_keep; done)
    · simpa using mlt
    · simpa using rlt
  have st1345 := Lib.hid st1345'
  clear st1345'
  have st145' : ∀ (u0 u1 u12 u13 u14 u15 u16 u17 : Value) (W : World) (L : List Nat) (p9 : Nat) (p10 : Nat) (S1 : Option Addr) (l1 c1 : Nat) (G1 : Option Addr) (m1 d1 : Nat), PkG 25 #[.slice none 0 0, .slice none 0 0] w0 W L [fun W => MCopy W (.slice S1 l1 c1) (.slice G1 m1 d1) data fs] → p9 ∈ L → p10 ∈ L → p9 ≠ p10 → G 3 #[true, true, true, false, true, true, false, false] { tmps := #[u0, u1, .pointer (some ⟨w.heap.size, 0, none⟩), .pointer (some ⟨w.heap.size + 1, 0, none⟩), .bool false, .pointer (some ⟨p9, 0, none⟩), .pointer (some ⟨p10, 0, none⟩), undef, undef, undef, undef, undef, u12, u13, u14, u15, u16, u17, undef, .agg #[.slice DA data.length dc, .slice FA fs.length fc], .agg #[.slice S1 l1 c1, .slice G1 m1 d1], .agg #[.slice DA' data'.length dc', .slice FA' fs'.length fc'], undef, undef, undef, undef, undef, undef, undef, undef, undef, undef, undef, undef, undef, undef, undef, undef, undef, undef, undef, undef, undef, undef, undef, undef, undef, undef, undef, undef, undef, undef, undef, undef, undef, undef, undef, undef, undef, undef, undef, undef, undef, undef, undef, undef, undef, undef, undef, undef, undef, undef, undef], defers := [] } W := by
    intro u0 u1 u12 u13 u14 u15 u16 u17 W L p9 p10 S1 l1 c1 G1 m1 d1 hp h9 h10 hne
    have HP := Lib.hid hp
    clear hp
    rw [HG.out]
    refine wpAnyH_ready (rs := [3]) (by kernel_rfl) (by simp) ?_
    refine AllReadyH.cons (o := { dst := some 22, op := Op.call { callee := Callee.value (Operand.func 11), args := #[Operand.tmp 21], argTypes := #[25] }, type := 25, pos := "law.go:16", after := #[{ on := 2, ground := Ground.data }, { on := 1, ground := Ground.chain }], guard := none }) rfl (fun K hK => ?_) ?_
    · go_wp2_with (go_at_call 11; (with_reducible refine (HD2.out _ _ _ HP.out).mono ?_); rintro e w1 ⟨S2, l2, c2, G2, m2, d2, rfl, qq⟩; have Q1 := Lib.hid qq; clear qq)
      refine hK.out _ _ Q1.out.bel (fun _ => ?_)
      try simp only [Act.put, List.setIfInBounds_toArray, List.set_cons_zero, List.set_cons_succ]
      rw [← HG.out]
      exact st1345.out _ _ _ _ _ _ _ _ _ _ _ _ _ _ _ _ _ _ _ _ _ _ _ _ Q1.out h9 h10 hne
    exact AllReadyH.nil
  have st145 := Lib.hid st145'
  clear st145'
  have st134' : ∀ (u0 u1 u12 u13 u14 u15 u16 u17 : Value) (W : World) (L : List Nat) (p9 : Nat) (S1 : Option Addr) (l1 c1 : Nat) (G1 : Option Addr) (m1 d1 : Nat) (S2 : Option Addr) (l2 c2 : Nat) (G2 : Option Addr) (m2 d2 : Nat), PkG 25 #[.slice none 0 0, .slice none 0 0] w0 W L [fun W => MCopy W (.slice S2 l2 c2) (.slice G2 m2 d2) data' fs', fun W => MCopy W (.slice S1 l1 c1) (.slice G1 m1 d1) data fs] → p9 ∈ L → G 3 #[true, true, true, true, true, false, false, false] { tmps := #[u0, u1, .pointer (some ⟨w.heap.size, 0, none⟩), .pointer (some ⟨w.heap.size + 1, 0, none⟩), .bool false, .pointer (some ⟨p9, 0, none⟩), undef, undef, undef, undef, undef, undef, u12, u13, u14, u15, u16, u17, undef, .agg #[.slice DA data.length dc, .slice FA fs.length fc], .agg #[.slice S1 l1 c1, .slice G1 m1 d1], .agg #[.slice DA' data'.length dc', .slice FA' fs'.length fc'], .agg #[.slice S2 l2 c2, .slice G2 m2 d2], undef, undef, undef, undef, undef, undef, undef, undef, undef, undef, undef, undef, undef, undef, undef, undef, undef, undef, undef, undef, undef, undef, undef, undef, undef, undef, undef, undef, undef, undef, undef, undef, undef, undef, undef, undef, undef, undef, undef, undef, undef, undef, undef, undef, undef, undef, undef, undef, undef, undef], defers := [] } W := by
    intro u0 u1 u12 u13 u14 u15 u16 u17 W L p9 S1 l1 c1 G1 m1 d1 S2 l2 c2 G2 m2 d2 hp h9
    have HP := Lib.hid hp
    clear hp
    rw [HG.out]
    refine wpAnyH_ready (rs := [5]) (by kernel_rfl) (by simp) ?_
    refine AllReadyH.cons (o := { dst := some 6, op := Op.alloc 25, type := 0, pos := "law.go:16", after := #[], guard := none }) rfl (fun K hK => ?_) ?_
    · go_simp
      refine hK.out _ _ HP.out.alloc.bel (fun _ => ?_)
      try simp only [Act.put, List.setIfInBounds_toArray, List.set_cons_zero, List.set_cons_succ]
      rw [← HG.out]
      exact st1345.out _ _ _ _ _ _ _ _ _ _ _ _ _ _ _ _ _ _ _ _ _ _ _ _ HP.out.alloc (List.Mem.tail _ h9) (List.Mem.head _) (Nat.ne_of_lt (HP.out.lt h9))
    exact AllReadyH.nil
  have st134 := Lib.hid st134'
  clear st134'
  have st135' : ∀ (u0 u1 u12 u13 u14 u15 u16 u17 : Value) (W : World) (L : List Nat) (p10 : Nat) (S1 : Option Addr) (l1 c1 : Nat) (G1 : Option Addr) (m1 d1 : Nat) (S2 : Option Addr) (l2 c2 : Nat) (G2 : Option Addr) (m2 d2 : Nat), PkG 25 #[.slice none 0 0, .slice none 0 0] w0 W L [fun W => MCopy W (.slice S2 l2 c2) (.slice G2 m2 d2) data' fs', fun W => MCopy W (.slice S1 l1 c1) (.slice G1 m1 d1) data fs] → p10 ∈ L → G 3 #[true, true, true, true, false, true, false, false] { tmps := #[u0, u1, .pointer (some ⟨w.heap.size, 0, none⟩), .pointer (some ⟨w.heap.size + 1, 0, none⟩), .bool false, undef, .pointer (some ⟨p10, 0, none⟩), undef, undef, undef, undef, undef, u12, u13, u14, u15, u16, u17, undef, .agg #[.slice DA data.length dc, .slice FA fs.length fc], .agg #[.slice S1 l1 c1, .slice G1 m1 d1], .agg #[.slice DA' data'.length dc', .slice FA' fs'.length fc'], .agg #[.slice S2 l2 c2, .slice G2 m2 d2], undef, undef, undef, undef, undef, undef, undef, undef, undef, undef, undef, undef, undef, undef, undef, undef, undef, undef, undef, undef, undef, undef, undef, undef, undef, undef, undef, undef, undef, undef, undef, undef, undef, undef, undef, undef, undef, undef, undef, undef, undef, undef, undef, undef, undef, undef, undef, undef, undef, undef], defers := [] } W := by
    intro u0 u1 u12 u13 u14 u15 u16 u17 W L p10 S1 l1 c1 G1 m1 d1 S2 l2 c2 G2 m2 d2 hp h10
    have HP := Lib.hid hp
    clear hp
    rw [HG.out]
    refine wpAnyH_ready (rs := [4]) (by kernel_rfl) (by simp) ?_
    refine AllReadyH.cons (o := { dst := some 5, op := Op.alloc 25, type := 0, pos := "law.go:16", after := #[], guard := none }) rfl (fun K hK => ?_) ?_
    · go_simp
      refine hK.out _ _ HP.out.alloc.bel (fun _ => ?_)
      try simp only [Act.put, List.setIfInBounds_toArray, List.set_cons_zero, List.set_cons_succ]
      rw [← HG.out]
      exact st1345.out _ _ _ _ _ _ _ _ _ _ _ _ _ _ _ _ _ _ _ _ _ _ _ _ HP.out.alloc (List.Mem.head _) (List.Mem.tail _ h10) (Nat.ne_of_gt (HP.out.lt h10))
    exact AllReadyH.nil
  have st135 := Lib.hid st135'
  clear st135'
  have st13' : ∀ (u0 u1 u12 u13 u14 u15 u16 u17 : Value) (W : World) (L : List Nat) (S1 : Option Addr) (l1 c1 : Nat) (G1 : Option Addr) (m1 d1 : Nat) (S2 : Option Addr) (l2 c2 : Nat) (G2 : Option Addr) (m2 d2 : Nat), PkG 25 #[.slice none 0 0, .slice none 0 0] w0 W L [fun W => MCopy W (.slice S2 l2 c2) (.slice G2 m2 d2) data' fs', fun W => MCopy W (.slice S1 l1 c1) (.slice G1 m1 d1) data fs] → G 4 #[true, true, true, true, false, false, false, false] { tmps := #[u0, u1, .pointer (some ⟨w.heap.size, 0, none⟩), .pointer (some ⟨w.heap.size + 1, 0, none⟩), .bool false, undef, undef, undef, undef, undef, undef, undef, u12, u13, u14, u15, u16, u17, undef, .agg #[.slice DA data.length dc, .slice FA fs.length fc], .agg #[.slice S1 l1 c1, .slice G1 m1 d1], .agg #[.slice DA' data'.length dc', .slice FA' fs'.length fc'], .agg #[.slice S2 l2 c2, .slice G2 m2 d2], undef, undef, undef, undef, undef, undef, undef, undef, undef, undef, undef, undef, undef, undef, undef, undef, undef, undef, undef, undef, undef, undef, undef, undef, undef, undef, undef, undef, undef, undef, undef, undef, undef, undef, undef, undef, undef, undef, undef, undef, undef, undef, undef, undef, undef, undef, undef, undef, undef, undef], defers := [] } W := by
    intro u0 u1 u12 u13 u14 u15 u16 u17 W L S1 l1 c1 G1 m1 d1 S2 l2 c2 G2 m2 d2 hp
    have HP := Lib.hid hp
    clear hp
    rw [HG.out]
    refine wpAnyH_ready (rs := [4, 5]) (by kernel_rfl) (by simp) ?_
    refine AllReadyH.cons (o := { dst := some 5, op := Op.alloc 25, type := 0, pos := "law.go:16", after := #[], guard := none }) rfl (fun K hK => ?_) ?_
    · go_simp
      refine hK.out _ _ HP.out.alloc.bel (fun _ => ?_)
      try simp only [Act.put, List.setIfInBounds_toArray, List.set_cons_zero, List.set_cons_succ]
      rw [← HG.out]
      exact st134.out _ _ _ _ _ _ _ _ _ _ _ _ _ _ _ _ _ _ _ _ _ _ _ HP.out.alloc (List.Mem.head _)
    refine AllReadyH.cons (o := { dst := some 6, op := Op.alloc 25, type := 0, pos := "law.go:16", after := #[], guard := none }) rfl (fun K hK => ?_) ?_
    · go_simp
      refine hK.out _ _ HP.out.alloc.bel (fun _ => ?_)
      try simp only [Act.put, List.setIfInBounds_toArray, List.set_cons_zero, List.set_cons_succ]
      rw [← HG.out]
      exact st135.out _ _ _ _ _ _ _ _ _ _ _ _ _ _ _ _ _ _ _ _ _ _ _ HP.out.alloc (List.Mem.head _)
    exact AllReadyH.nil
  have st13 := Lib.hid st13'
  clear st13'
  have st45' : ∀ (u0 u1 u12 u13 u14 u15 u16 u17 : Value) (W : World) (L : List Nat) (p9 : Nat) (p10 : Nat), PkG 25 #[.slice none 0 0, .slice none 0 0] w0 W L [] → p9 ∈ L → p10 ∈ L → p9 ≠ p10 → G 4 #[true, false, true, false, true, true, false, false] { tmps := #[u0, u1, .pointer (some ⟨w.heap.size, 0, none⟩), .pointer (some ⟨w.heap.size + 1, 0, none⟩), .bool false, .pointer (some ⟨p9, 0, none⟩), .pointer (some ⟨p10, 0, none⟩), undef, undef, undef, undef, undef, u12, u13, u14, u15, u16, u17, undef, .agg #[.slice DA data.length dc, .slice FA fs.length fc], undef, .agg #[.slice DA' data'.length dc', .slice FA' fs'.length fc'], undef, undef, undef, undef, undef, undef, undef, undef, undef, undef, undef, undef, undef, undef, undef, undef, undef, undef, undef, undef, undef, undef, undef, undef, undef, undef, undef, undef, undef, undef, undef, undef, undef, undef, undef, undef, undef, undef, undef, undef, undef, undef, undef, undef, undef, undef, undef, undef, undef, undef, undef], defers := [] } W := by
    intro u0 u1 u12 u13 u14 u15 u16 u17 W L p9 p10 hp h9 h10 hne
    have HP := Lib.hid hp
    clear hp
    rw [HG.out]
    refine wpAnyH_ready (rs := [1]) (by kernel_rfl) (by simp) ?_
    refine AllReadyH.cons (o := { dst := some 20, op := Op.call { callee := Callee.value (Operand.func 11), args := #[Operand.tmp 19], argTypes := #[25] }, type := 25, pos := "law.go:16", after := #[{ on := 0, ground := Ground.data }], guard := none }) rfl (fun K hK => ?_) ?_
    · go_wp2_with (go_at_call 11; (with_reducible refine (HD1.out _ _ _ HP.out).mono ?_); rintro e w1 ⟨S1, l1, c1, G1, m1, d1, rfl, qq⟩; have Q1 := Lib.hid qq; clear qq)
      refine hK.out _ _ Q1.out.bel (fun _ => ?_)
      try simp only [Act.put, List.setIfInBounds_toArray, List.set_cons_zero, List.set_cons_succ]
      rw [← HG.out]
      exact st145.out _ _ _ _ _ _ _ _ _ _ _ _ _ _ _ _ _ _ Q1.out h9 h10 hne
    exact AllReadyH.nil
  have st45 := Lib.hid st45'
  clear st45'
  have st14' : ∀ (u0 u1 u12 u13 u14 u15 u16 u17 : Value) (W : World) (L : List Nat) (p9 : Nat) (S1 : Option Addr) (l1 c1 : Nat) (G1 : Option Addr) (m1 d1 : Nat), PkG 25 #[.slice none 0 0, .slice none 0 0] w0 W L [fun W => MCopy W (.slice S1 l1 c1) (.slice G1 m1 d1) data fs] → p9 ∈ L → G 4 #[true, true, true, false, true, false, false, false] { tmps := #[u0, u1, .pointer (some ⟨w.heap.size, 0, none⟩), .pointer (some ⟨w.heap.size + 1, 0, none⟩), .bool false, .pointer (some ⟨p9, 0, none⟩), undef, undef, undef, undef, undef, undef, u12, u13, u14, u15, u16, u17, undef, .agg #[.slice DA data.length dc, .slice FA fs.length fc], .agg #[.slice S1 l1 c1, .slice G1 m1 d1], .agg #[.slice DA' data'.length dc', .slice FA' fs'.length fc'], undef, undef, undef, undef, undef, undef, undef, undef, undef, undef, undef, undef, undef, undef, undef, undef, undef, undef, undef, undef, undef, undef, undef, undef, undef, undef, undef, undef, undef, undef, undef, undef, undef, undef, undef, undef, undef, undef, undef, undef, undef, undef, undef, undef, undef, undef, undef, undef, undef, undef, undef], defers := [] } W := by
    intro u0 u1 u12 u13 u14 u15 u16 u17 W L p9 S1 l1 c1 G1 m1 d1 hp h9
    have HP := Lib.hid hp
    clear hp
    rw [HG.out]
    refine wpAnyH_ready (rs := [3, 5]) (by kernel_rfl) (by simp) ?_
    refine AllReadyH.cons (o := { dst := some 22, op := Op.call { callee := Callee.value (Operand.func 11), args := #[Operand.tmp 21], argTypes := #[25] }, type := 25, pos := "law.go:16", after := #[{ on := 2, ground := Ground.data }, { on := 1, ground := Ground.chain }], guard := none }) rfl (fun K hK => ?_) ?_
    · go_wp2_with (go_at_call 11; (with_reducible refine (HD2.out _ _ _ HP.out).mono ?_); rintro e w1 ⟨S2, l2, c2, G2, m2, d2, rfl, qq⟩; have Q1 := Lib.hid qq; clear qq)
      refine hK.out _ _ Q1.out.bel (fun _ => ?_)
      try simp only [Act.put, List.setIfInBounds_toArray, List.set_cons_zero, List.set_cons_succ]
      rw [← HG.out]
      exact st134.out _ _ _ _ _ _ _ _ _ _ _ _ _ _ _ _ _ _ _ _ _ _ _ Q1.out h9
    refine AllReadyH.cons (o := { dst := some 6, op := Op.alloc 25, type := 0, pos := "law.go:16", after := #[], guard := none }) rfl (fun K hK => ?_) ?_
    · go_simp
      refine hK.out _ _ HP.out.alloc.bel (fun _ => ?_)
      try simp only [Act.put, List.setIfInBounds_toArray, List.set_cons_zero, List.set_cons_succ]
      rw [← HG.out]
      exact st145.out _ _ _ _ _ _ _ _ _ _ _ _ _ _ _ _ _ _ HP.out.alloc (List.Mem.tail _ h9) (List.Mem.head _) (Nat.ne_of_lt (HP.out.lt h9))
    exact AllReadyH.nil
  have st14 := Lib.hid st14'
  clear st14'
  have st15' : ∀ (u0 u1 u12 u13 u14 u15 u16 u17 : Value) (W : World) (L : List Nat) (p10 : Nat) (S1 : Option Addr) (l1 c1 : Nat) (G1 : Option Addr) (m1 d1 : Nat), PkG 25 #[.slice none 0 0, .slice none 0 0] w0 W L [fun W => MCopy W (.slice S1 l1 c1) (.slice G1 m1 d1) data fs] → p10 ∈ L → G 4 #[true, true, true, false, false, true, false, false] { tmps := #[u0, u1, .pointer (some ⟨w.heap.size, 0, none⟩), .pointer (some ⟨w.heap.size + 1, 0, none⟩), .bool false, undef, .pointer (some ⟨p10, 0, none⟩), undef, undef, undef, undef, undef, u12, u13, u14, u15, u16, u17, undef, .agg #[.slice DA data.length dc, .slice FA fs.length fc], .agg #[.slice S1 l1 c1, .slice G1 m1 d1], .agg #[.slice DA' data'.length dc', .slice FA' fs'.length fc'], undef, undef, undef, undef, undef, undef, undef, undef, undef, undef, undef, undef, undef, undef, undef, undef, undef, undef, undef, undef, undef, undef, undef, undef, undef, undef, undef, undef, undef, undef, undef, undef, undef, undef, undef, undef, undef, undef, undef, undef, undef, undef, undef, undef, undef, undef, undef, undef, undef, undef, undef], defers := [] } W := by
    intro u0 u1 u12 u13 u14 u15 u16 u17 W L p10 S1 l1 c1 G1 m1 d1 hp h10
    have HP := Lib.hid hp
    clear hp
    rw [HG.out]
    refine wpAnyH_ready (rs := [3, 4]) (by kernel_rfl) (by simp) ?_
    refine AllReadyH.cons (o := { dst := some 22, op := Op.call { callee := Callee.value (Operand.func 11), args := #[Operand.tmp 21], argTypes := #[25] }, type := 25, pos := "law.go:16", after := #[{ on := 2, ground := Ground.data }, { on := 1, ground := Ground.chain }], guard := none }) rfl (fun K hK => ?_) ?_
    · go_wp2_with (go_at_call 11; (with_reducible refine (HD2.out _ _ _ HP.out).mono ?_); rintro e w1 ⟨S2, l2, c2, G2, m2, d2, rfl, qq⟩; have Q1 := Lib.hid qq; clear qq)
      refine hK.out _ _ Q1.out.bel (fun _ => ?_)
      try simp only [Act.put, List.setIfInBounds_toArray, List.set_cons_zero, List.set_cons_succ]
      rw [← HG.out]
      exact st135.out _ _ _ _ _ _ _ _ _ _ _ _ _ _ _ _ _ _ _ _ _ _ _ Q1.out h10
    refine AllReadyH.cons (o := { dst := some 5, op := Op.alloc 25, type := 0, pos := "law.go:16", after := #[], guard := none }) rfl (fun K hK => ?_) ?_
    · go_simp
      refine hK.out _ _ HP.out.alloc.bel (fun _ => ?_)
      try simp only [Act.put, List.setIfInBounds_toArray, List.set_cons_zero, List.set_cons_succ]
      rw [← HG.out]
      exact st145.out _ _ _ _ _ _ _ _ _ _ _ _ _ _ _ _ _ _ HP.out.alloc (List.Mem.head _) (List.Mem.tail _ h10) (Nat.ne_of_gt (HP.out.lt h10))
    exact AllReadyH.nil
  have st15 := Lib.hid st15'
  clear st15'
  have st1' : ∀ (u0 u1 u12 u13 u14 u15 u16 u17 : Value) (W : World) (L : List Nat) (S1 : Option Addr) (l1 c1 : Nat) (G1 : Option Addr) (m1 d1 : Nat), PkG 25 #[.slice none 0 0, .slice none 0 0] w0 W L [fun W => MCopy W (.slice S1 l1 c1) (.slice G1 m1 d1) data fs] → G 5 #[true, true, true, false, false, false, false, false] { tmps := #[u0, u1, .pointer (some ⟨w.heap.size, 0, none⟩), .pointer (some ⟨w.heap.size + 1, 0, none⟩), .bool false, undef, undef, undef, undef, undef, undef, undef, u12, u13, u14, u15, u16, u17, undef, .agg #[.slice DA data.length dc, .slice FA fs.length fc], .agg #[.slice S1 l1 c1, .slice G1 m1 d1], .agg #[.slice DA' data'.length dc', .slice FA' fs'.length fc'], undef, undef, undef, undef, undef, undef, undef, undef, undef, undef, undef, undef, undef, undef, undef, undef, undef, undef, undef, undef, undef, undef, undef, undef, undef, undef, undef, undef, undef, undef, undef, undef, undef, undef, undef, undef, undef, undef, undef, undef, undef, undef, undef, undef, undef, undef, undef, undef, undef, undef, undef], defers := [] } W := by
    intro u0 u1 u12 u13 u14 u15 u16 u17 W L S1 l1 c1 G1 m1 d1 hp
    have HP := Lib.hid hp
    clear hp
    rw [HG.out]
    refine wpAnyH_ready (rs := [3, 4, 5]) (by kernel_rfl) (by simp) ?_
    refine AllReadyH.cons (o := { dst := some 22, op := Op.call { callee := Callee.value (Operand.func 11), args := #[Operand.tmp 21], argTypes := #[25] }, type := 25, pos := "law.go:16", after := #[{ on := 2, ground := Ground.data }, { on := 1, ground := Ground.chain }], guard := none }) rfl (fun K hK => ?_) ?_
    · go_wp2_with (go_at_call 11; (with_reducible refine (HD2.out _ _ _ HP.out).mono ?_); rintro e w1 ⟨S2, l2, c2, G2, m2, d2, rfl, qq⟩; have Q1 := Lib.hid qq; clear qq)
      refine hK.out _ _ Q1.out.bel (fun _ => ?_)
      try simp only [Act.put, List.setIfInBounds_toArray, List.set_cons_zero, List.set_cons_succ]
      rw [← HG.out]
      exact st13.out _ _ _ _ _ _ _ _ _ _ _ _ _ _ _ _ _ _ _ _ _ _ Q1.out
    refine AllReadyH.cons (o := { dst := some 5, op := Op.alloc 25, type := 0, pos := "law.go:16", after := #[], guard := none }) rfl (fun K hK => ?_) ?_
    · go_simp
      refine hK.out _ _ HP.out.alloc.bel (fun _ => ?_)
      try simp only [Act.put, List.setIfInBounds_toArray, List.set_cons_zero, List.set_cons_succ]
      rw [← HG.out]
      exact st14.out _ _ _ _ _ _ _ _ _ _ _ _ _ _ _ _ _ HP.out.alloc (List.Mem.head _)
    refine AllReadyH.cons (o := { dst := some 6, op := Op.alloc 25, type := 0, pos := "law.go:16", after := #[], guard := none }) rfl (fun K hK => ?_) ?_
    · go_simp
      refine hK.out _ _ HP.out.alloc.bel (fun _ => ?_)
      try simp only [Act.put, List.setIfInBounds_toArray, List.set_cons_zero, List.set_cons_succ]
      rw [← HG.out]
      exact st15.out _ _ _ _ _ _ _ _ _ _ _ _ _ _ _ _ _ HP.out.alloc (List.Mem.head _)
    exact AllReadyH.nil
  have st1 := Lib.hid st1'
  clear st1'
  have st4' : ∀ (u0 u1 u12 u13 u14 u15 u16 u17 : Value) (W : World) (L : List Nat) (p9 : Nat), PkG 25 #[.slice none 0 0, .slice none 0 0] w0 W L [] → p9 ∈ L → G 5 #[true, false, true, false, true, false, false, false] { tmps := #[u0, u1, .pointer (some ⟨w.heap.size, 0, none⟩), .pointer (some ⟨w.heap.size + 1, 0, none⟩), .bool false, .pointer (some ⟨p9, 0, none⟩), undef, undef, undef, undef, undef, undef, u12, u13, u14, u15, u16, u17, undef, .agg #[.slice DA data.length dc, .slice FA fs.length fc], undef, .agg #[.slice DA' data'.length dc', .slice FA' fs'.length fc'], undef, undef, undef, undef, undef, undef, undef, undef, undef, undef, undef, undef, undef, undef, undef, undef, undef, undef, undef, undef, undef, undef, undef, undef, undef, undef, undef, undef, undef, undef, undef, undef, undef, undef, undef, undef, undef, undef, undef, undef, undef, undef, undef, undef, undef, undef, undef, undef, undef, undef, undef], defers := [] } W := by
    intro u0 u1 u12 u13 u14 u15 u16 u17 W L p9 hp h9
    have HP := Lib.hid hp
    clear hp
    rw [HG.out]
    refine wpAnyH_ready (rs := [1, 5]) (by kernel_rfl) (by simp) ?_
    refine AllReadyH.cons (o := { dst := some 20, op := Op.call { callee := Callee.value (Operand.func 11), args := #[Operand.tmp 19], argTypes := #[25] }, type := 25, pos := "law.go:16", after := #[{ on := 0, ground := Ground.data }], guard := none }) rfl (fun K hK => ?_) ?_
    · go_wp2_with (go_at_call 11; (with_reducible refine (HD1.out _ _ _ HP.out).mono ?_); rintro e w1 ⟨S1, l1, c1, G1, m1, d1, rfl, qq⟩; have Q1 := Lib.hid qq; clear qq)
      refine hK.out _ _ Q1.out.bel (fun _ => ?_)
      try simp only [Act.put, List.setIfInBounds_toArray, List.set_cons_zero, List.set_cons_succ]
      rw [← HG.out]
      exact st14.out _ _ _ _ _ _ _ _ _ _ _ _ _ _ _ _ _ Q1.out h9
    refine AllReadyH.cons (o := { dst := some 6, op := Op.alloc 25, type := 0, pos := "law.go:16", after := #[], guard := none }) rfl (fun K hK => ?_) ?_
    · go_simp
      refine hK.out _ _ HP.out.alloc.bel (fun _ => ?_)
      try simp only [Act.put, List.setIfInBounds_toArray, List.set_cons_zero, List.set_cons_succ]
      rw [← HG.out]
      exact st45.out _ _ _ _ _ _ _ _ _ _ _ _ HP.out.alloc (List.Mem.tail _ h9) (List.Mem.head _) (Nat.ne_of_lt (HP.out.lt h9))
    exact AllReadyH.nil
  have st4 := Lib.hid st4'
  clear st4'
  have st5' : ∀ (u0 u1 u12 u13 u14 u15 u16 u17 : Value) (W : World) (L : List Nat) (p10 : Nat), PkG 25 #[.slice none 0 0, .slice none 0 0] w0 W L [] → p10 ∈ L → G 5 #[true, false, true, false, false, true, false, false] { tmps := #[u0, u1, .pointer (some ⟨w.heap.size, 0, none⟩), .pointer (some ⟨w.heap.size + 1, 0, none⟩), .bool false, undef, .pointer (some ⟨p10, 0, none⟩), undef, undef, undef, undef, undef, u12, u13, u14, u15, u16, u17, undef, .agg #[.slice DA data.length dc, .slice FA fs.length fc], undef, .agg #[.slice DA' data'.length dc', .slice FA' fs'.length fc'], undef, undef, undef, undef, undef, undef, undef, undef, undef, undef, undef, undef, undef, undef, undef, undef, undef, undef, undef, undef, undef, undef, undef, undef, undef, undef, undef, undef, undef, undef, undef, undef, undef, undef, undef, undef, undef, undef, undef, undef, undef, undef, undef, undef, undef, undef, undef, undef, undef, undef, undef], defers := [] } W := by
    intro u0 u1 u12 u13 u14 u15 u16 u17 W L p10 hp h10
    have HP := Lib.hid hp
    clear hp
    rw [HG.out]
    refine wpAnyH_ready (rs := [1, 4]) (by kernel_rfl) (by simp) ?_
    refine AllReadyH.cons (o := { dst := some 20, op := Op.call { callee := Callee.value (Operand.func 11), args := #[Operand.tmp 19], argTypes := #[25] }, type := 25, pos := "law.go:16", after := #[{ on := 0, ground := Ground.data }], guard := none }) rfl (fun K hK => ?_) ?_
    · go_wp2_with (go_at_call 11; (with_reducible refine (HD1.out _ _ _ HP.out).mono ?_); rintro e w1 ⟨S1, l1, c1, G1, m1, d1, rfl, qq⟩; have Q1 := Lib.hid qq; clear qq)
      refine hK.out _ _ Q1.out.bel (fun _ => ?_)
      try simp only [Act.put, List.setIfInBounds_toArray, List.set_cons_zero, List.set_cons_succ]
      rw [← HG.out]
      exact st15.out _ _ _ _ _ _ _ _ _ _ _ _ _ _ _ _ _ Q1.out h10
    refine AllReadyH.cons (o := { dst := some 5, op := Op.alloc 25, type := 0, pos := "law.go:16", after := #[], guard := none }) rfl (fun K hK => ?_) ?_
    · go_simp
      refine hK.out _ _ HP.out.alloc.bel (fun _ => ?_)
      try simp only [Act.put, List.setIfInBounds_toArray, List.set_cons_zero, List.set_cons_succ]
      rw [← HG.out]
      exact st45.out _ _ _ _ _ _ _ _ _ _ _ _ HP.out.alloc (List.Mem.head _) (List.Mem.tail _ h10) (Nat.ne_of_gt (HP.out.lt h10))
    exact AllReadyH.nil
  have st5 := Lib.hid st5'
  clear st5'
  have st' : ∀ (u0 u1 u12 u13 u14 u15 u16 u17 : Value) (W : World) (L : List Nat), PkG 25 #[.slice none 0 0, .slice none 0 0] w0 W L [] → G 6 #[true, false, true, false, false, false, false, false] { tmps := #[u0, u1, .pointer (some ⟨w.heap.size, 0, none⟩), .pointer (some ⟨w.heap.size + 1, 0, none⟩), .bool false, undef, undef, undef, undef, undef, undef, undef, u12, u13, u14, u15, u16, u17, undef, .agg #[.slice DA data.length dc, .slice FA fs.length fc], undef, .agg #[.slice DA' data'.length dc', .slice FA' fs'.length fc'], undef, undef, undef, undef, undef, undef, undef, undef, undef, undef, undef, undef, undef, undef, undef, undef, undef, undef, undef, undef, undef, undef, undef, undef, undef, undef, undef, undef, undef, undef, undef, undef, undef, undef, undef, undef, undef, undef, undef, undef, undef, undef, undef, undef, undef, undef, undef, undef, undef, undef, undef], defers := [] } W := by
    intro u0 u1 u12 u13 u14 u15 u16 u17 W L hp
    have HP := Lib.hid hp
    clear hp
    rw [HG.out]
    refine wpAnyH_ready (rs := [1, 4, 5]) (by kernel_rfl) (by simp) ?_
    refine AllReadyH.cons (o := { dst := some 20, op := Op.call { callee := Callee.value (Operand.func 11), args := #[Operand.tmp 19], argTypes := #[25] }, type := 25, pos := "law.go:16", after := #[{ on := 0, ground := Ground.data }], guard := none }) rfl (fun K hK => ?_) ?_
    · go_wp2_with (go_at_call 11; (with_reducible refine (HD1.out _ _ _ HP.out).mono ?_); rintro e w1 ⟨S1, l1, c1, G1, m1, d1, rfl, qq⟩; have Q1 := Lib.hid qq; clear qq)
      refine hK.out _ _ Q1.out.bel (fun _ => ?_)
      try simp only [Act.put, List.setIfInBounds_toArray, List.set_cons_zero, List.set_cons_succ]
      rw [← HG.out]
      exact st1.out _ _ _ _ _ _ _ _ _ _ _ _ _ _ _ _ Q1.out
    refine AllReadyH.cons (o := { dst := some 5, op := Op.alloc 25, type := 0, pos := "law.go:16", after := #[], guard := none }) rfl (fun K hK => ?_) ?_
    · go_simp
      refine hK.out _ _ HP.out.alloc.bel (fun _ => ?_)
      try simp only [Act.put, List.setIfInBounds_toArray, List.set_cons_zero, List.set_cons_succ]
      rw [← HG.out]
      exact st4.out _ _ _ _ _ _ _ _ _ _ _ HP.out.alloc (List.Mem.head _)
    refine AllReadyH.cons (o := { dst := some 6, op := Op.alloc 25, type := 0, pos := "law.go:16", after := #[], guard := none }) rfl (fun K hK => ?_) ?_
    · go_simp
      refine hK.out _ _ HP.out.alloc.bel (fun _ => ?_)
      try simp only [Act.put, List.setIfInBounds_toArray, List.set_cons_zero, List.set_cons_succ]
      rw [← HG.out]
      exact st5.out _ _ _ _ _ _ _ _ _ _ _ HP.out.alloc (List.Mem.head _)
    exact AllReadyH.nil
  have st := Lib.hid st'
  clear st'
  exact st.out _ _ _ _ _ _ _ _ _ _ (PkG.start _ _ _).drew
end Go.Proofs.Ytimhlbejjbnofaa
