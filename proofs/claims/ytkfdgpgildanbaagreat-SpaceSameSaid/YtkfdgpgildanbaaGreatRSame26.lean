import Derived.Test.YtkfdgpgildanbaaGreatSame15G
import Derived.Test.YtkfdgpgildanbaaGreatRReg26
import Derived.Test.YtkfdgpgildanbaaGreatRef08S
import Derived.Test.YtkfdgpgildanbaaGreatRDeed14S
namespace Go.Proofs.YtkfdgpgildanbaaGreat
open Go.RowKit Go.Shelf
set_option linter.unusedVariables false
set_option linter.unusedSimpArgs false
theorem RefAt.whole15 {w : World} {mb bb c : Nat} {xs : List Int} (h : RefAt w mb bb c xs) : IsBytes w w.heap.size (.slice (some ⟨bb, 0, none⟩) xs.length c) xs := by
  have hl := h.hi
  have hB := h.row.bytes h.bd h.row.lt (a := 0) (n := xs.length) (by omega) h.rowcap (by unfold maxLen; omega)
  rw [List.drop_zero, List.take_length] at hB
  exact hB
set_option maxRecDepth 100000 in
set_option maxHeartbeats 4000000 in
theorem rmsame15 {ma ba ca mb bb cb : Nat} {xs ys : List Int} {w : World} (h : RefAt w ma ba ca xs) (k : RefAt w mb bb cb ys) :
    Calls Tryz.prog 99 #[.pointer (some ⟨ma, 0, none⟩), .pointer (some ⟨mb, 0, none⟩)] w (Drew w (.bool (xs == ys))) := by
  have h1 := h.cell0
  have k1 := k.cell0
  have cx := fun n => conv_bytes (P := Tryz.prog) (h.drewN n).whole15 Tryz.underlying22 Tryz.underlying5 Tryz.underlying9
  have cy := fun n => conv_bytes (P := Tryz.prog) (k.drewN n).whole15 Tryz.underlying22 Tryz.underlying5 Tryz.underlying9
  have E := Lib.hid (beq_strOfNums h.bd k.bd)
  clear h k
  go_enter Tryz.func99, Tryz.ntmps99
  go_wp2
  go_quiet (fail)
  go_wp2
  go_ret
  exact ⟨ret_bool E.out, _, rfl⟩
theorem eqLkR (w : World) (a b : Int × Int × Int × Int) : (binOp .neq 149 (.agg #[.int .i64 a.1, .int .u64 a.2.1, .int .i64 a.2.2.1, .int .i64 a.2.2.2]) (.agg #[.int .i64 b.1, .int .u64 b.2.1, .int .i64 b.2.2.1, .int .i64 b.2.2.2])).run Tryz.prog w = .ok (.bool (decide (a ≠ b))) w := by
  obtain ⟨a0, a1, a2, a3⟩ := a
  obtain ⟨b0, b1, b2, b3⟩ := b
  simp only
  by_cases h0 : a0 = b0
  · by_cases h1 : a1 = b1
    · by_cases h2 : a2 = b2
      · by_cases h3 : a3 = b3
        · subst h0 h1 h2 h3
          have : decide ((a0, a1, a2, a3) ≠ (a0, a1, a2, a3)) = false := by simp
          rw [this]
          go_simp
        · have : decide ((a0, a1, a2, a3) ≠ (b0, b1, b2, b3)) = true := by simp [h3]
          rw [this]
          have g : (a3 == b3) = false := by simpa using h3
          subst h0 h1 h2
          go_simp
      · have : decide ((a0, a1, a2, a3) ≠ (b0, b1, b2, b3)) = true := by simp [h2]
        rw [this]
        have g : (a2 == b2) = false := by simpa using h2
        subst h0 h1
        go_simp
    · have : decide ((a0, a1, a2, a3) ≠ (b0, b1, b2, b3)) = true := by simp [h1]
      rw [this]
      have g : (a1 == b1) = false := by simpa using h1
      subst h0
      go_simp
  · have : decide ((a0, a1, a2, a3) ≠ (b0, b1, b2, b3)) = true := by simp [h0]
    rw [this]
    have g : (a0 == b0) = false := by simpa using h0
    go_simp
theorem rlink_at15 {w : World} {LA : Option Addr} {ln lc : Nat} {L : List LinkV} {b : Nat} {e : TypeId} {K : Value → Prop} (h : Owns w b e 4 K (.slice LA ln lc) L.length (cellsL .u64 L)) {i : Nat} (hi : i < L.length) :
    ∃ g off, LA = some ⟨g, off, none⟩ ∧ ln ≤ lc ∧ ∀ W, Below w.heap.size w W → W.cell? ⟨g, off + i * 4, none⟩ = some (.int .i64 ((lkT L).getD i (0, 0, 0, 0)).1) ∧ W.cell? ⟨g, off + i * 4 + 1, none⟩ = some (.int .u64 ((lkT L).getD i (0, 0, 0, 0)).2.1) ∧ W.cell? ⟨g, off + i * 4 + 2, none⟩ = some (.int .i64 ((lkT L).getD i (0, 0, 0, 0)).2.2.1) ∧ W.cell? ⟨g, off + i * 4 + 3, none⟩ = some (.int .i64 ((lkT L).getD i (0, 0, 0, 0)).2.2.2) := by
  rcases (RowIn.of_owns h).2 with ⟨h0, _⟩ | ⟨g, off, cap, h1, h2, h3, h4⟩
  · omega
  · injection h1 with h1 h5 h6
    subst h1 h6
    obtain ⟨e1, e2, e3, e4⟩ := cellsL_at .u64 L i hi
    refine ⟨g, off, rfl, by omega, fun W hb => ?_⟩
    have hc : ∀ j u, (cellsL .u64 L)[j]? = some u → W.cell? ⟨g, off + j, none⟩ = some u := fun j u hj => (hb.cell (p := ⟨g, off + j, none⟩) h3).trans (h4 j u hj)
    exact ⟨hc _ _ e1, hc _ _ e2, hc _ _ e3, hc _ _ e4⟩
set_option maxRecDepth 100000 in
set_option maxHeartbeats 16000000 in
theorem rsame15 {B : Nat} {W : World} {rb qb : Nat} {p q : Loc} {S T : SpV} (h : RsAt B W rb p S) (g : RsAt B W qb q T) (hB : B ≤ W.heap.size) :
    Calls Tryz.prog 26 #[.pointer (some ⟨rb, 0, none⟩), .pointer (some ⟨qb, 0, none⟩)] W (Makes W (.bool (sameSp S T))) := by
  obtain ⟨DA1, dc1, hD1⟩ := h.dat.len
  obtain ⟨LA1, lc1, hL1⟩ := owns_len14 h.links
  obtain ⟨FA1, fc1, hF1⟩ := h.funs.len
  obtain ⟨XA1, xc1, hX1⟩ := h.tape.own.len
  obtain ⟨DA2, dc2, hD2⟩ := g.dat.len
  obtain ⟨LA2, lc2, hL2⟩ := owns_len14 g.links
  obtain ⟨FA2, fc2, hF2⟩ := g.funs.len
  obtain ⟨XA2, xc2, hX2⟩ := g.tape.own.len
  obtain ⟨ln1, hln1⟩ : ∃ n, n = S.links.length := ⟨_, rfl⟩
  obtain ⟨ln2, hln2⟩ : ∃ n, n = T.links.length := ⟨_, rfl⟩
  obtain ⟨dn1, hdn1⟩ : ∃ n, n = S.m.data.length := ⟨_, rfl⟩
  obtain ⟨dn2, hdn2⟩ : ∃ n, n = T.m.data.length := ⟨_, rfl⟩
  obtain ⟨fn1, hfn1⟩ : ∃ n, n = S.m.funcs.length := ⟨_, rfl⟩
  obtain ⟨fn2, hfn2⟩ : ∃ n, n = T.m.funcs.length := ⟨_, rfl⟩
  obtain ⟨xn1, hxn1⟩ : ∃ n, n = S.inp.length := ⟨_, rfl⟩
  obtain ⟨xn2, hxn2⟩ : ∃ n, n = T.inp.length := ⟨_, rfl⟩
  rw [← hln1] at hL1
  rw [← hln2] at hL2
  rw [← hdn1] at hD1
  rw [← hdn2] at hD2
  rw [← hfn1] at hF1
  rw [← hfn2] at hF2
  rw [← hxn1] at hX1
  rw [← hxn2] at hX2
  have HS := Lib.hid (fun (W' : World) (hb : Below W.heap.size W W') => h.grow hB hb)
  have HT := Lib.hid (fun (W' : World) (hb : Below W.heap.size W W') => g.grow hB hb)
  have HG : Hid (∀ W', Below W.heap.size W W' → W'.cell? ⟨rb, 0, none⟩ = some (.slice DA1 dn1 dc1) ∧ W'.cell? ⟨rb, 1, none⟩ = some (.slice FA1 fn1 fc1) ∧ W'.cell? ⟨rb, 2, none⟩ = some (.pointer (some ⟨p.mb, 0, none⟩)) ∧ W'.cell? ⟨rb, 3, none⟩ = some (.pointer (some ⟨p.tb, 0, none⟩)) ∧ W'.cell? ⟨rb, 8, none⟩ = some (.slice LA1 ln1 lc1) ∧ W'.cell? ⟨p.tb, 0, none⟩ = some (.slice XA1 xn1 xc1) ∧ W'.cell? ⟨p.tb, 1, none⟩ = some (.int .i64 p.k) ∧ W'.cell? ⟨qb, 0, none⟩ = some (.slice DA2 dn2 dc2) ∧ W'.cell? ⟨qb, 1, none⟩ = some (.slice FA2 fn2 fc2) ∧ W'.cell? ⟨qb, 2, none⟩ = some (.pointer (some ⟨q.mb, 0, none⟩)) ∧ W'.cell? ⟨qb, 3, none⟩ = some (.pointer (some ⟨q.tb, 0, none⟩)) ∧ W'.cell? ⟨qb, 8, none⟩ = some (.slice LA2 ln2 lc2) ∧ W'.cell? ⟨q.tb, 0, none⟩ = some (.slice XA2 xn2 xc2) ∧ W'.cell? ⟨q.tb, 1, none⟩ = some (.int .i64 q.k)) := Lib.hid (fun W' hb => by
    obtain ⟨⟨d0, d1, d2, d3, d4, d5⟩, d6, d7, d8, d9, d10⟩ := (HS.out W' hb).cells
    obtain ⟨⟨e0, e1, e2, e3, e4, e5⟩, e6, e7, e8, e9, e10⟩ := (HT.out W' hb).cells
    obtain ⟨t0, t1, t2⟩ := cells3_14 (HS.out W' hb).tape.box
    obtain ⟨u0, u1, u2⟩ := cells3_14 (HT.out W' hb).tape.box
    rw [hD1] at d0
    rw [hF1] at d1
    rw [hL1] at d8
    rw [hX1] at t0
    rw [hD2] at e0
    rw [hF2] at e1
    rw [hL2] at e8
    rw [hX2] at u0
    exact ⟨d0, d1, d2, d3, d8, t0, t1, e0, e1, e2, e3, e8, u0, u1⟩)
  obtain ⟨R1, hs1, hR1, ra1, rc1, hRe1⟩ := slice_rest15 h.tape.own p.k h.tape.le
  rw [h.left] at hR1
  obtain ⟨R2, hs2, hR2, ra2, rc2, hRe2⟩ := slice_rest15 g.tape.own q.k g.tape.le
  rw [g.left] at hR2
  rw [hX1] at hs1
  rw [hX2] at hs2
  have HGS : Hid (∀ W', Below W.heap.size W W' → SR26 rb qb p q DA1 FA1 DA2 FA2 LA1 LA2 XA1 XA2 dn1 dc1 fn1 fc1 dn2 dc2 fn2 fc2 ln1 lc1 ln2 lc2 xn1 xc1 xn2 xc2 R1 R2 S.left T.left W') := Lib.hid (fun W' hb => by
    obtain ⟨z0, z1, z2, z3, z4, z5, z6, z7, z8, z9, z10, z11, z12, z13⟩ := HG.out W' hb
    exact ⟨z0, z1, z2, z3, z4, z5, z6, z7, z8, z9, z10, z11, z12, z13, conv_bytes (P := Tryz.prog) (hR1.grow hb) Tryz.underlying22 Tryz.underlying5 Tryz.underlying9, conv_bytes (P := Tryz.prog) (hR2.grow hb) Tryz.underlying22 Tryz.underlying5 Tryz.underlying9⟩)
  have HL1 := Lib.hid (show Owns W 0 149 4 AnyCell (.slice LA1 ln1 lc1) S.links.length (cellsL .u64 S.links) by rw [← hL1]; exact h.links)
  have HL2 := Lib.hid (show Owns W 0 149 4 AnyCell (.slice LA2 ln2 lc2) T.links.length (cellsL .u64 T.links) by rw [← hL2]; exact g.links)
  have HLN := Lib.hid (And.intro hln1 hln2)
  have hdeep := h.ok.deep
  rw [← hln1] at hdeep
  have HNU : Hid (∀ W', Below W.heap.size W W' → W'.cell? ⟨rb, 4, none⟩ = some (.int .i64 S.fuel) ∧ W'.cell? ⟨rb, 5, none⟩ = some (.int .i64 S.f) ∧ W'.cell? ⟨rb, 6, none⟩ = some (.int .u64 S.at_) ∧ W'.cell? ⟨rb, 7, none⟩ = some (.int .i64 S.pc) ∧ W'.cell? ⟨qb, 4, none⟩ = some (.int .i64 T.fuel) ∧ W'.cell? ⟨qb, 5, none⟩ = some (.int .i64 T.f) ∧ W'.cell? ⟨qb, 6, none⟩ = some (.int .u64 T.at_) ∧ W'.cell? ⟨qb, 7, none⟩ = some (.int .i64 T.pc)) := Lib.hid (fun W' hb => by
    obtain ⟨⟨d0, d1, d2, d3, d4, d5⟩, d6, d7, d8, d9, d10⟩ := (HS.out W' hb).cells
    obtain ⟨⟨e0, e1, e2, e3, e4, e5⟩, e6, e7, e8, e9, e10⟩ := (HT.out W' hb).cells
    exact ⟨d4, d5, d6, d7, e4, e5, e6, e7⟩)
  have HM8 : Hid (∀ W', Below W.heap.size W W' → Calls Tryz.prog 98 #[.agg #[.slice DA1 dn1 dc1, .slice FA1 fn1 fc1], .agg #[.slice DA2 dn2 dc2, .slice FA2 fn2 fc2]] W' (Makes W' (.bool (sameM S.m T.m)))) := Lib.hid (fun W' hb => by
    have hz := rsame8_any p.D p.FV q.D q.FV S.m.data T.m.data S.m.funcs T.m.funcs W' ((HS.out W' hb).dat.more (Nat.le_trans hB hb.size)) ((HS.out W' hb).funs.more (Nat.le_trans hB hb.size)) ((HT.out W' hb).dat.more (Nat.le_trans hB hb.size)) ((HT.out W' hb).funs.more (Nat.le_trans hB hb.size))
    rw [show sameM ⟨S.m.data, S.m.funcs⟩ ⟨T.m.data, T.m.funcs⟩ = sameM S.m T.m from rfl, hD1, hF1, hD2, hF2] at hz
    exact hz)
  have HFW := Lib.hid h.tape.few
  have hbn : ((strOfNums S.left).toList != (strOfNums T.left).toList) = !(S.left == T.left) := by rw [bne, beq_strOfNums hR1.1 hR2.1]
  have hlb : ((ln1 : Int) != (ln2 : Int)) = !(decide (ln1 = ln2)) := by
    by_cases h : ln1 = ln2
    · rw [h]; simp
    · have h2 : ¬ (ln1 : Int) = ln2 := by omega
      simp [h, h2]
  have HHB := Lib.hid hB
  clear hRe1 hRe2 hR1 hR2 hD1 hL1 hF1 hX1 hD2 hL2 hF2 hX2 hdn1 hdn2 hfn1 hfn2 hxn1 hxn2 h g hB hln1 hln2
  go_enter Tryz.func26, Tryz.ntmps26
  go_upto_region 1 with fail
  refine rregion26 (S := S) (T := T) (fun _ _ _ _ _ h => h) HGS.out HM8.out (fun W' hb => rmsame15 (HS.out W' hb).mem (HT.out W' hb).mem)
    (fun W' hb => rOut15 (HS.out W' hb) (Nat.le_trans HHB.out hb.size)) (fun W' hb => rOut15 (HT.out W' hb) (Nat.le_trans HHB.out hb.size))
    (fun W V V' g1 g2 => rsame14 V V' S.done T.done S.ek S.ec T.ek T.ec W g1 g2 (by have := HFW.out; omega)) hbn hlb hs1 hs2 ?_
  intro w5 v6 v7 v8 v9 v10 v11 v12 v13 v14 v15 v16 v17 v18 v19 v20 v21 v22 v23 v24 v25 v26 v27 v28 v29 v30 v31 v32 v33 v34 v35 v36 v37 v38 v39 v40 v41 v42 v43 v44 v45 v46 v47 v48 v49 v50 v51 v52 v53 v54 v55 v56 v57 v58 v59 v60 v61 v62 v63 v64 v65 v66 v67 v68 v69 v70 v71 v72 v73 v74 v75 v76 v77 v78 v79 v80 v81 v82 hb5
  have B5 := Lib.hid hb5
  obtain ⟨z, hz⟩ : ∃ z, z = (sameM S.m T.m && ((S.mem == T.mem) && (sameO S.done S.ek S.ec T.done T.ek T.ec && ((S.left == T.left) && decide (ln1 = ln2))))) := ⟨_, rfl⟩
  rw [← hz]
  have HZ := Lib.hid hz
  clear hb5 HM8 HGS hs1 hs2 hbn hlb hz
  cases z
  · have HF : Hid (sameSp S T = false) := Lib.hid (by
      have hz := HZ.out
      unfold sameSp
      by_cases h : ln1 = ln2
      · rw [decide_eq_true h] at hz
        generalize nowB S T = c1 at *
        generalize (S.fuel == T.fuel) = c2 at *
        generalize decide (lkT S.links = lkT T.links) = c3 at *
        generalize sameM S.m T.m = c4 at *
        generalize (S.mem == T.mem) = c5 at *
        generalize sameO S.done S.ek S.ec T.done T.ek T.ec = c6 at *
        generalize (S.left == T.left) = c7 at *
        cases c4 <;> cases c5 <;> cases c6 <;> cases c7 <;> simp at hz ⊢
      · rw [decide_eq_false (fun e => h (by have := congrArg List.length e; rw [lkT_len, lkT_len] at this; rw [HLN.out.1, HLN.out.2]; exact this))]
        simp)
    go_wp2
    go_ret
    exact ⟨ret_bool HF.out.symm, B5.out⟩
  have HY : Hid (sameM S.m T.m = true ∧ S.mem = T.mem ∧ sameO S.done S.ek S.ec T.done T.ek T.ec = true ∧ S.left = T.left ∧ S.links.length = T.links.length) := Lib.hid (by
    have hz := HZ.out.symm
    simp only [Bool.and_eq_true, decide_eq_true_eq, beq_iff_eq] at hz
    rw [HLN.out.1, HLN.out.2] at hz
    exact hz)
  go_wp2
  go_loopw [5] (fun v5 wr => ∃ i : Nat, i ≤ ln1 ∧ v5 = .int .i64 i ∧ Hid ((lkT S.links).take i = (lkT T.links).take i ∧ Below W.heap.size W wr)) (fun v5 _ => ln1 - (intOf v5).toNat)
  case atStart => exact ⟨0, by omega, rfl, Lib.hid ⟨rfl, B5.out⟩⟩
  case round =>
    obtain ⟨i, hi, rfl, HH⟩ := hrel
    have BW := Lib.hid HH.out.2
    clear B5
    obtain ⟨c1, c2, c3, c4, c5, c6, c7, c8, c9, c10, c11, c12, c13, c14⟩ := HG.out _ BW.out
    by_cases hlt : i < ln1
    · have g1 : i < S.links.length := by rw [← HLN.out.1]; exact hlt
      have g2 : i < T.links.length := by rw [← HY.out.2.2.2.2]; exact g1
      obtain ⟨b1, o1, hA1, r1, k1⟩ := rlink_at15 HL1.out g1
      obtain ⟨b2, o2, hA2, r2, k2⟩ := rlink_at15 HL2.out g2
      subst hA1 hA2
      obtain ⟨x1, x2, x3, x4⟩ := k1 wr BW.out
      obtain ⟨z1, z2, z3, z4⟩ := k2 wr BW.out
      have hnn := Lib.hid (show ln1 = ln2 by rw [HLN.out.1, HLN.out.2]; exact HY.out.2.2.2.2)
      have G1 := Lib.hid g1
      have G2 := Lib.hid g2
      clear k1 k2 g1 g2
      have i0 : (0 : Int) ≤ (i : Int) := by omega
      have i1 : (i : Int) < (ln1 : Int) := by omega
      have i2 : (i : Int) < (ln2 : Int) := by have := hnn.out; omega
      obtain ⟨a, hx⟩ : ∃ x, x = (lkT S.links).getD i (0, 0, 0, 0) := ⟨_, rfl⟩
      obtain ⟨b, hy⟩ : ∃ y, y = (lkT T.links).getD i (0, 0, 0, 0) := ⟨_, rfl⟩
      rw [← hx] at x1 x2 x3 x4
      rw [← hy] at z1 z2 z3 z4
      have GX := Lib.hid hx
      have GY := Lib.hid hy
      clear hx hy
      by_cases he : a = b
      · have hs := Lib.hid (takeX_step HH.out.1 (by rw [lkT_len]; exact G1.out) (by rw [lkT_len]; exact G2.out) (GX.out.symm.trans (he.trans GY.out)))
        have hq : ∀ w, (binOp .neq 149 (.agg #[.int .i64 a.1, .int .u64 a.2.1, .int .i64 a.2.2.1, .int .i64 a.2.2.2]) (.agg #[.int .i64 b.1, .int .u64 b.2.1, .int .i64 b.2.2.1, .int .i64 b.2.2.2])).run Tryz.prog w = .ok (.bool false) w := fun w => by rw [eqLkR, decide_eq_false (fun h => h he)]
        clear he HH
        go_wp2
        go_quiet (fail)
        go_wp2
        go_roundw
        case rel => exact ⟨i + 1, by omega, by go_num, Lib.hid ⟨hs.out, BW.out.trans ((below_drewN (Below.refl _ _) _).mono BW.out.size)⟩⟩
        case measure => simp [intOf]; omega
      · have hs := Lib.hid (show ¬ lkT S.links = lkT T.links from fun e => he (by rw [GX.out, GY.out, e]))
        have hq : ∀ w, (binOp .neq 149 (.agg #[.int .i64 a.1, .int .u64 a.2.1, .int .i64 a.2.2.1, .int .i64 a.2.2.2]) (.agg #[.int .i64 b.1, .int .u64 b.2.1, .int .i64 b.2.2.1, .int .i64 b.2.2.2])).run Tryz.prog w = .ok (.bool true) w := fun w => by rw [eqLkR, decide_eq_true he]
        clear he HH
        go_wp2
        go_quiet (fail)
        go_wp2
        go_ret
        refine ⟨?_, BW.out.trans ((below_drewN (Below.refl _ _) _).mono BW.out.size)⟩
        have hz : sameSp S T = false := by
          unfold sameSp
          rw [decide_eq_false hs.out]
          simp
        rw [hz]; rfl
    · have hI : ¬ (i : Int) < (ln1 : Int) := by omega
      obtain rfl : ln1 = i := by omega
      have HLE := Lib.hid (show lkT S.links = lkT T.links by
        have := HH.out.1
        rw [List.take_of_length_le (by rw [lkT_len, ← HLN.out.1]; exact Nat.le_refl _), List.take_of_length_le (by rw [lkT_len, ← HY.out.2.2.2.2, ← HLN.out.1]; exact Nat.le_refl _)] at this
        exact this)
      have HSP : Hid (sameSp S T = (S.fuel == T.fuel && ((S.f : Int) == (T.f : Int) && (S.at_ == T.at_ && S.pc == T.pc)))) := Lib.hid (by
        unfold sameSp nowB
        rw [decide_eq_true HLE.out, HY.out.1, beq_iff_eq.2 HY.out.2.1, HY.out.2.2.1, beq_iff_eq.2 HY.out.2.2.2.1]
        simp only [beq_self_eq_true, Bool.and_true]
        rw [Bool.eq_iff_iff]
        simp only [Bool.and_eq_true, decide_eq_true_eq, beq_iff_eq]
        constructor
        · rintro ⟨⟨a, b, c⟩, d⟩; exact ⟨d, a, b, c⟩
        · rintro ⟨d, a, b, c⟩; exact ⟨⟨a, b, c⟩, d⟩)
      obtain ⟨x4, x5, x6, x7, z4, z5, z6, z7⟩ := HNU.out _ BW.out
      clear hlt hi HH
      by_cases e1 : S.fuel = T.fuel
      · have q1 : (S.fuel == T.fuel) = true := beq_iff_eq.2 e1
        by_cases e2 : (S.f : Int) = (T.f : Int)
        · have q2 : ((S.f : Int) == (T.f : Int)) = true := beq_iff_eq.2 e2
          by_cases e3 : S.at_ = T.at_
          · have q3 : (S.at_ == T.at_) = true := beq_iff_eq.2 e3
            have Q := Lib.hid (show sameSp S T = (S.pc == T.pc) by rw [HSP.out, q1, q2, q3]; simp)
            clear e1 e2 e3
            go_wp2
            go_quiet (fail)
            go_wp2
            go_ret
            exact ⟨ret_bool Q.out.symm, BW.out.trans ((below_drewN (Below.refl _ _) _).mono BW.out.size)⟩
          · have q3 : (S.at_ == T.at_) = false := beq_eq_false_iff_ne.2 e3
            have Q := Lib.hid (show sameSp S T = false by rw [HSP.out, q1, q2, q3]; simp)
            clear e1 e2 e3
            go_wp2
            go_quiet (fail)
            go_wp2
            go_ret
            exact ⟨ret_bool Q.out.symm, BW.out.trans ((below_drewN (Below.refl _ _) _).mono BW.out.size)⟩
        · have q2 : ((S.f : Int) == (T.f : Int)) = false := beq_eq_false_iff_ne.2 e2
          have Q := Lib.hid (show sameSp S T = false by rw [HSP.out, q1, q2]; simp)
          clear e1 e2
          go_wp2
          go_quiet (fail)
          go_wp2
          go_ret
          exact ⟨ret_bool Q.out.symm, BW.out.trans ((below_drewN (Below.refl _ _) _).mono BW.out.size)⟩
      · have q1 : (S.fuel == T.fuel) = false := beq_eq_false_iff_ne.2 e1
        have Q := Lib.hid (show sameSp S T = false by rw [HSP.out, q1]; simp)
        clear e1
        go_wp2
        go_quiet (fail)
        go_wp2
        go_ret
        exact ⟨ret_bool Q.out.symm, BW.out.trans ((below_drewN (Below.refl _ _) _).mono BW.out.size)⟩
theorem rs_same {w W : World} {lo i j rb qb : Nat} {l : List It} {S T : SpV} (h : Spaces w lo W l) (hi : l[i]? = some (.rs rb S)) (hj : l[j]? = some (.rs qb T)) :
    Calls Tryz.prog 26 #[.pointer (some ⟨rb, 0, none⟩), .pointer (some ⟨qb, 0, none⟩)] W (SpsDone w lo l (.bool (sameSp S T))) := by
  obtain ⟨p, hp⟩ := h.rsAt hi
  obtain ⟨q, hq⟩ := h.rsAt hj
  refine (rsame15 hp hq (Nat.le_trans h.low h.top)).mono ?_
  rintro e W' ⟨he, hb⟩
  exact ⟨he, h.grow hb⟩
end Go.Proofs.YtkfdgpgildanbaaGreat
