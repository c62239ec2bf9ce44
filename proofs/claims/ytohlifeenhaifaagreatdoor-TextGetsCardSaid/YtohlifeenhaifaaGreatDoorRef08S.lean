/- The document's own layer 8: are two modules the same? Contracts; no condition but that they lie in memory. -/
import Derived.Test.YtohlifeenhaifaaGreatDoorKit08A
import Derived.Test.YtohlifeenhaifaaGreatDoorS05
namespace Go.Proofs.YtohlifeenhaifaaGreatDoor
open Go.RowKit Go.Shelf
set_option linter.unusedVariables false
set_option linter.unusedSimpArgs false

set_option maxRecDepth 100000 in
set_option maxHeartbeats 4000000 in
theorem rsameCode8_any (V U : Value) (l m : List InsV) (w : World) (hV : IsCode w w.heap.size V l) (hU : IsCode w w.heap.size U m) : Calls Tryz.prog 42 #[V, U] w (Makes w (.bool (sameCV l m))) := by
  obtain ⟨A, cap, rfl⟩ := hV.len
  obtain ⟨A2, cap2, rfl⟩ := hU.len
  have hl1 := hV.1
  have hl2 := hU.1
  unfold maxLen at hl1 hl2
  by_cases hne : l.length = m.length
  · obtain ⟨n, hn⟩ : ∃ n, n = l.length := ⟨_, rfl⟩
    have HN := Lib.hid hn
    have HN2 := Lib.hid (hn.trans hne)
    have HV := Lib.hid hV
    have HU := Lib.hid hU
    rw [← hn] at HV hl1 ⊢
    rw [← hne, ← hn] at HU hl2 ⊢
    clear hV hU hne hn hl2
    go_enter Tryz.func42, Tryz.ntmps42
    go_wp2
    go_loopw [5] (fun i wr => ∃ k : Nat, k ≤ n ∧ i = .int .i64 k ∧ Hid ((∀ i, i < k → l.getD i .zero = m.getD i .zero) ∧ Below w.heap.size w wr)) (fun i _ => n - (intOf i).toNat)
    case atStart => exact ⟨0, by omega, rfl, ⟨fun i hi => by omega, Below.refl _ _⟩⟩
    case round =>
      obtain ⟨k, hk, rfl, HR⟩ := hrel
      obtain ⟨hs, hb⟩ := HR.out
      have HS := Lib.hid hs
      have HB := Lib.hid hb
      clear hs HR
      by_cases hlt : k < n
      · obtain ⟨b1, o1, cp1, hV, _, hb1, hcl1⟩ := HV.out.plain (by rw [← HN.out]; omega)
        obtain ⟨b2, o2, cp2, hU, _, hb2, hcl2⟩ := HU.out.plain (by rw [← HN2.out]; omega)
        rw [← HN.out] at hV hcl1
        rw [← HN2.out] at hU hcl2
        cases hV
        cases hU
        obtain ⟨X1, hX1, hc1⟩ := hcl1 k hlt
        obtain ⟨X2, hX2, hc2⟩ := hcl2 k hlt
        have hc1' : ∀ j, j < 6 → wr.cell? ⟨b1, o1 + k * 6 + j, none⟩ = some (insCell (l.getD k .zero) X1 j) := fun j hj => (hb.cell (p := ⟨b1, o1 + k * 6 + j, none⟩) hb1).trans (hc1 j hj)
        have hc2' : ∀ j, j < 6 → wr.cell? ⟨b2, o2 + k * 6 + j, none⟩ = some (insCell (m.getD k .zero) X2 j) := fun j hj => (hb.cell (p := ⟨b2, o2 + k * 6 + j, none⟩) hb2).trans (hc2 j hj)
        have hXa := (hX1.below hb (Nat.le_refl _)).more hb.size
        have hXb := (hX2.below hb (Nat.le_refl _)).more hb.size
        obtain ⟨x, hx⟩ : ∃ x, x = l.getD k .zero := ⟨_, rfl⟩
        obtain ⟨y, hy⟩ : ∃ y, y = m.getD k .zero := ⟨_, rfl⟩
        rw [← hx] at hc1' hXa
        rw [← hy] at hc2' hXb
        have HX := Lib.hid hx
        have HY := Lib.hid hy
        have c0 : wr.cell? ⟨b1, o1 + k * 6, none⟩ = some (.int .i64 x.op) := hc1' 0 (by omega)
        have c1 : wr.cell? ⟨b1, o1 + k * 6 + 1, none⟩ = some (.int .i64 x.a) := hc1' 1 (by omega)
        have c2 : wr.cell? ⟨b1, o1 + k * 6 + 2, none⟩ = some (.int .i64 x.b) := hc1' 2 (by omega)
        have c3 : wr.cell? ⟨b1, o1 + k * 6 + 3, none⟩ = some (.int .i64 x.c) := hc1' 3 (by omega)
        have c4 : wr.cell? ⟨b1, o1 + k * 6 + 4, none⟩ = some (.int .i64 x.n) := hc1' 4 (by omega)
        have c5 : wr.cell? ⟨b1, o1 + k * 6 + 5, none⟩ = some X1 := hc1' 5 (by omega)
        have d0 : wr.cell? ⟨b2, o2 + k * 6, none⟩ = some (.int .i64 y.op) := hc2' 0 (by omega)
        have d1 : wr.cell? ⟨b2, o2 + k * 6 + 1, none⟩ = some (.int .i64 y.a) := hc2' 1 (by omega)
        have d2 : wr.cell? ⟨b2, o2 + k * 6 + 2, none⟩ = some (.int .i64 y.b) := hc2' 2 (by omega)
        have d3 : wr.cell? ⟨b2, o2 + k * 6 + 3, none⟩ = some (.int .i64 y.c) := hc2' 3 (by omega)
        have d4 : wr.cell? ⟨b2, o2 + k * 6 + 4, none⟩ = some (.int .i64 y.n) := hc2' 4 (by omega)
        have d5 : wr.cell? ⟨b2, o2 + k * 6 + 5, none⟩ = some X2 := hc2' 5 (by omega)
        have k0 : (k : Int) < (n : Int) := by omega
        have HSm := Lib.hid (rsame_any x.op x.a x.b x.c x.n X1 x.args y.op y.a y.b y.c y.n X2 y.args (wr.drewN 1) (nums_drew hXa) (nums_drew hXb))
        obtain ⟨XA, xc, rfl⟩ := hXa.len
        obtain ⟨YA, yc, rfl⟩ := hXb.len
        clear hcl1 hcl2 hX1 hX2 hc1 hc2 hc1' hc2' hXa hXb hx hy hb
        by_cases hxy : x = y
        · have hsv : sameV x.op x.a x.b x.c x.n x.args y.op y.a y.b y.c y.n y.args = true := (sameY_iff x y).2 hxy
          rw [hsv] at HSm
          have HXY := Lib.hid hxy
          clear hsv hxy
          go_wp2
          go_still_tail 8, (by kernel_rfl)
          go_wp2_with (go_at_call 78; refine HSm.out.mono ?_; rintro e w2 ⟨rfl, hb⟩; have HB2 := Lib.hid ((below_drewN HB.out 1).trans (hb.mono (by have := HB.out.size; exact this))); clear hb)
          go_roundw
          case rel => exact ⟨k + 1, by omega, by go_num, ⟨fun i hi => by
            by_cases e : i < k
            · exact HS.out i e
            · obtain rfl : i = k := by omega
              rw [← HX.out, ← HY.out]
              exact HXY.out, HB2.out⟩⟩
          case measure => simp [intOf]; omega
        · have hsv : sameV x.op x.a x.b x.c x.n x.args y.op y.a y.b y.c y.n y.args = false := by
            cases hh : sameV x.op x.a x.b x.c x.n x.args y.op y.a y.b y.c y.n y.args
            · rfl
            · exact absurd ((sameY_iff x y).1 hh) hxy
          rw [hsv] at HSm
          have HF : Hid (sameCV l m = false) := Lib.hid (sameCV_false (fun e => hxy (by rw [HX.out, HY.out, e])))
          clear hsv hxy
          go_wp2
          go_still_tail 8, (by kernel_rfl)
          go_wp2_with (go_at_call 78; refine HSm.out.mono ?_; rintro e w2 ⟨rfl, hb⟩; have HB2 := Lib.hid ((below_drewN HB.out 1).trans (hb.mono (by have := HB.out.size; exact this))); clear hb)
          go_ret
          exact ⟨ret_bool HF.out.symm, HB2.out⟩
      · obtain rfl : k = n := by omega
        have HT : Hid (sameCV l m = true) := Lib.hid ((sameCV_iff l m).2 (take_same (by rw [← HN.out, ← HN2.out]) (by rw [← HN.out]; exact Nat.le_refl _) HS.out))
        clear hb
        go_wp2
        go_ret
        exact ⟨ret_bool HT.out.symm, HB.out⟩
  · have HF : Hid (sameCV l m = false) := Lib.hid (sameCV_false (fun e => hne (by rw [e])))
    have hne1 : ¬ (l.length : Int) = (m.length : Int) := by omega
    have hneb : ((l.length : Int) != (m.length : Int)) = true := by simpa using hne1
    clear hV hU hne hne1
    go_enter Tryz.func42, Tryz.ntmps42
    go_wp2
    go_ret
    exact ⟨ret_bool HF.out.symm, Below.refl _ _⟩
set_option maxRecDepth 100000 in
set_option maxHeartbeats 8000000 in
theorem rsame8_any (D F D' F' : Value) (data data' : List Int) (fs fs' : List FunV) (w : World) (hD : IsBytes w w.heap.size D data) (hF : IsFuns w w.heap.size F fs) (hD' : IsBytes w w.heap.size D' data') (hF' : IsFuns w w.heap.size F' fs') :
    Calls Tryz.prog 20 #[.agg #[D, F], .agg #[D', F']] w (Makes w (.bool (sameM ⟨data, fs⟩ ⟨data', fs'⟩))) := by
  have hT := twoM_new w D F D' F'
  have HT := Lib.hid hT
  have hl1 := hF.1
  have hl2 := hF'.1
  unfold maxLen at hl1 hl2
  have hcx : ∀ W, Below w.heap.size w W → (convert 22 9 D).run Tryz.prog W = .ok (.string (strOfNums data)) W := fun W hb => conv_bytes (P := Tryz.prog) (hD.grow hb) Tryz.underlying22 Tryz.underlying5 Tryz.underlying9
  have hcy : ∀ W, Below w.heap.size w W → (convert 22 9 D').run Tryz.prog W = .ok (.string (strOfNums data')) W := fun W hb => conv_bytes (P := Tryz.prog) (hD'.grow hb) Tryz.underlying22 Tryz.underlying5 Tryz.underlying9
  have cx := hcx _ hT.bel
  have cy := hcy _ hT.bel
  have hbq := beq_strOfNums hD.1 hD'.1
  clear hcx hcy
  have HF := Lib.hid hF
  have HF' := Lib.hid hF'
  obtain ⟨DA, dc, hDe⟩ := hD.len
  obtain ⟨FA, fc, hFe⟩ := hF.len
  obtain ⟨DA', dc', hDe'⟩ := hD'.len
  obtain ⟨FA', fc', hFe'⟩ := hF'.len
  subst hDe hFe hDe' hFe'
  obtain ⟨c0, c1, c2, c3⟩ := hT.cells
  cases he : data == data'
  · have HF0 : Hid (sameM ⟨data, fs⟩ ⟨data', fs'⟩ = false) := Lib.hid (by unfold sameM; rw [he]; rfl)
    rw [he] at hbq
    have hbn : ((strOfNums data).toList != (strOfNums data').toList) = true := by rw [bne, hbq]; rfl
    clear hD hF hD' hF' hT he
    go_enter Tryz.func20, Tryz.ntmps20
    go_wp2
    go_ret
    exact ⟨ret_bool HF0.out.symm, HT.out.bel⟩
  by_cases hne : fs.length = fs'.length
  case neg =>
    have HF0 : Hid (sameM ⟨data, fs⟩ ⟨data', fs'⟩ = false) := Lib.hid (by
      cases hh : sameM ⟨data, fs⟩ ⟨data', fs'⟩
      · rfl
      · have := (sameM_iff _ _).1 hh
        injection this with _ h2
        exact absurd (by rw [h2]) hne)
    have hneb : ((fs.length : Int) != (fs'.length : Int)) = true := by
      have : ¬ (fs.length : Int) = (fs'.length : Int) := by omega
      simpa using this
    rw [he] at hbq
    have hbn : ((strOfNums data).toList != (strOfNums data').toList) = false := by rw [bne, hbq]; rfl
    clear hD hF hD' hF' hT he hne
    go_enter Tryz.func20, Tryz.ntmps20
    go_wp2
    go_ret
    exact ⟨ret_bool HF0.out.symm, HT.out.bel⟩
  have HF0 : Hid (sameM ⟨data, fs⟩ ⟨data', fs'⟩ = sameFL fs fs') := Lib.hid (by unfold sameM; rw [he]; rfl)
  rw [he] at hbq
  have hbn : ((strOfNums data).toList != (strOfNums data').toList) = false := by rw [bne, hbq]; rfl
  obtain ⟨n, hn⟩ : ∃ n, n = fs.length := ⟨_, rfl⟩
  have HN := Lib.hid hn
  have HN2 := Lib.hid (hn.trans hne)
  rw [← hn] at HF HT hl1 cx c0 c1 c2 c3 ⊢
  rw [← hne, ← hn] at HF' HT cx cy c0 c1 c2 c3 ⊢
  obtain ⟨w0, hw0⟩ : ∃ w0, w0 = (w.alloc (.cells #[.slice DA data.length dc, .slice FA n fc] 25)).alloc (.cells #[.slice DA' data'.length dc', .slice FA' n fc'] 25) := ⟨_, rfl⟩
  rw [← hw0] at HT
  have HW0 := Lib.hid hw0
  clear hD hF hD' hF' hT he hne hn hw0 hl2
  go_enter Tryz.func20, Tryz.ntmps20
  go_wp2
  rw [← HW0.out]
  clear cx cy hbq hbn
  go_loopw [5] (fun i wr => ∃ k : Nat, k ≤ n ∧ i = .int .i64 k ∧ Hid ((∀ i, i < k → fs.getD i .zero = fs'.getD i .zero) ∧ TwoM w wr (.slice DA data.length dc) (.slice FA n fc) (.slice DA' data'.length dc') (.slice FA' n fc'))) (fun i _ => n - (intOf i).toNat)
  case atStart => exact ⟨0, by omega, rfl, ⟨fun i hi => by omega, HT.out⟩⟩
  case round =>
    obtain ⟨k, hk, rfl, HR⟩ := hrel
    obtain ⟨hs, htw⟩ := HR.out
    have HS := Lib.hid hs
    have HTr := Lib.hid htw
    obtain ⟨e0, e1, e2, e3⟩ := htw.cells
    clear hs HR htw c0 c1 c2 c3
    by_cases hlt : k < n
    · obtain ⟨b1, o1, cp1, hVe, _, hb1, hcl1⟩ := HF.out.plain (by rw [← HN.out]; omega)
      obtain ⟨b2, o2, cp2, hUe, _, hb2, hcl2⟩ := HF'.out.plain (by rw [← HN2.out]; omega)
      rw [← HN.out] at hVe hcl1
      rw [← HN2.out] at hUe hcl2
      cases hVe
      cases hUe
      obtain ⟨C1, hC1, hc1⟩ := hcl1 k hlt
      obtain ⟨C2, hC2, hc2⟩ := hcl2 k hlt
      obtain ⟨⟨p, r, a, l⟩, hx⟩ : ∃ x, x = fs.getD k .zero := ⟨_, rfl⟩
      obtain ⟨⟨p', r', a', l'⟩, hy⟩ : ∃ y, y = fs'.getD k .zero := ⟨_, rfl⟩
      rw [← hx] at hc1 hC1
      rw [← hy] at hc2 hC2
      dsimp only at hC1 hC2
      have HX := Lib.hid hx
      have HY := Lib.hid hy
      have hb := HTr.out.bel
      have cc : ∀ j, j < 4 → wr.cell? ⟨b1, o1 + k * 4 + j, none⟩ = some (funCell ⟨p, r, a, l⟩ C1 j) := fun j hj => (hb.cell (p := ⟨b1, o1 + k * 4 + j, none⟩) hb1).trans (hc1 j hj)
      have dd : ∀ j, j < 4 → wr.cell? ⟨b2, o2 + k * 4 + j, none⟩ = some (funCell ⟨p', r', a', l'⟩ C2 j) := fun j hj => (hb.cell (p := ⟨b2, o2 + k * 4 + j, none⟩) hb2).trans (hc2 j hj)
      have f0 : wr.cell? ⟨b1, o1 + k * 4, none⟩ = some (.int .i64 p) := cc 0 (by omega)
      have f1 : wr.cell? ⟨b1, o1 + k * 4 + 1, none⟩ = some (.int .i64 r) := cc 1 (by omega)
      have f2 : wr.cell? ⟨b1, o1 + k * 4 + 2, none⟩ = some (.int .i64 a) := cc 2 (by omega)
      have f3 : wr.cell? ⟨b1, o1 + k * 4 + 3, none⟩ = some C1 := cc 3 (by omega)
      have g0 : wr.cell? ⟨b2, o2 + k * 4, none⟩ = some (.int .i64 p') := dd 0 (by omega)
      have g1 : wr.cell? ⟨b2, o2 + k * 4 + 1, none⟩ = some (.int .i64 r') := dd 1 (by omega)
      have g2 : wr.cell? ⟨b2, o2 + k * 4 + 2, none⟩ = some (.int .i64 a') := dd 2 (by omega)
      have g3 : wr.cell? ⟨b2, o2 + k * 4 + 3, none⟩ = some C2 := dd 3 (by omega)
      have HC1 := Lib.hid (fun W (hb' : Below wr.heap.size wr W) => (hC1.grow hb).grow hb')
      have HC2 := Lib.hid (fun W (hb' : Below wr.heap.size wr W) => (hC2.grow hb).grow hb')
      obtain ⟨CA1, cc1, hCe1⟩ := hC1.len
      obtain ⟨CA2, cc2, hCe2⟩ := hC2.len
      subst hCe1 hCe2
      have k0 : (k : Int) < (n : Int) := by omega
      have k2 : (0 : Int) ≤ (k : Int) := by omega
      have l1 : b1 < wr.heap.size := Nat.lt_of_lt_of_le hb1 hb.size
      have l2 : b2 < wr.heap.size := Nat.lt_of_lt_of_le hb2 hb.size
      have le0 : w.heap.size < wr.heap.size := heap_lt HTr.out.one
      have le1 : w.heap.size + 1 < wr.heap.size := heap_lt HTr.out.two
      have ze1 := World.new_ne _ _ e1
      have ze3 := World.new_ne _ _ e3
      have zf0 := World.new_ne _ _ f0
      have zf1 := World.new_ne _ _ f1
      have zf2 := World.new_ne _ _ f2
      have zf3 := World.new_ne _ _ f3
      have zg0 := World.new_ne _ _ g0
      have zg1 := World.new_ne _ _ g1
      have zg2 := World.new_ne _ _ g2
      have zg3 := World.new_ne _ _ g3
      have HNo : Hid ((⟨p, r, a, l⟩ : FunV) ≠ ⟨p', r', a', l'⟩ → sameM ⟨data, fs⟩ ⟨data', fs'⟩ = false) := Lib.hid (fun hne => by
        rw [HF0.out]
        cases hh : sameFL fs fs'
        · rfl
        · exact absurd (by rw [HX.out, HY.out, (sameFL_iff fs fs').1 hh]) hne)
      clear hcl1 hcl2 hC1 hC2 hc1 hc2 cc dd hx hy hb
      go_wp2
      go_region_held3 (fun W => W.cell? ⟨w.heap.size, 1, none⟩ = some (.slice (some ⟨b1, o1, none⟩) n fc) ∧ W.cell? ⟨w.heap.size + 1, 1, none⟩ = some (.slice (some ⟨b2, o2, none⟩) n fc') ∧ W.cell? ⟨b1, o1 + k * 4, none⟩ = some (.int .i64 p) ∧ W.cell? ⟨b1, o1 + k * 4 + 1, none⟩ = some (.int .i64 r) ∧ W.cell? ⟨b1, o1 + k * 4 + 2, none⟩ = some (.int .i64 a) ∧ W.cell? ⟨b1, o1 + k * 4 + 3, none⟩ = some (.slice CA1 l.length cc1) ∧ W.cell? ⟨b2, o2 + k * 4, none⟩ = some (.int .i64 p') ∧ W.cell? ⟨b2, o2 + k * 4 + 1, none⟩ = some (.int .i64 r') ∧ W.cell? ⟨b2, o2 + k * 4 + 2, none⟩ = some (.int .i64 a') ∧ W.cell? ⟨b2, o2 + k * 4 + 3, none⟩ = some (.slice CA2 l'.length cc2)) (go_keep) (fail)
      all_goals
        by_cases h0 : p = p'
        case neg =>
          have hb0 : (p != p') = true := by simpa using h0
          have HFx := Lib.hid (HNo.out (by intro e; injection e with e0 e1 e2 e3; first | exact h0 e0))
          go_wp2
          go_ret
          exact ⟨ret_bool HFx.out.symm, (HTr.out.grow (((Below.refl wr.heap.size wr).alloc (Nat.le_refl _) _).alloc (by simp) _).drew).bel⟩
        subst h0
        by_cases h1 : r = r'
        case neg =>
          have hb1 : (r != r') = true := by simpa using h1
          have HFx := Lib.hid (HNo.out (by intro e; injection e with e0 e1 e2 e3; first | exact h1 e1))
          go_wp2
          go_ret
          exact ⟨ret_bool HFx.out.symm, (HTr.out.grow (((Below.refl wr.heap.size wr).alloc (Nat.le_refl _) _).alloc (by simp) _).drew).bel⟩
        subst h1
        by_cases h2 : a = a'
        case neg =>
          have hb2 : (a != a') = true := by simpa using h2
          have HFx := Lib.hid (HNo.out (by intro e; injection e with e0 e1 e2 e3; first | exact h2 e2))
          go_wp2
          go_ret
          exact ⟨ret_bool HFx.out.symm, (HTr.out.grow (((Below.refl wr.heap.size wr).alloc (Nat.le_refl _) _).alloc (by simp) _).drew).bel⟩
        subst h2
        cases hcv : sameCV l l'
        · have HFx := Lib.hid (HNo.out (by intro e; injection e with e0 e1 e2 e3; rw [(sameCV_iff l l').2 e3] at hcv; cases hcv))
          have HSC := Lib.hid (fun A B W hA hB => rsameCode8_any A B l l' W hA hB)
          rw [hcv] at HSC
          clear hcv
          go_wp2_with (go_at_call 42; (with_reducible refine (HSC.out _ _ _ (HC1.out _ (((Below.refl wr.heap.size wr).alloc (Nat.le_refl _) _).alloc (by simp) _).drew) (HC2.out _ (((Below.refl wr.heap.size wr).alloc (Nat.le_refl _) _).alloc (by simp) _).drew)).mono ?_); rintro e w2 ⟨rfl, hb⟩; have HT2 := Lib.hid ((HTr.out.grow (((Below.refl wr.heap.size wr).alloc (Nat.le_refl _) _).alloc (by simp) _).drew).grow hb); clear hb)
          go_ret
          exact ⟨ret_bool HFx.out.symm, HT2.out.bel⟩
        · have HSC := Lib.hid (fun A B W hA hB => rsameCode8_any A B l l' W hA hB)
          have HEQ := Lib.hid ((sameCV_iff l l').1 hcv)
          rw [hcv] at HSC
          clear hcv
          go_wp2_with (go_at_call 42; (with_reducible refine (HSC.out _ _ _ (HC1.out _ (((Below.refl wr.heap.size wr).alloc (Nat.le_refl _) _).alloc (by simp) _).drew) (HC2.out _ (((Below.refl wr.heap.size wr).alloc (Nat.le_refl _) _).alloc (by simp) _).drew)).mono ?_); rintro e w2 ⟨rfl, hb⟩; have HT2 := Lib.hid ((HTr.out.grow (((Below.refl wr.heap.size wr).alloc (Nat.le_refl _) _).alloc (by simp) _).drew).grow hb); clear hb)
          go_roundw
          case rel => exact ⟨k + 1, by omega, by go_num, ⟨fun i hi => by
            by_cases e : i < k
            · exact HS.out i e
            · obtain rfl : i = k := by omega
              rw [← HX.out, ← HY.out, HEQ.out], HT2.out⟩⟩
          case measure => simp [intOf]; omega
    · obtain rfl : k = n := by omega
      have HTT : Hid (sameM ⟨data, fs⟩ ⟨data', fs'⟩ = true) := Lib.hid (by rw [HF0.out]; exact (sameFL_iff fs fs').2 (list_same .zero (by rw [← HN.out, ← HN2.out]) (by rw [← HN.out]; exact Nat.le_refl _) HS.out))
      go_wp2
      go_ret
      exact ⟨ret_bool HTT.out.symm, HTr.out.bel⟩
end Go.Proofs.YtohlifeenhaifaaGreatDoor
