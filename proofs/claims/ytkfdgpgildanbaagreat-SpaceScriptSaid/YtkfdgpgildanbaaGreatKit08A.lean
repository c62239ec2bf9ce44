import Derived.Test.YtkfdgpgildanbaaGreatS11
import Derived.Test.YtkfdgpgildanbaaGreatS09
namespace Go.Proofs.YtkfdgpgildanbaaGreat
open Go.RowKit Go.Shelf
set_option linter.unusedVariables false
set_option linter.unusedSimpArgs false
set_option maxRecDepth 100000 in
set_option maxHeartbeats 8000000 in
theorem sameModule_any (D F D' F' : Value) (data data' : List Int) (fs fs' : List FunV) (w : World) (hD : IsBytes w w.heap.size D data) (hF : IsFuns w w.heap.size F fs) (hD' : IsBytes w w.heap.size D' data') (hF' : IsFuns w w.heap.size F' fs') :
    Calls Tryz.prog 17 #[.agg #[D, F], .agg #[D', F']] w (Makes w (.bool (sameM ⟨data, fs⟩ ⟨data', fs'⟩))) := by
  have hT := twoM_new w D F D' F'
  have HT := Lib.hid hT
  have hl1 := hF.1
  have hl2 := hF'.1
  unfold maxLen at hl1 hl2
  have HEq := Lib.hid (fun W (hb : Below w.heap.size w W) => sameBytes_any D D' data data' W _ _ (hD.grow hb) (hD'.grow hb))
  have HF := Lib.hid hF
  have HF' := Lib.hid hF'
  obtain ⟨DA, dc, hDe⟩ := hD.len
  obtain ⟨FA, fc, hFe⟩ := hF.len
  obtain ⟨DA', dc', hDe'⟩ := hD'.len
  obtain ⟨FA', fc', hFe'⟩ := hF'.len
  subst hDe hFe hDe' hFe'
  obtain ⟨c0, c1, c2, c3⟩ := hT.cells
  cases he : data == data'
  · have HF0 : Hid (sameM ⟨data, fs⟩ ⟨data', fs'⟩ = false) := Lib.hid (by unfold sameM; rw [he]; rfl)
    rw [he] at HEq
    clear hD hF hD' hF' hT he
    go_enter Tryz.func17, Tryz.ntmps17
    go_wp2_with (go_at_call 66; (with_reducible refine (HEq.out _ HT.out.bel).mono ?_); rintro e w1 ⟨rfl, rfl⟩)
    go_ret
    exact ⟨ret_bool HF0.out.symm, HT.out.bel⟩
  by_cases hne : fs.length = fs'.length
  case neg =>
    have HF0 : Hid (sameM ⟨data, fs⟩ ⟨data', fs'⟩ = false) := Lib.hid (by
      cases hh : sameM ⟨data, fs⟩ ⟨data', fs'⟩
      · rfl
      · have := (sameM_iff _ _).1 hh
        injection this with _ h2
        exact absurd (by rw [h2]) hne)
    have hneb : ((fs.length : Int) != (fs'.length : Int)) = true := by
      have : ¬ (fs.length : Int) = (fs'.length : Int) := by omega
      simpa using this
    rw [he] at HEq
    clear hD hF hD' hF' hT he hne
    go_enter Tryz.func17, Tryz.ntmps17
    go_wp2_with (go_at_call 66; (with_reducible refine (HEq.out _ HT.out.bel).mono ?_); rintro e w1 ⟨rfl, rfl⟩)
    go_ret
    exact ⟨ret_bool HF0.out.symm, HT.out.bel⟩
  have HF0 : Hid (sameM ⟨data, fs⟩ ⟨data', fs'⟩ = sameFL fs fs') := Lib.hid (by unfold sameM; rw [he]; rfl)
  rw [he] at HEq
  obtain ⟨n, hn⟩ : ∃ n, n = fs.length := ⟨_, rfl⟩
  have HN := Lib.hid hn
  have HN2 := Lib.hid (hn.trans hne)
  rw [← hn] at HF HT hl1 c0 c1 c2 c3 ⊢
  rw [← hne, ← hn] at HF' HT c0 c1 c2 c3 ⊢
  obtain ⟨w0, hw0⟩ : ∃ w0, w0 = (w.alloc (.cells #[.slice DA data.length dc, .slice FA n fc] 25)).alloc (.cells #[.slice DA' data'.length dc', .slice FA' n fc'] 25) := ⟨_, rfl⟩
  rw [← hw0] at HT c0 c1 c2 c3
  have HW0 := Lib.hid hw0
  clear hD hF hD' hF' hT he hne hn hw0 hl2
  go_enter Tryz.func17, Tryz.ntmps17
  go_wp2_with (go_at_call 66; rw [← HW0.out]; (with_reducible refine (HEq.out _ HT.out.bel).mono ?_); rintro e w1 ⟨rfl, hw1⟩; subst hw1)
  go_loopw [5] (fun i wr => ∃ k : Nat, k ≤ n ∧ i = .int .i64 k ∧ Hid ((∀ i, i < k → fs.getD i .zero = fs'.getD i .zero) ∧ TwoM w wr (.slice DA data.length dc) (.slice FA n fc) (.slice DA' data'.length dc') (.slice FA' n fc'))) (fun i _ => n - (intOf i).toNat)
  case atStart => exact ⟨0, by omega, rfl, ⟨fun i hi => by omega, HT.out⟩⟩
  case round =>
    obtain ⟨k, hk, rfl, HR⟩ := hrel
    obtain ⟨hs, htw⟩ := HR.out
    have HS := Lib.hid hs
    have HTr := Lib.hid htw
    obtain ⟨e0, e1, e2, e3⟩ := htw.cells
    clear hs HR htw c0 c1 c2 c3
    by_cases hlt : k < n
    · obtain ⟨b1, o1, cp1, hVe, _, hb1, hcl1⟩ := HF.out.plain (by rw [← HN.out]; omega)
      obtain ⟨b2, o2, cp2, hUe, _, hb2, hcl2⟩ := HF'.out.plain (by rw [← HN2.out]; omega)
      rw [← HN.out] at hVe hcl1
      rw [← HN2.out] at hUe hcl2
      cases hVe
      cases hUe
      obtain ⟨C1, hC1, hc1⟩ := hcl1 k hlt
      obtain ⟨C2, hC2, hc2⟩ := hcl2 k hlt
      obtain ⟨⟨p, r, a, l⟩, hx⟩ : ∃ x, x = fs.getD k .zero := ⟨_, rfl⟩
      obtain ⟨⟨p', r', a', l'⟩, hy⟩ : ∃ y, y = fs'.getD k .zero := ⟨_, rfl⟩
      rw [← hx] at hc1 hC1
      rw [← hy] at hc2 hC2
      dsimp only at hC1 hC2
      have HX := Lib.hid hx
      have HY := Lib.hid hy
      have hb := HTr.out.bel
      have cc : ∀ j, j < 4 → wr.cell? ⟨b1, o1 + k * 4 + j, none⟩ = some (funCell ⟨p, r, a, l⟩ C1 j) := fun j hj => (hb.cell (p := ⟨b1, o1 + k * 4 + j, none⟩) hb1).trans (hc1 j hj)
      have dd : ∀ j, j < 4 → wr.cell? ⟨b2, o2 + k * 4 + j, none⟩ = some (funCell ⟨p', r', a', l'⟩ C2 j) := fun j hj => (hb.cell (p := ⟨b2, o2 + k * 4 + j, none⟩) hb2).trans (hc2 j hj)
      have f0 : wr.cell? ⟨b1, o1 + k * 4, none⟩ = some (.int .i64 p) := cc 0 (by omega)
      have f1 : wr.cell? ⟨b1, o1 + k * 4 + 1, none⟩ = some (.int .i64 r) := cc 1 (by omega)
      have f2 : wr.cell? ⟨b1, o1 + k * 4 + 2, none⟩ = some (.int .i64 a) := cc 2 (by omega)
      have f3 : wr.cell? ⟨b1, o1 + k * 4 + 3, none⟩ = some C1 := cc 3 (by omega)
      have g0 : wr.cell? ⟨b2, o2 + k * 4, none⟩ = some (.int .i64 p') := dd 0 (by omega)
      have g1 : wr.cell? ⟨b2, o2 + k * 4 + 1, none⟩ = some (.int .i64 r') := dd 1 (by omega)
      have g2 : wr.cell? ⟨b2, o2 + k * 4 + 2, none⟩ = some (.int .i64 a') := dd 2 (by omega)
      have g3 : wr.cell? ⟨b2, o2 + k * 4 + 3, none⟩ = some C2 := dd 3 (by omega)
      have HC1 := Lib.hid (fun W (hb' : Below wr.heap.size wr W) => (hC1.grow hb).grow hb')
      have HC2 := Lib.hid (fun W (hb' : Below wr.heap.size wr W) => (hC2.grow hb).grow hb')
      obtain ⟨CA1, cc1, hCe1⟩ := hC1.len
      obtain ⟨CA2, cc2, hCe2⟩ := hC2.len
      subst hCe1 hCe2
      have k0 : (k : Int) < (n : Int) := by omega
      have k2 : (0 : Int) ≤ (k : Int) := by omega
      have l1 : b1 < wr.heap.size := Nat.lt_of_lt_of_le hb1 hb.size
      have l2 : b2 < wr.heap.size := Nat.lt_of_lt_of_le hb2 hb.size
      have le0 : w.heap.size < wr.heap.size := heap_lt HTr.out.one
      have le1 : w.heap.size + 1 < wr.heap.size := heap_lt HTr.out.two
      have ze1 := World.new_ne _ _ e1
      have ze3 := World.new_ne _ _ e3
      have zf0 := World.new_ne _ _ f0
      have zf1 := World.new_ne _ _ f1
      have zf2 := World.new_ne _ _ f2
      have zf3 := World.new_ne _ _ f3
      have zg0 := World.new_ne _ _ g0
      have zg1 := World.new_ne _ _ g1
      have zg2 := World.new_ne _ _ g2
      have zg3 := World.new_ne _ _ g3
      have HNo : Hid ((⟨p, r, a, l⟩ : FunV) ≠ ⟨p', r', a', l'⟩ → sameM ⟨data, fs⟩ ⟨data', fs'⟩ = false) := Lib.hid (fun hne => by
        rw [HF0.out]
        cases hh : sameFL fs fs'
        · rfl
        · exact absurd (by rw [HX.out, HY.out, (sameFL_iff fs fs').1 hh]) hne)
      clear hcl1 hcl2 hC1 hC2 hc1 hc2 cc dd hx hy hb
      go_wp2
      go_region_held3 (fun W => W.cell? ⟨w.heap.size, 1, none⟩ = some (.slice (some ⟨b1, o1, none⟩) n fc) ∧ W.cell? ⟨w.heap.size + 1, 1, none⟩ = some (.slice (some ⟨b2, o2, none⟩) n fc') ∧ W.cell? ⟨b1, o1 + k * 4, none⟩ = some (.int .i64 p) ∧ W.cell? ⟨b1, o1 + k * 4 + 1, none⟩ = some (.int .i64 r) ∧ W.cell? ⟨b1, o1 + k * 4 + 2, none⟩ = some (.int .i64 a) ∧ W.cell? ⟨b1, o1 + k * 4 + 3, none⟩ = some (.slice CA1 l.length cc1) ∧ W.cell? ⟨b2, o2 + k * 4, none⟩ = some (.int .i64 p') ∧ W.cell? ⟨b2, o2 + k * 4 + 1, none⟩ = some (.int .i64 r') ∧ W.cell? ⟨b2, o2 + k * 4 + 2, none⟩ = some (.int .i64 a') ∧ W.cell? ⟨b2, o2 + k * 4 + 3, none⟩ = some (.slice CA2 l'.length cc2)) (go_keep) (fail)
      all_goals
        by_cases h0 : p = p'
        case neg =>
          have hb0 : (p != p') = true := by simpa using h0
          have HFx := Lib.hid (HNo.out (by intro e; injection e with e0 e1 e2 e3; first | exact h0 e0))
          go_wp2
          go_ret
          exact ⟨ret_bool HFx.out.symm, (HTr.out.grow (((Below.refl wr.heap.size wr).alloc (Nat.le_refl _) _).alloc (by simp) _).drew).bel⟩
        subst h0
        by_cases h1 : r = r'
        case neg =>
          have hb1 : (r != r') = true := by simpa using h1
          have HFx := Lib.hid (HNo.out (by intro e; injection e with e0 e1 e2 e3; first | exact h1 e1))
          go_wp2
          go_ret
          exact ⟨ret_bool HFx.out.symm, (HTr.out.grow (((Below.refl wr.heap.size wr).alloc (Nat.le_refl _) _).alloc (by simp) _).drew).bel⟩
        subst h1
        by_cases h2 : a = a'
        case neg =>
          have hb2 : (a != a') = true := by simpa using h2
          have HFx := Lib.hid (HNo.out (by intro e; injection e with e0 e1 e2 e3; first | exact h2 e2))
          go_wp2
          go_ret
          exact ⟨ret_bool HFx.out.symm, (HTr.out.grow (((Below.refl wr.heap.size wr).alloc (Nat.le_refl _) _).alloc (by simp) _).drew).bel⟩
        subst h2
        cases hcv : sameCV l l'
        · have HFx := Lib.hid (HNo.out (by intro e; injection e with e0 e1 e2 e3; rw [(sameCV_iff l l').2 e3] at hcv; cases hcv))
          have HSC := Lib.hid (fun A B W hA hB => sameCode_any A B l l' W hA hB)
          rw [hcv] at HSC
          clear hcv
          go_wp2_with (go_at_call 67; (with_reducible refine (HSC.out _ _ _ (HC1.out _ (((Below.refl wr.heap.size wr).alloc (Nat.le_refl _) _).alloc (by simp) _).drew) (HC2.out _ (((Below.refl wr.heap.size wr).alloc (Nat.le_refl _) _).alloc (by simp) _).drew)).mono ?_); rintro e w2 ⟨rfl, hb⟩; have HT2 := Lib.hid ((HTr.out.grow (((Below.refl wr.heap.size wr).alloc (Nat.le_refl _) _).alloc (by simp) _).drew).grow hb); clear hb)
          go_ret
          exact ⟨ret_bool HFx.out.symm, HT2.out.bel⟩
        · have HSC := Lib.hid (fun A B W hA hB => sameCode_any A B l l' W hA hB)
          have HEQ := Lib.hid ((sameCV_iff l l').1 hcv)
          rw [hcv] at HSC
          clear hcv
          go_wp2_with (go_at_call 67; (with_reducible refine (HSC.out _ _ _ (HC1.out _ (((Below.refl wr.heap.size wr).alloc (Nat.le_refl _) _).alloc (by simp) _).drew) (HC2.out _ (((Below.refl wr.heap.size wr).alloc (Nat.le_refl _) _).alloc (by simp) _).drew)).mono ?_); rintro e w2 ⟨rfl, hb⟩; have HT2 := Lib.hid ((HTr.out.grow (((Below.refl wr.heap.size wr).alloc (Nat.le_refl _) _).alloc (by simp) _).drew).grow hb); clear hb)
          go_roundw
          case rel => exact ⟨k + 1, by omega, by go_num, ⟨fun i hi => by
            by_cases e : i < k
            · exact HS.out i e
            · obtain rfl : i = k := by omega
              rw [← HX.out, ← HY.out, HEQ.out], HT2.out⟩⟩
          case measure => simp [intOf]; omega
    · obtain rfl : k = n := by omega
      have HTT : Hid (sameM ⟨data, fs⟩ ⟨data', fs'⟩ = true) := Lib.hid (by rw [HF0.out]; exact (sameFL_iff fs fs').2 (list_same .zero (by rw [← HN.out, ← HN2.out]) (by rw [← HN.out]; exact Nat.le_refl _) HS.out))
      go_wp2
      go_ret
      exact ⟨ret_bool HTT.out.symm, HTr.out.bel⟩
end Go.Proofs.YtkfdgpgildanbaaGreat
