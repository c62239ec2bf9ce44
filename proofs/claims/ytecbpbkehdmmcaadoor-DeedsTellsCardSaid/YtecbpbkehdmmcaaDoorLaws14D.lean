/- DeedsTells' call: which outcomes may be, their texts, which are the same, which deeds begin others. No condition but that what came in is as its types say, and that the library's variables hold what its text lays. -/
import Derived.Test.YtecbpbkehdmmcaaDoorFour14
import Derived.Deep.CutRange
import Derived.Deep.DeepCutAuto
import Derived.Deep.RegionHeld3
namespace Go.Proofs.YtecbpbkehdmmcaaDoor
open Go.RowKit Go.Shelf
set_option linter.unusedVariables false
set_option linter.unusedSimpArgs false

set_option maxRecDepth 100000 in
set_option maxHeartbeats 20000000 in
theorem tells14 (V V' : Value) (L M : List (Int × Int)) (k c k' c' : Int) (w : World) (hV : IsDeeds w w.heap.size V L) (hV' : IsDeeds w w.heap.size V' M) (hE : Env14 w) :
    Calls Tryd.prog 4 #[.agg #[V, .int .i64 k, .int .i64 c], .agg #[V', .int .i64 k', .int .i64 c']] w (Makes w (.bool true)) := by
  obtain ⟨A, cap, rfl, hc⟩ := hV.len
  obtain ⟨A', cap', rfl, hc'⟩ := hV'.len
  have hm := hV.1
  have hm' := hV'.1
  unfold maxLen at hm hm'
  have H0 := Lib.hid (two14_mk w #[.slice A L.length cap, .int .i64 k, .int .i64 c] #[.slice A' M.length cap', .int .i64 k', .int .i64 c'])
  obtain ⟨a0, a1, a2, b0, b1, b2⟩ := H0.out.cells
  have HAW : Hid (∀ W, Below w.heap.size w W → Calls Tryd.prog 11 #[] W (Makes W (.bool true))) := Lib.hid (fun W hb => awake14 W (hE.grow hb))
  have HV := Lib.hid hV
  have HV' := Lib.hid hV'
  have HE := Lib.hid hE
  clear hV hV' hE
  by_cases hn : L.length ≤ 200
  · by_cases hm2 : M.length ≤ 200
    · have d1 : ¬ (200 : Int) < (L.length : Int) := by omega
      have d2 : ¬ (200 : Int) < (M.length : Int) := by omega
      go_enter Tryd.func4, Tryd.ntmps4
      go_upto_region 3 with fail
      go_cut [5, 6] (fun s5 s6 wx => ∃ p q, s5 = .pointer (some ⟨p, 0, none⟩) ∧ s6 = .pointer (some ⟨q, 0, none⟩) ∧ Four14 w wx p q #[.slice A L.length cap, .int .i64 k, .int .i64 c] #[.slice A' M.length cap', .int .i64 k', .int .i64 c'] #[.slice A L.length cap, .int .i64 k, .int .i64 c] #[.slice A' M.length cap', .int .i64 k', .int .i64 c'])
      case first =>
        go_region
        all_goals
          go_wp2
          go_meet
          case rel => first
            | exact ⟨_, _, rfl, rfl, (four_new14' H0.out _ _ (by simp) (by simp)).drew⟩
            | exact ⟨_, _, rfl, rfl, (four_new14' H0.out _ _ (by simp) (by simp)).swap.drew⟩
      case rest =>
        obtain ⟨p, q, rfl, rfl, h4⟩ := hcut
        have H4 := Lib.hid h4
        clear a0 a1 a2 b0 b1 b2 H0
        obtain ⟨a0, a1, a2, b0, b1, b2, p0, p1, p2, q0, q1, q2⟩ := H4.out.cells
        obtain ⟨f1, f2⟩ := H4.out.free 0
        have n1 := h4.ne
        have n2 := h4.ne.symm
        have n3 : p ≠ w.heap.size := by have := h4.lp; omega
        have n4 : p ≠ w.heap.size + 1 := by have := h4.lp; omega
        have n5 : q ≠ w.heap.size := by have := h4.lq; omega
        have n6 : q ≠ w.heap.size + 1 := by have := h4.lq; omega
        have n7 := n3.symm
        have n8 := n4.symm
        have n9 := n5.symm
        have n10 := n6.symm
        have HD := Lib.hid h4.two.bel.drew
        have HCA : Hid (∀ W, Below w.heap.size w W → Calls Tryd.prog 22 #[.slice A L.length cap] W (DeedsDone W L)) := Lib.hid (fun W hb => copyD _ L W (HV.out.grow hb) (by omega))
        have HCB : Hid (∀ W, Below w.heap.size w W → Calls Tryd.prog 22 #[.slice A' M.length cap'] W (DeedsDone W M)) := Lib.hid (fun W hb => copyD _ M W (HV'.out.grow hb) (by omega))
        clear h4
        go_upto_region 4 with fail
        go_cut [5] (fun s5 wx => s5 = .pointer (some ⟨p, 0, none⟩) ∧ ∃ x y, In14 w wx p q #[.slice A L.length cap, .int .i64 k, .int .i64 c] #[.slice A' M.length cap', .int .i64 k', .int .i64 c'] #[x, .int .i64 k, .int .i64 c] #[y, .int .i64 k', .int .i64 c'] x y L M)
        case first =>
          go_region_held3 (fun W => W.cell? ⟨w.heap.size, 0, none⟩ = some (.slice A L.length cap) ∧ W.cell? ⟨w.heap.size + 1, 0, none⟩ = some (.slice A' M.length cap'))
            (first | with_reducible exact F2.out.read | with_reducible exact FA.out.read | with_reducible exact FB.out.read | with_reducible exact H4.out.drew.read | go_keep)
            (first
              | (go_at_call 22; (with_reducible refine (HCB.out _ FA.out.two.bel).mono ?_); rintro e w2 ⟨y, rfl, ho, hb⟩; obtain ⟨yA, yc, hye⟩ := owns_len14 ho; subst hye; have F2 := Lib.hid (FA.out.grow hb); have OX := Lib.hid (OA.out.but (But.of_below (R := NoBlock) hb) (fun _ _ h => h)); have OY := Lib.hid ho; clear ho hb; obtain ⟨-, -, -, -, -, -, s0, s1, s2, r0, r1, r2⟩ := F2.out.cells; obtain ⟨e1, e2⟩ := F2.out.free 0)
              | (go_at_call 22; (with_reducible refine (HCA.out _ FB.out.two.bel).mono ?_); rintro e w2 ⟨x, rfl, ho, hb⟩; obtain ⟨xA, xc, hxe⟩ := owns_len14 ho; subst hxe; have F2 := Lib.hid (FB.out.grow hb); have OY := Lib.hid (OB.out.but (But.of_below (R := NoBlock) hb) (fun _ _ h => h)); have OX := Lib.hid ho; clear ho hb; obtain ⟨-, -, -, -, -, -, s0, s1, s2, r0, r1, r2⟩ := F2.out.cells; obtain ⟨e1, e2⟩ := F2.out.free 0)
              | (go_at_call 22; (with_reducible refine (HCA.out _ HD.out).mono ?_); rintro e w1 ⟨x, rfl, ho, hb⟩; obtain ⟨xA, xc, hxe⟩ := owns_len14 ho; subst hxe; have FA := Lib.hid (H4.out.drew.grow hb); have OA := Lib.hid ho; clear ho hb)
              | (go_at_call 22; (with_reducible refine (HCB.out _ HD.out).mono ?_); rintro e w1 ⟨y, rfl, ho, hb⟩; obtain ⟨yA, yc, hye⟩ := owns_len14 ho; subst hye; have FB := Lib.hid (H4.out.drew.grow hb); have OB := Lib.hid ho; clear ho hb))
          all_goals
            go_wp2
            go_meet
            case rel => first
              | exact ⟨rfl, _, _, in_made14 F2.out OX.out OY.out⟩
              | exact ⟨rfl, _, _, in_made14' F2.out OX.out OY.out⟩
        case rest =>
          obtain ⟨rfl, x, y, h5⟩ := hcut
          have H5 := Lib.hid h5
          clear h5 HD HCA HCB f1 f2 a0 a1 a2 b0 b1 b2 p0 p1 p2 q0 q1 q2
          obtain ⟨a0, a1, a2, b0, b1, b2, p0, p1, p2, q0, q1, q2⟩ := H5.out.four.cells
          have HT1 : Hid (∀ W, In14 w W p q #[.slice A L.length cap, .int .i64 k, .int .i64 c] #[.slice A' M.length cap', .int .i64 k', .int .i64 c'] #[x, .int .i64 k, .int .i64 c] #[y, .int .i64 k', .int .i64 c'] x y L M → Calls Tryd.prog 23 #[.agg #[x, .int .i64 k, .int .i64 c]] W (Makes W (.tuple #[.string (textQ L k c), .int .i64 (errO L k c)]))) := Lib.hid (fun W h => text14 x L k c W h.x (HE.out.grow h.four.two.bel))
          have HT2 : Hid (∀ W, In14 w W p q #[.slice A L.length cap, .int .i64 k, .int .i64 c] #[.slice A' M.length cap', .int .i64 k', .int .i64 c'] #[x, .int .i64 k, .int .i64 c] #[y, .int .i64 k', .int .i64 c'] x y L M → Calls Tryd.prog 24 #[.agg #[.slice A L.length cap, .int .i64 k, .int .i64 c]] W (Makes W (.tuple #[.string (textQ L k c), .int .i64 (errO L k c)]))) := Lib.hid (fun W h => rtext14 _ L k c W (HV.out.grow h.four.two.bel) (by omega))
          have HC1 : Hid (∀ W, In14 w W p q #[.slice A L.length cap, .int .i64 k, .int .i64 c] #[.slice A' M.length cap', .int .i64 k', .int .i64 c'] #[x, .int .i64 k, .int .i64 c] #[y, .int .i64 k', .int .i64 c'] x y L M → Calls Tryd.prog 25 #[.agg #[x, .int .i64 k, .int .i64 c]] W (Makes W (.int .i64 (errO L k c)))) := Lib.hid (fun W h => check14 x L k c W h.x)
          have HC2 : Hid (∀ W, In14 w W p q #[.slice A L.length cap, .int .i64 k, .int .i64 c] #[.slice A' M.length cap', .int .i64 k', .int .i64 c'] #[x, .int .i64 k, .int .i64 c] #[y, .int .i64 k', .int .i64 c'] x y L M → Calls Tryd.prog 26 #[.agg #[.slice A L.length cap, .int .i64 k, .int .i64 c]] W (Makes W (.int .i64 (errO L k c)))) := Lib.hid (fun W h => rcheck14 _ L k c W (HV.out.grow h.four.two.bel) (by omega))
          have HS1 : Hid (∀ W, In14 w W p q #[.slice A L.length cap, .int .i64 k, .int .i64 c] #[.slice A' M.length cap', .int .i64 k', .int .i64 c'] #[x, .int .i64 k, .int .i64 c] #[y, .int .i64 k', .int .i64 c'] x y L M → Calls Tryd.prog 27 #[.agg #[x, .int .i64 k, .int .i64 c], .agg #[y, .int .i64 k', .int .i64 c']] W (Makes W (.bool (sameO L k c M k' c')))) := Lib.hid (fun W h => same14 x y L M k c k' c' W h.x h.y)
          have HS2 : Hid (∀ W, In14 w W p q #[.slice A L.length cap, .int .i64 k, .int .i64 c] #[.slice A' M.length cap', .int .i64 k', .int .i64 c'] #[x, .int .i64 k, .int .i64 c] #[y, .int .i64 k', .int .i64 c'] x y L M → Calls Tryd.prog 28 #[.agg #[.slice A L.length cap, .int .i64 k, .int .i64 c], .agg #[.slice A' M.length cap', .int .i64 k', .int .i64 c']] W (Makes W (.bool (sameO L k c M k' c')))) := Lib.hid (fun W h => rsame14 _ _ L M k c k' c' W (HV.out.grow h.four.two.bel) (HV'.out.grow h.four.two.bel) (by omega))
          have HG1 : Hid (∀ W, In14 w W p q #[.slice A L.length cap, .int .i64 k, .int .i64 c] #[.slice A' M.length cap', .int .i64 k', .int .i64 c'] #[x, .int .i64 k, .int .i64 c] #[y, .int .i64 k', .int .i64 c'] x y L M → Calls Tryd.prog 29 #[.agg #[x, .int .i64 k, .int .i64 c], .agg #[y, .int .i64 k', .int .i64 c']] W (Makes W (.bool (beginsO L M)))) := Lib.hid (fun W h => begins14 x y L M k c k' c' W h.x h.y)
          have HG2 : Hid (∀ W, In14 w W p q #[.slice A L.length cap, .int .i64 k, .int .i64 c] #[.slice A' M.length cap', .int .i64 k', .int .i64 c'] #[x, .int .i64 k, .int .i64 c] #[y, .int .i64 k', .int .i64 c'] x y L M → Calls Tryd.prog 30 #[.agg #[.slice A L.length cap, .int .i64 k, .int .i64 c], .agg #[.slice A' M.length cap', .int .i64 k', .int .i64 c']] W (Makes W (.bool (beginsO L M)))) := Lib.hid (fun W h => rbegins14 _ _ L M k c k' c' W (HV.out.grow h.four.two.bel) (HV'.out.grow h.four.two.bel) (by omega))
          have HD1 : Hid (∀ W, In14 w W p q #[.slice A L.length cap, .int .i64 k, .int .i64 c] #[.slice A' M.length cap', .int .i64 k', .int .i64 c'] #[x, .int .i64 k, .int .i64 c] #[y, .int .i64 k', .int .i64 c'] x y L M → Calls Tryd.prog 19 #[x, .slice A L.length cap] W (Drew14 W (.bool true))) := Lib.hid (fun W h => sameD_yes _ _ L W _ _ h.x (HV.out.grow h.four.two.bel))
          have HD2 : Hid (∀ W, In14 w W p q #[.slice A L.length cap, .int .i64 k, .int .i64 c] #[.slice A' M.length cap', .int .i64 k', .int .i64 c'] #[x, .int .i64 k, .int .i64 c] #[y, .int .i64 k', .int .i64 c'] x y L M → Calls Tryd.prog 19 #[y, .slice A' M.length cap'] W (Drew14 W (.bool true))) := Lib.hid (fun W h => sameD_yes _ _ M W _ _ h.y (HV'.out.grow h.four.two.bel))
          clear HV HV' HE
          generalize beginsO L M = bg at *
          generalize sameO L k c M k' c' = sm at *
          generalize textQ L k c = tA at *
          generalize errO L k c = eA at *
          have g1 : (tA.toList == tA.toList) = true := by simp
          have g2 : (eA == eA) = true := by simp
          have g3 : (sm == sm) = true := by cases sm <;> rfl
          have g4 : (bg == bg) = true := by cases bg <;> rfl
          go_upto_region 7 with (first
            | (go_at_call 23; (with_reducible refine (HT1.out _ H5.out).mono ?_); rintro e w6 ⟨rfl, hb⟩; have H6 := Lib.hid (H5.out.grow hb); clear hb a0 a1 a2 b0 b1 b2 p0 p1 p2 q0 q1 q2; obtain ⟨a0, a1, a2, b0, b1, b2, p0, p1, p2, q0, q1, q2⟩ := H6.out.four.cells)
            | (go_at_call 24; (with_reducible refine (HT2.out _ H6.out).mono ?_); rintro e w7 ⟨rfl, hb⟩; have H7 := Lib.hid (H6.out.grow hb); clear hb a0 a1 a2 b0 b1 b2 p0 p1 p2 q0 q1 q2; obtain ⟨a0, a1, a2, b0, b1, b2, p0, p1, p2, q0, q1, q2⟩ := H7.out.four.cells))
          have H8 := Lib.hid (H7.out.grow (Below.refl _ _).drew)
          have HK8 := Lib.hid H8.out.four.cells
          go_region_held3 (fun W => W.cell? ⟨w.heap.size, 0, none⟩ = some (.slice A L.length cap) ∧ W.cell? ⟨w.heap.size, 1, none⟩ = some (.int .i64 k) ∧ W.cell? ⟨w.heap.size, 2, none⟩ = some (.int .i64 c) ∧ W.cell? ⟨w.heap.size + 1, 0, none⟩ = some (.slice A' M.length cap') ∧ W.cell? ⟨w.heap.size + 1, 1, none⟩ = some (.int .i64 k') ∧ W.cell? ⟨w.heap.size + 1, 2, none⟩ = some (.int .i64 c') ∧ W.cell? ⟨p, 0, none⟩ = some x ∧ W.cell? ⟨p, 1, none⟩ = some (.int .i64 k) ∧ W.cell? ⟨p, 2, none⟩ = some (.int .i64 c) ∧ W.cell? ⟨q, 0, none⟩ = some y ∧ W.cell? ⟨q, 1, none⟩ = some (.int .i64 k') ∧ W.cell? ⟨q, 2, none⟩ = some (.int .i64 c'))
            (first | with_reducible exact HKE.out | with_reducible exact HKD.out | with_reducible exact HKC.out | with_reducible exact HKB.out | with_reducible exact HKA.out | with_reducible exact HK9.out | with_reducible exact HK8.out | go_keep)
            (first
              | (go_at_call 25; (with_reducible refine (HC1.out _ H8.out).mono ?_); rintro e w9 ⟨rfl, hb⟩; have H9 := Lib.hid (H8.out.grow hb); have HK9 := Lib.hid H9.out.four.cells; clear hb)
              | (go_at_call 26; (with_reducible refine (HC2.out _ H9.out).mono ?_); rintro e wA ⟨rfl, hb⟩; have HA := Lib.hid (H9.out.grow hb); have HKA := Lib.hid HA.out.four.cells; clear hb)
              | (go_at_call 27; (with_reducible refine (HS1.out _ HA.out).mono ?_); rintro e wB ⟨rfl, hb⟩; have HB := Lib.hid (HA.out.grow hb); have HKB := Lib.hid HB.out.four.cells; clear hb)
              | (go_at_call 28; (with_reducible refine (HS2.out _ HB.out).mono ?_); rintro e wC ⟨rfl, hb⟩; have HC := Lib.hid (HB.out.grow hb); have HKC := Lib.hid HC.out.four.cells; clear hb)
              | (go_at_call 29; (with_reducible refine (HG1.out _ HC.out).mono ?_); rintro e wD ⟨rfl, hb⟩; have HD := Lib.hid (HC.out.grow hb); have HKD := Lib.hid HD.out.four.cells; clear hb)
              | (go_at_call 30; (with_reducible refine (HG2.out _ HD.out).mono ?_); rintro e wE ⟨rfl, hb⟩; have HE := Lib.hid (HD.out.grow hb); have HKE := Lib.hid HE.out.four.cells; clear hb))
          clear a0 a1 a2 b0 b1 b2 p0 p1 p2 q0 q1 q2
          obtain ⟨a0, a1, a2, b0, b1, b2, p0, p1, p2, q0, q1, q2⟩ := HKE.out
          go_wp2_with (first
            | (go_at_call 19; (with_reducible refine (HD1.out _ HE.out).mono ?_); rintro e wF ⟨rfl, hw⟩; obtain ⟨qq, hw⟩ := hw; have HF := Lib.hid (HE.out.grow (below_drewN14 hw)); clear hw a0 a1 a2 b0 b1 b2 p0 p1 p2 q0 q1 q2; obtain ⟨a0, a1, a2, b0, b1, b2, p0, p1, p2, q0, q1, q2⟩ := HF.out.four.cells)
            | (go_at_call 19; (with_reducible refine (HD2.out _ HF.out).mono ?_); rintro e wG ⟨rfl, hw⟩; obtain ⟨qq, hw⟩ := hw; have HG := Lib.hid (HF.out.grow (below_drewN14 hw)); clear hw)
            | (go_at_call 11; (with_reducible refine (HAW.out _ HG.out.four.two.bel).mono ?_); rintro e wH ⟨rfl, hb⟩; have HH := Lib.hid (HG.out.grow hb); clear hb))
          go_ret
          exact ⟨by first | rfl | simp, HH.out.four.two.bel⟩
    · have d1 : ¬ (200 : Int) < (L.length : Int) := by omega
      have d2 : (200 : Int) < (M.length : Int) := by omega
      go_enter Tryd.func4, Tryd.ntmps4
      go_wp2_with (go_at_call 11; (with_reducible refine (HAW.out _ H0.out.bel).mono ?_); rintro e w1 ⟨rfl, hb⟩; have H1 := Lib.hid (H0.out.grow hb); clear hb)
      go_ret
      exact ⟨rfl, H1.out.bel⟩
  · have d1 : (200 : Int) < (L.length : Int) := by omega
    go_enter Tryd.func4, Tryd.ntmps4
    go_wp2_with (go_at_call 11; (with_reducible refine (HAW.out _ H0.out.bel).mono ?_); rintro e w1 ⟨rfl, hb⟩; have H1 := Lib.hid (H0.out.grow hb); clear hb)
    go_ret
    exact ⟨rfl, H1.out.bel⟩
end Go.Proofs.YtecbpbkehdmmcaaDoor
