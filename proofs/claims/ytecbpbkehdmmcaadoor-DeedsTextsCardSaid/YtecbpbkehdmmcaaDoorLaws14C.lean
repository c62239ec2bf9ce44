/- DeedsTexts' call: outcomes that may be have one text just if they are the same. No condition but that what came in is as its types say, and that the library's variables hold what its text lays. -/
import Derived.Test.YtecbpbkehdmmcaaDoorReg14
import Derived.Deep.RegionHeld3
import Derived.Deep.CutRange
import Derived.Deep.DeepCutAuto
namespace Go.Proofs.YtecbpbkehdmmcaaDoor
open Go.RowKit Go.Shelf
set_option linter.unusedVariables false
set_option linter.unusedSimpArgs false


set_option maxRecDepth 100000 in
set_option maxHeartbeats 20000000 in
theorem texts14_walk (V V' : Value) (L M : List (Int × Int)) (k c k' c' : Int) (w : World) (hV : IsDeeds w w.heap.size V L) (hV' : IsDeeds w w.heap.size V' M) (hE : Env14 w) :
    Calls Tryd.prog 8 #[.agg #[V, .int .i64 k, .int .i64 c], .agg #[V', .int .i64 k', .int .i64 c']] w (Makes w (.bool true)) := by
  obtain ⟨A, cap, rfl, hc⟩ := hV.len
  obtain ⟨A', cap', rfl, hc'⟩ := hV'.len
  have hm := hV.1
  have hm' := hV'.1
  unfold maxLen at hm hm'
  have H0 := Lib.hid (two14_mk w #[.slice A L.length cap, .int .i64 k, .int .i64 c] #[.slice A' M.length cap', .int .i64 k', .int .i64 c'])
  obtain ⟨a0, a1, a2, b0, b1, b2⟩ := H0.out.cells
  have HAW : Hid (∀ W, Below w.heap.size w W → Calls Tryd.prog 11 #[] W (Makes W (.bool true))) := Lib.hid (fun W hb => awake14 W (hE.grow hb))
  have HTA : Hid (∀ W, Below w.heap.size w W → Calls Tryd.prog 23 #[.agg #[.slice A L.length cap, .int .i64 k, .int .i64 c]] W (Makes W (.tuple #[.string (textQ L k c), .int .i64 (errO L k c)]))) := Lib.hid (fun W hb => text14 _ L k c W (hV.grow hb) (hE.grow hb))
  have HTB : Hid (∀ W, Below w.heap.size w W → Calls Tryd.prog 23 #[.agg #[.slice A' M.length cap', .int .i64 k', .int .i64 c']] W (Makes W (.tuple #[.string (textQ M k' c'), .int .i64 (errO M k' c')]))) := Lib.hid (fun W hb => text14 _ M k' c' W (hV'.grow hb) (hE.grow hb))
  have HSM : Hid (∀ W, Below w.heap.size w W → Calls Tryd.prog 27 #[.agg #[.slice A L.length cap, .int .i64 k, .int .i64 c], .agg #[.slice A' M.length cap', .int .i64 k', .int .i64 c']] W (Makes W (.bool (sameO L k c M k' c')))) := Lib.hid (fun W hb => same14 _ _ L M k c k' c' W (hV.grow hb) (hV'.grow hb))
  have HSS : Hid (∀ W, Below w.heap.size w W → Calls Tryd.prog 27 #[.agg #[.slice A L.length cap, .int .i64 k, .int .i64 c], .agg #[.slice A L.length cap, .int .i64 k, .int .i64 c]] W (Makes W (.bool true))) := Lib.hid (fun W hb => by
    have h := same14 _ _ L L k c k c W (hV.grow hb) (hV.grow hb)
    rw [sameO_refl14] at h
    exact h)
  have HSE : Hid (∀ W, Below w.heap.size w W → Calls Tryd.prog 27 #[.agg #[.slice A L.length cap, .int .i64 k, .int .i64 c], .agg #[.slice A' M.length cap', .int .i64 k, .int .i64 c]] W (Makes W (.bool (beginsO L M && beginsO M L)))) := Lib.hid (fun W hb => by
    have h := same14 _ _ L M k c k c W (hV.grow hb) (hV'.grow hb)
    rw [begins_both14] at h
    exact h)
  have HBA : Hid (∀ W, Below w.heap.size w W → Calls Tryd.prog 29 #[.agg #[.slice A L.length cap, .int .i64 k, .int .i64 c], .agg #[.slice A' M.length cap', .int .i64 k, .int .i64 c]] W (Makes W (.bool (beginsO L M)))) := Lib.hid (fun W hb => begins14 _ _ L M k c k c W (hV.grow hb) (hV'.grow hb))
  have HBB : Hid (∀ W, Below w.heap.size w W → Calls Tryd.prog 29 #[.agg #[.slice A' M.length cap', .int .i64 k, .int .i64 c], .agg #[.slice A L.length cap, .int .i64 k, .int .i64 c]] W (Makes W (.bool (beginsO M L)))) := Lib.hid (fun W hb => begins14 _ _ M L k c k c W (hV'.grow hb) (hV.grow hb))
  have HQ := Lib.hid (text_same14 L M k c k' c')
  generalize beginsO L M = p1 at *
  generalize beginsO M L = p2 at *
  generalize sameO L k c M k' c' = sm at *
  generalize textQ L k c = tA at *
  generalize textQ M k' c' = tB at *
  generalize errO L k c = eA at *
  generalize errO M k' c' = eB at *
  clear hV hV' hE
  generalize L.length = n at *
  generalize M.length = m at *
  by_cases hn : n ≤ 100
  · by_cases hm2 : m ≤ 100
    · have d1 : ¬ (100 : Int) < (n : Int) := by omega
      have d2 : ¬ (100 : Int) < (m : Int) := by omega
      go_enter Tryd.func8, Tryd.ntmps8
      go_upto_region 7 with (first
        | (go_at_call 11; (with_reducible refine (HAW.out _ H0.out.bel).mono ?_); rintro e w1 ⟨rfl, hb⟩; have H1 := Lib.hid (H0.out.grow hb); obtain ⟨x0, x1, x2, y0, y1, y2⟩ := H1.out.cells; clear hb a0 a1 a2 b0 b1 b2)
        | (go_at_call 23; (with_reducible refine (HTA.out _ H1.out.bel).mono ?_); rintro e w2 ⟨rfl, hb⟩; have H2 := Lib.hid (H1.out.grow hb); obtain ⟨a0, a1, a2, b0, b1, b2⟩ := H2.out.cells; clear hb x0 x1 x2 y0 y1 y2)
        | (go_at_call 23; (with_reducible refine (HTB.out _ H2.out.bel).mono ?_); rintro e w3 ⟨rfl, hb⟩; have H3 := Lib.hid (H2.out.grow hb); obtain ⟨x0, x1, x2, y0, y1, y2⟩ := H3.out.cells; clear hb a0 a1 a2 b0 b1 b2)
        | (go_at_call 27; (with_reducible refine (HSM.out _ H3.out.bel).mono ?_); rintro e w4 ⟨rfl, hb⟩; have H4 := Lib.hid (H3.out.grow hb); obtain ⟨a0, a1, a2, b0, b1, b2⟩ := H4.out.cells; clear hb x0 x1 x2 y0 y1 y2))
      go_cut [48] (fun s48 wx => s48 = .bool false ∧ wx = w4)
      case first =>
        by_cases he : eA = 0
        · subst he
          by_cases hf : eB = 0
          · subst hf
            have hs := HQ.out rfl rfl
            have hx : ((tA.toList == tB.toList) != sm) = false := by rw [hs]; cases sm <;> rfl
            go_wp2
            go_meet
            case rel => exact ⟨by first | rfl | simp [hx] | simp_all, rfl⟩
          · have hf2 : (eB == 0) = false := by simp [hf]
            go_wp2
            go_meet
            case rel => exact ⟨rfl, rfl⟩
        · have he2 : (eA == 0) = false := by simp [he]
          go_wp2
          go_meet
          case rel => exact ⟨rfl, rfl⟩
      case rest =>
        obtain ⟨rfl, rfl⟩ := hcut
        obtain ⟨-, f1⟩ := H4.out.free 1
        obtain ⟨-, f2⟩ := H4.out.free 2
        clear HQ HTA HTB HSM HAW
        go_upto_region 10 with fail
        refine (show ∀ W, Two14 w W #[.slice A n cap, .int .i64 k, .int .i64 c] #[.slice A' m cap', .int .i64 k, .int .i64 c] → Code.wp _ _ _ _ W from fun W5 h5 => ?_) _ (two_set14 H4.out _ _)
        have H5 := Lib.hid h5
        clear h5 f1 f2 a0 a1 a2 b0 b1 b2
        obtain ⟨a0, a1, a2, b0, b1, b2⟩ := H5.out.cells
        have HC5 := Lib.hid H5.out.cells
        by_cases hp1 : p1 = true
        · subst hp1
          cases p2
          all_goals
            go_region_held3 (fun W => W.cell? ⟨w.heap.size, 0, none⟩ = some (.slice A n cap) ∧ W.cell? ⟨w.heap.size, 1, none⟩ = some (.int .i64 k) ∧ W.cell? ⟨w.heap.size, 2, none⟩ = some (.int .i64 c) ∧ W.cell? ⟨w.heap.size + 1, 0, none⟩ = some (.slice A' m cap') ∧ W.cell? ⟨w.heap.size + 1, 1, none⟩ = some (.int .i64 k) ∧ W.cell? ⟨w.heap.size + 1, 2, none⟩ = some (.int .i64 c))
              (first | with_reducible exact HC9.out | with_reducible exact HC8.out | with_reducible exact HC7.out | with_reducible exact HC6.out | with_reducible exact HC5.out | go_keep)
              (first
                | (go_at_call 27; (with_reducible refine (HSS.out _ H5.out.bel.drew).mono ?_); rintro e w6 ⟨rfl, hb⟩; have H6 := Lib.hid ((H5.out.grow (Below.refl _ _).drew).grow hb); have HC6 := Lib.hid H6.out.cells; clear hb)
                | (go_at_call 27; (with_reducible refine (HSE.out _ H6.out.bel).mono ?_); rintro e w7 ⟨rfl, hb⟩; have H7 := Lib.hid (H6.out.grow hb); have HC7 := Lib.hid H7.out.cells; clear hb)
                | (go_at_call 29; (with_reducible refine (HBA.out _ H7.out.bel).mono ?_); rintro e w8 ⟨rfl, hb⟩; have H8 := Lib.hid (H7.out.grow hb); have HC8 := Lib.hid H8.out.cells; clear hb)
                | (go_at_call 29; (with_reducible refine (HBB.out _ H8.out.bel).mono ?_); rintro e w9 ⟨rfl, hb⟩; have H9 := Lib.hid (H8.out.grow hb); have HC9 := Lib.hid H9.out.cells; clear hb))

          all_goals
            go_wp2
            go_ret
            exact ⟨by first | rfl | simp, H9.out.bel⟩
        · obtain rfl : p1 = false := by simpa using hp1
          rw [Bool.false_and] at HSE
          clear hp1
          refine region10_no (fun _ _ _ _ _ h => h) H5.out HSS.out HSE.out HBA.out ?_
          intro w8 v52 v53 v54 v55 v56 v57 v58 v59 v60 v61 v62 v63 v64 v65 v66 v67 v68 v69 v70 v71 hb8
          have HB8 := Lib.hid hb8
          clear hb8
          go_wp2
          go_ret
          exact ⟨by first | rfl | simp, HB8.out⟩
    · have d1 : ¬ (100 : Int) < (n : Int) := by omega
      have d2 : (100 : Int) < (m : Int) := by omega
      go_enter Tryd.func8, Tryd.ntmps8
      go_wp2_with (go_at_call 11; (with_reducible refine (HAW.out _ H0.out.bel).mono ?_); rintro e w1 ⟨rfl, hb⟩; have H1 := Lib.hid (H0.out.grow hb); obtain ⟨x0, x1, x2, y0, y1, y2⟩ := H1.out.cells; clear hb a0 a1 a2 b0 b1 b2)
      go_ret
      exact ⟨rfl, H1.out.bel⟩
  · have d1 : (100 : Int) < (n : Int) := by omega
    go_enter Tryd.func8, Tryd.ntmps8
    go_wp2_with (go_at_call 11; (with_reducible refine (HAW.out _ H0.out.bel).mono ?_); rintro e w1 ⟨rfl, hb⟩; have H1 := Lib.hid (H0.out.grow hb); obtain ⟨x0, x1, x2, y0, y1, y2⟩ := H1.out.cells; clear hb a0 a1 a2 b0 b1 b2)
    go_ret
    exact ⟨rfl, H1.out.bel⟩
end Go.Proofs.YtecbpbkehdmmcaaDoor
