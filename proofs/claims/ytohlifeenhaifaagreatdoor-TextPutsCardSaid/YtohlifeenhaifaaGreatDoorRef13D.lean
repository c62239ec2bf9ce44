/- The document's own Put. Contract; no condition but that the text is short. -/
import Derived.Test.YtohlifeenhaifaaGreatDoorRef13C
import Derived.Test.YtohlifeenhaifaaGreatDoorMath13R
import Derived.Test.YtohlifeenhaifaaGreatDoorMath13Q
import Derived.Test.YtohlifeenhaifaaGreatDoorRef08A
import Derived.Test.YtohlifeenhaifaaGreatDoorS32
import Derived.Deep.CutRange
import Derived.Deep.RegionHeld3
import Derived.BigQuiet
namespace Go.Proofs.YtohlifeenhaifaaGreatDoor
open Go.RowKit Go.Shelf
set_option linter.unusedVariables false
set_option linter.unusedSimpArgs false

theorem pre_le {a b T : List Int} (h : a ++ b = T) (hT : T.length ≤ 400000) : a.length ≤ 400000 := by
  have := congrArg List.length h
  rw [List.length_append] at this
  omega
theorem tailD_step (i n : Nat) (data : List Int) (x : Int) (hn : n = data.length) (hi : i < n) (hx : x = data.getD i 0) :
    tailD (i % 16) (data.drop i) = (if i % 16 = 0 then bytesW else []) ++ ((32 :: numL x) ++ ((if i % 16 = 15 ∨ i + 1 = n then [10] else []) ++ tailD ((i + 1) % 16) (data.drop (i + 1)))) := by
  have hi2 : i < data.length := by omega
  have hd : data.drop i = x :: data.drop (i + 1) := by
    rw [List.drop_eq_getElem_cons hi2, hx, List.getD, List.getElem?_eq_getElem hi2]
    rfl
  rw [hd]
  simp only [tailD]
  rw [show (i % 16 + 1) % 16 = (i + 1) % 16 by omega]
  have e : (data.drop (i + 1) = []) ↔ (i + 1 = n) := by
    rw [List.drop_eq_nil_iff]
    omega
  by_cases h : i % 16 = 15 ∨ i + 1 = n
  · rw [if_pos h, if_pos (h.imp id e.2)]
  · rw [if_neg h, if_neg (show ¬ (i % 16 = 15 ∨ data.drop (i + 1) = []) from fun h2 => h (h2.imp id e.1))]
/-- An instruction's line in a text. -/
def insP13 (y : InsV) : List Int := [32, 32] ++ insT y ++ [10]
theorem textF_parts (f : FunV) : textF f = (funcW ++ [32] ++ numL f.params ++ [32] ++ numL f.regs ++ [32] ++ numL f.area ++ [10]) ++ f.code.flatMap insP13 := by
  unfold textF insP13
  rw [head_func]
  simp
theorem funs_drop {fs : List FunV} {j : Nat} (h : j < fs.length) : (fs.drop j).flatMap textF = textF (fs.getD j .zero) ++ (fs.drop (j + 1)).flatMap textF := by
  rw [List.drop_eq_getElem_cons h, List.flatMap_cons, List.getD, List.getElem?_eq_getElem h]
  rfl
theorem code_drop {l : List InsV} {t : Nat} (h : t < l.length) : (l.drop t).flatMap insP13 = insP13 (l.getD t .zero) ++ (l.drop (t + 1)).flatMap insP13 := by
  rw [List.drop_eq_getElem_cons h, List.flatMap_cons, List.getD, List.getElem?_eq_getElem h]
  rfl
theorem cells4n {W : World} {g : Nat} {v0 v1 v2 v3 : Value} {t : TypeId} {m : Nat × Nat} (h : W.heap[g]? = some (.cells #[v0, v1, v2, v3] t m)) : W.cell? ⟨g, 0, none⟩ = some v0 ∧ W.cell? ⟨g, 1, none⟩ = some v1 ∧ W.cell? ⟨g, 2, none⟩ = some v2 ∧ W.cell? ⟨g, 3, none⟩ = some v3 := by
  refine ⟨?_, ?_, ?_, ?_⟩ <;> simp [World.cell?, h]
set_option maxRecDepth 100000 in
set_option maxHeartbeats 8000000 in
theorem rput13_any (D F : Value) (data : List Int) (fs : List FunV) (w : World) (hD : IsBytes w w.heap.size D data) (hF : IsFuns w w.heap.size F fs) (hs : ∀ f ∈ fs, f.code.length ≤ 1000) (hT : (ModV.mk data fs).err = 0 → (textM ⟨data, fs⟩).length ≤ 400000) (hl : data.length ≤ 1000000) (hfl : fs.length ≤ 1000000) :
    Calls Tryz.prog 12 #[.agg #[D, F]] w (Makes w (.tuple #[.string (putT data fs), .int .i64 (ModV.mk data fs).err])) := by
  have hdb : ∀ x ∈ data, 0 ≤ x ∧ x < 256 := hD.1
  have HFD : Hid ((ModV.mk data fs).err = 0 → ∀ f ∈ fs, Fun13 f) := Lib.hid (fun h => funs13_of hF h)
  obtain ⟨DA, dc, hDe⟩ := hD.len
  obtain ⟨FA, fc, hFe⟩ := hF.len
  subst hDe hFe
  obtain ⟨w0, hw0⟩ : ∃ w0, w0 = w.alloc (.cells #[.slice DA data.length dc, .slice FA fs.length fc] 25) := ⟨_, rfl⟩
  have hb0 : Below w.heap.size w w0 := by rw [hw0]; exact (Below.refl _ _).alloc (Nat.le_refl _) _
  have hx0 : w0.heap[w.heap.size]? = some (.cells #[.slice DA data.length dc, .slice FA fs.length fc] 25 (0, 0)) := by rw [hw0]; exact heap_alloc_new w _
  have HBX : Hid (∀ W, Below w0.heap.size w0 W → W.cell? ⟨w.heap.size, 0, none⟩ = some (.slice DA data.length dc) ∧ W.cell? ⟨w.heap.size, 1, none⟩ = some (.slice FA fs.length fc)) := Lib.hid (fun W hb => cells2 (box_below hx0 hb))
  have HBY : Hid (∀ W, Below w0.heap.size w0 W → IsBytes W W.heap.size (.slice DA data.length dc) data) := Lib.hid (fun W hb => (hD.grow hb0).grow hb)
  have HFN : Hid (∀ W, Below w0.heap.size w0 W → IsFuns W W.heap.size (.slice FA fs.length fc) fs) := Lib.hid (fun W hb => (hF.grow hb0).grow hb)
  have HCK := Lib.hid (fun W (hb : Below w0.heap.size w0 W) => rcheck8_any _ _ data fs W (HBY.out W hb) (HFN.out W hb) hs)
  have HB0 := Lib.hid hb0
  have HNU := Lib.hid (fun (v : Int) (h : InI v) W => rnum13_any v h W)
  obtain ⟨er, her⟩ : ∃ er, er = (ModV.mk data fs).err := ⟨_, rfl⟩
  have HER := Lib.hid her
  obtain ⟨c0, c1⟩ := cells2 hx0
  have HW0 := Lib.hid hw0
  have HDB := Lib.hid hdb
  have HHS := Lib.hid hs
  have HT := Lib.hid hT
  rw [← her] at HCK HFD HT ⊢
  rw [hw0] at c0 c1
  clear hD hF hs hT hb0 hx0 hw0 hdb her
  by_cases he : er = 0
  · have HT0 := Lib.hid (HT.out he)
    have HFD0 := Lib.hid (HFD.out he)
    have HPT : Hid (putT data fs = strOfNums (textM ⟨data, fs⟩)) := Lib.hid (by unfold putT; rw [if_pos (by rw [← HER.out]; exact he)])
    clear HT HFD HER
    subst he
    go_enter Tryz.func12, Tryz.ntmps12
    go_wp2_with (go_at_call 27; rw [← HW0.out]; (with_reducible refine (HCK.out _ (Below.refl _ _)).mono ?_); rintro e w1 ⟨rfl, hb⟩; have HB1 := Lib.hid hb; clear hb)
    clear c0 c1 HCK HW0
    obtain ⟨T, hTT⟩ : ∃ T, T = textM ⟨data, fs⟩ := ⟨_, rfl⟩
    have HTT := Lib.hid (hTT.trans (textM_parts _))
    rw [← hTT] at HPT HT0
    rw [HPT.out]
    obtain ⟨dn, hdn⟩ : ∃ dn, dn = data.length := ⟨_, rfl⟩
    have HDN := Lib.hid hdn
    rw [← hdn] at HBX HBY hl ⊢
    clear hTT hdn
    go_loopw [5, 6] (fun v5 v6 wr => ∃ (i : Nat) (pre : List Int) (o : ByteArray), i ≤ dn ∧ v6 = .int .i64 i ∧ v5 = .string o ∧ Hid (o = strOfNums pre ∧ pre ++ (tailD (i % 16) (data.drop i) ++ fs.flatMap textF) = T ∧ Below w0.heap.size w0 wr)) (fun _ v6 _ => dn - (intOf v6).toNat)
    case atStart => exact ⟨0, [], _, Nat.zero_le _, rfl, rfl, Lib.hid ⟨by rfl, HTT.out.symm, HB1.out⟩⟩
    case round =>
      obtain ⟨i, pre, o, hi, rfl, rfl, HG⟩ := hrel
      have i0 : (0 : Int) ≤ (i : Int) := by omega
      obtain ⟨d0, d1⟩ := HBX.out wr HG.out.2.2
      by_cases hlt : i < dn
      · have hi2 : i ≤ 1000000 := by omega
        obtain ⟨zb, zo, zc, hV, _, _, hz⟩ := (HBY.out wr HG.out.2.2).plain (by rw [← HDN.out]; omega)
        have hA : DA = some ⟨zb, zo, none⟩ := by injection hV
        subst hA
        have z1 := hz i (by rw [← HDN.out]; exact hlt)
        obtain ⟨x, hx⟩ : ∃ x, x = data.getD i 0 := ⟨_, rfl⟩
        rw [← hx] at z1
        have hst := tailD_step i dn data x HDN.out hlt hx
        have hxb := HDB.out x (by
          have h2 : i < data.length := by rw [← HDN.out]; exact hlt
          rw [hx, List.getD, List.getElem?_eq_getElem h2]
          exact List.getElem_mem h2)
        have x0 : 0 ≤ x := hxb.1
        have x1 : x < 256 := hxb.2
        have hxi : InI x := by unfold InI; omega
        have HEQ : Hid (pre ++ ((if i % 16 = 0 then bytesW else []) ++ ((32 :: numL x) ++ ((if i % 16 = 15 ∨ i + 1 = dn then [10] else []) ++ (tailD ((i + 1) % 16) (data.drop (i + 1)) ++ fs.flatMap textF)))) = T) := Lib.hid (by
          have h := HG.out.2.1
          rw [hst] at h
          rw [← h]
          simp only [List.append_assoc])
        obtain ⟨qn, hqn⟩ : ∃ qn, qn = strOfNums (numL x) := ⟨_, rfl⟩
        have HQN := Lib.hid hqn
        have hql : qn.size ≤ 20 := by rw [hqn, strOfNums_size]; exact num_len hxi
        have HCV := Lib.hid (HNU.out x hxi)
        rw [← hqn] at HCV
        have hos : o.size ≤ 400000 := by
          rw [HG.out.1, strOfNums_size]
          exact pre_le HG.out.2.1 HT0.out
        have HBW := Lib.hid HG.out.2.2
        have HO := Lib.hid HG.out.1
        have HLT := Lib.hid (show i + 1 ≤ dn ∧ True from ⟨hlt, trivial⟩)
        clear hV hz hx hst hxb hxi hqn HG
        have HOS := Lib.hid hos
        have HQL := Lib.hid hql
        have g1 : ¬ (9223372036854775807 : Int) < (o.size : Int) + 5 := by omega
        clear hos hql
        obtain ⟨P1, hP1⟩ : ∃ P1, P1 = (if i % 16 = 0 then bytesW else []) := ⟨_, rfl⟩
        obtain ⟨P2, hP2⟩ : ∃ P2, P2 = (if i % 16 = 15 ∨ i + 1 = dn then [10] else ([] : List Int)) := ⟨_, rfl⟩
        obtain ⟨c2, hc2⟩ : ∃ c2 : Bool, c2 = decide (i % 16 = 15 ∨ i + 1 = dn) := ⟨_, rfl⟩
        rw [← hP1, ← hP2] at HEQ
        have HP1 := Lib.hid hP1
        have HP2 := Lib.hid hP2
        have HC2 := Lib.hid hc2
        clear hP1 hP2 hc2
        go_upto_if 24 with fail
        go_cut [5] from 15 to 49 (fun s5 wx => (∃ o1 : ByteArray, s5 = .string o1 ∧ Hid (o1.size ≤ o.size + 5 ∧ o1 = strOfNums (pre ++ P1))) ∧ wx = wr)
        case first =>
          have hp := HP1.out
          by_cases h0 : i % 16 = 0
          · have e0 : (i : Int) % 16 = 0 := by omega
            have e0b : ((i : Int) % 16 == 0) = true := by rw [e0]; rfl
            rw [if_pos h0] at hp
            clear h0
            go_wp2
            go_meet
            case rel => exact ⟨⟨_, rfl, Lib.hid ⟨by rw [ByteArray.size_append]; exact Nat.le_refl _, by rw [show (⟨#[98, 121, 116, 101, 115]⟩ : ByteArray) = strOfNums bytesW by decide, HO.out, ← str_app, hp]⟩⟩, rfl⟩
          · have e0 : ¬ (i : Int) % 16 = 0 := by omega
            have e0b : ((i : Int) % 16 == 0) = false := by simpa using e0
            rw [if_neg h0] at hp
            clear h0
            go_wp2
            go_meet
            case rel => exact ⟨⟨o, rfl, Lib.hid ⟨by omega, by rw [HO.out, hp, List.append_nil]⟩⟩, rfl⟩
        case rest =>
          obtain ⟨⟨o1, rfl, HO1⟩, hw⟩ := hcut
          have hw2 := hw.symm
          subst hw2
          have g5 : ¬ (9223372036854775807 : Int) < (o1.size : Int) + 1 := by have := HO1.out.1; have := HOS.out; omega
          have g6 : ¬ (9223372036854775807 : Int) < (o1.size : Int) + 1 + (qn.size : Int) := by have := HO1.out.1; have := HOS.out; have := HQL.out; omega
          have HO2 : Hid (o1 ++ ⟨#[32]⟩ ++ qn = strOfNums ((pre ++ P1) ++ 32 :: numL x)) := Lib.hid (by rw [HO1.out.2, HQN.out, str_blank])
          have HO2S : Hid ((o1 ++ ⟨#[32]⟩ ++ qn).size ≤ 400100) := Lib.hid (by
            rw [ByteArray.size_append, ByteArray.size_append]
            have h1 : (⟨#[32]⟩ : ByteArray).size = 1 := rfl
            have := HO1.out.1; have := HOS.out; have := HQL.out
            omega)
          go_upto_region 11 with (go_at_call 28; (with_reducible refine (HCV.out _).mono ?_); rintro e w5 ⟨rfl, hb⟩; have HB5 := Lib.hid (HBW.out.trans (hb.mono HBW.out.size)); obtain ⟨f0, f1⟩ := HBX.out _ HB5.out; clear hb)
          generalize o1 ++ ⟨#[32]⟩ ++ qn = o2 at *
          clear g1 g5 g6 d0 d1 z1
          go_cut [47] from 15 to 49 (fun s47 wx => s47 = .bool c2 ∧ wx = w5)
          case first =>
            have hc := HC2.out
            clear HC2
            by_cases h15 : i % 16 = 15
            · have e0 : (i : Int) % 16 = 15 := by omega
              have e0b : ((i : Int) % 16 == 15) = true := by rw [e0]; rfl
              have hc2 := hc.trans (decide_eq_true (.inl h15))
              clear hc h15
              go_wp2
              go_meet
              case rel => exact ⟨by rw [hc2], rfl⟩
            · have e0 : ¬ (i : Int) % 16 = 15 := by omega
              have e0b : ((i : Int) % 16 == 15) = false := by simpa using e0
              by_cases hla : i + 1 = dn
              · have hc2 := hc.trans (decide_eq_true (.inr hla))
                subst hla
                clear hc h15
                go_wp2
                go_meet
                case rel => exact ⟨by first | (rw [hc2]; done) | simp [hc2], rfl⟩
              · have hc2 := hc.trans (decide_eq_false (fun h => h.elim h15 hla))
                have e1 : ¬ (i : Int) = (dn : Int) - 1 := by omega
                have e1b : ((i : Int) == (dn : Int) - 1) = false := by simpa using e1
                clear hc h15
                go_wp2
                go_meet
                case rel => exact ⟨by first | (rw [hc2]; done) | simp [hc2], rfl⟩
          case rest =>
            obtain ⟨rfl, hw⟩ := hcut
            have hw2 := hw.symm
            subst hw2
            have g7 : ¬ (9223372036854775807 : Int) < (o2.size : Int) + 1 := by have := HO2S.out; omega
            cases c2
            · have HPE : Hid (P2 = []) := Lib.hid (by rw [HP2.out, if_neg (of_decide_eq_false HC2.out.symm)])
              clear HC2
              go_wp2
              go_roundw
              case rel => exact ⟨i + 1, _, _, HLT.out.1, by go_num, rfl, Lib.hid ⟨HO2.out, by have h := HEQ.out; rw [HPE.out] at h; rw [← h]; simp, HB5.out⟩⟩
              case measure => have := HLT.out.1; simp [intOf]; omega
            · have HPE : Hid (P2 = [10]) := Lib.hid (by rw [HP2.out, if_pos (of_decide_eq_true HC2.out.symm)])
              clear HC2
              go_wp2
              go_roundw
              case rel => exact ⟨i + 1, _, _, HLT.out.1, by go_num, rfl, Lib.hid ⟨by rw [HO2.out, show (⟨#[10]⟩ : ByteArray) = strOfNums [10] by decide, ← str_app], by have h := HEQ.out; rw [HPE.out] at h; rw [← h]; simp, HB5.out⟩⟩
              case measure => have := HLT.out.1; simp [intOf]; omega
      · obtain rfl : i = dn := by omega
        have HEND : Hid (pre ++ fs.flatMap textF = T) := Lib.hid (by
          have h := HG.out.2.1
          rw [show data.drop i = [] from List.drop_eq_nil_of_le (by rw [← HDN.out]; exact Nat.le_refl _)] at h
          simpa [tailD] using h)
        have HO := Lib.hid HG.out.1
        have HBW := Lib.hid HG.out.2.2
        obtain ⟨fn, hfn⟩ : ∃ fn, fn = fs.length := ⟨_, rfl⟩
        have HFNL := Lib.hid hfn
        rw [← hfn] at HBX HFN d1 hfl ⊢
        clear HG hfn d1
        obtain ⟨d0', d1⟩ := HBX.out wr HBW.out
        clear d0'
        go_wp2
        go_loopw [5, 7, 8, 9] (fun v5 v7 _ _ wr => ∃ (j : Nat) (pre : List Int) (o : ByteArray), j ≤ fn ∧ v7 = .int .i64 j ∧ v5 = .string o ∧ Hid (o = strOfNums pre ∧ pre ++ (fs.drop j).flatMap textF = T ∧ Below w0.heap.size w0 wr)) (fun _ v7 _ _ _ => fn - (intOf v7).toNat)
        case atStart => exact ⟨0, pre, o, Nat.zero_le _, rfl, rfl, Lib.hid ⟨HO.out, HEND.out, HBW.out⟩⟩
        case round =>
          clear HEND HO HBW d0 d1
          obtain ⟨j, pre, o, hj, rfl, rfl, HG⟩ := hrel
          have j0 : (0 : Int) ≤ (j : Int) := by omega
          obtain ⟨d0, d1⟩ := HBX.out wr HG.out.2.2
          by_cases hlt2 : j < fn
          · have hj2 : j ≤ 1000000 := by omega
            have hjl : j < fs.length := by rw [← HFNL.out]; exact hlt2
            obtain ⟨fb, fo, fc2, hV, _, _, hz⟩ := (HFN.out wr HG.out.2.2).plain (by omega)
            have hA : FA = some ⟨fb, fo, none⟩ := by injection hV
            subst hA
            obtain ⟨C, hC, hcell⟩ := hz j hjl
            have hst := funs_drop hjl
            obtain ⟨⟨p, r, a, l⟩, hf⟩ : ∃ f, f = fs.getD j .zero := ⟨_, rfl⟩
            rw [← hf] at hC hcell hst
            have hF13 : Fun13 ⟨p, r, a, l⟩ := by
              rw [hf, List.getD, List.getElem?_eq_getElem hjl]
              exact HFD0.out _ (List.getElem_mem hjl)
            have z0 : wr.cell? ⟨fb, fo + j * 4, none⟩ = some (.int .i64 p) := hcell 0 (by omega)
            have z1 : wr.cell? ⟨fb, fo + j * 4 + 1, none⟩ = some (.int .i64 r) := hcell 1 (by omega)
            have z2 : wr.cell? ⟨fb, fo + j * 4 + 2, none⟩ = some (.int .i64 a) := hcell 2 (by omega)
            have z3 : wr.cell? ⟨fb, fo + j * 4 + 3, none⟩ = some C := hcell 3 (by omega)
            have hC2 : IsCode wr wr.heap.size C l := hC
            obtain ⟨CA, Cc, hCe⟩ := hC2.len
            subst hCe
            obtain ⟨W3, hW3⟩ : ∃ W3, W3 = wr.alloc (.cells #[.int .i64 p, .int .i64 r, .int .i64 a, .slice CA l.length Cc] 53) := ⟨_, rfl⟩
            have hb3 : Below wr.heap.size wr W3 := by rw [hW3]; exact (Below.refl _ _).alloc (Nat.le_refl _) _
            have hg3 : W3.heap[wr.heap.size]? = some (.cells #[.int .i64 p, .int .i64 r, .int .i64 a, .slice CA l.length Cc] 53 (0, 0)) := by rw [hW3]; exact heap_alloc_new wr _
            have HGF : Hid (∀ W, Below W3.heap.size W3 W → W.cell? ⟨wr.heap.size, 0, none⟩ = some (.int .i64 p) ∧ W.cell? ⟨wr.heap.size, 1, none⟩ = some (.int .i64 r) ∧ W.cell? ⟨wr.heap.size, 2, none⟩ = some (.int .i64 a) ∧ W.cell? ⟨wr.heap.size, 3, none⟩ = some (.slice CA l.length Cc)) := Lib.hid (fun W hb => cells4n (box_below hg3 hb))
            have HCD : Hid (∀ W, Below W3.heap.size W3 W → IsCode W W.heap.size (.slice CA l.length Cc) l) := Lib.hid (fun W hb => (hC2.grow hb3).grow hb)
            have HW3B : Hid (Below w0.heap.size w0 W3) := Lib.hid (HG.out.2.2.trans (hb3.mono HG.out.2.2.size))
            have HIN : Hid (∀ y ∈ l, Ins13 y) := Lib.hid hF13.code
            have HLN : Hid (l.length ≤ 1000) := Lib.hid (HHS.out ⟨p, r, a, l⟩ (by rw [hf, List.getD, List.getElem?_eq_getElem hjl]; exact List.getElem_mem hjl))
            obtain ⟨qp, hqp⟩ : ∃ qp, qp = strOfNums (numL p) := ⟨_, rfl⟩
            obtain ⟨qr, hqr⟩ : ∃ qr, qr = strOfNums (numL r) := ⟨_, rfl⟩
            obtain ⟨qa, hqa⟩ : ∃ qa, qa = strOfNums (numL a) := ⟨_, rfl⟩
            have lp : qp.size ≤ 20 := by rw [hqp, strOfNums_size]; exact num_len hF13.bd.params
            have lr : qr.size ≤ 20 := by rw [hqr, strOfNums_size]; exact num_len hF13.bd.regs
            have la : qa.size ≤ 20 := by rw [hqa, strOfNums_size]; exact num_len hF13.bd.area
            have HCP := Lib.hid (HNU.out p hF13.bd.params)
            have HCR := Lib.hid (HNU.out r hF13.bd.regs)
            have HCA := Lib.hid (HNU.out a hF13.bd.area)
            rw [← hqp] at HCP
            rw [← hqr] at HCR
            rw [← hqa] at HCA
            have hos : o.size ≤ 400000 := by
              rw [HG.out.1, strOfNums_size]
              exact pre_le HG.out.2.1 HT0.out
            have HEQ : Hid ((pre ++ (funcW ++ [32] ++ numL p ++ [32] ++ numL r ++ [32] ++ numL a ++ [10])) ++ (l.flatMap insP13 ++ (fs.drop (j + 1)).flatMap textF) = T) := Lib.hid (by
              have h := HG.out.2.1
              rw [hst, textF_parts] at h
              rw [← h]
              simp only [List.append_assoc])
            have HNEW : Hid (o ++ ⟨#[102, 117, 110, 99, 32]⟩ ++ qp ++ ⟨#[32]⟩ ++ qr ++ ⟨#[32]⟩ ++ qa ++ ⟨#[10]⟩ = strOfNums (pre ++ (funcW ++ [32] ++ numL p ++ [32] ++ numL r ++ [32] ++ numL a ++ [10]))) := Lib.hid (by
              rw [HG.out.1, hqp, hqr, hqa, show (⟨#[102, 117, 110, 99, 32]⟩ : ByteArray) = strOfNums (funcW ++ [32]) by decide, show (⟨#[32]⟩ : ByteArray) = strOfNums [32] by decide, show (⟨#[10]⟩ : ByteArray) = strOfNums [10] by decide]
              simp only [← str_app, List.append_assoc])
            have s1 : ¬ (9223372036854775807 : Nat) < o.size + 5 := by omega
            have s2 : ¬ (9223372036854775807 : Nat) < o.size + 5 + qp.size := by omega
            have s3 : ¬ (9223372036854775807 : Nat) < o.size + 5 + qp.size + 1 := by omega
            have s4 : ¬ (9223372036854775807 : Nat) < o.size + 5 + qp.size + 1 + qr.size := by omega
            have s5 : ¬ (9223372036854775807 : Nat) < o.size + 5 + qp.size + 1 + qr.size + 1 := by omega
            have s6 : ¬ (9223372036854775807 : Nat) < o.size + 5 + qp.size + 1 + qr.size + 1 + qa.size := by omega
            have s7 : ¬ (9223372036854775807 : Nat) < o.size + 5 + qp.size + 1 + qr.size + 1 + qa.size + 1 := by omega
            have HW3 := Lib.hid hW3
            have HJ1 := Lib.hid (show j + 1 ≤ fn ∧ True from ⟨hlt2, trivial⟩)
            clear hV hz hC hC2 hcell hst hf hF13 hW3 hb3 hqp hqr hqa lp lr la hos HG
            go_upto_region 17 with fail
            rw [← HW3.out]
            clear z0 z1 z2 z3 d0 d1
            obtain ⟨k0, k1, k2, k3⟩ := HGF.out W3 (Below.refl _ _)
            have HD3 := Lib.hid (show Below W3.heap.size W3 W3.drew from (Below.refl _ W3).drew)
            go_cut [5] from 62 to 78 (fun s5 wx => s5 = .string (o ++ ⟨#[102, 117, 110, 99, 32]⟩ ++ qp ++ ⟨#[32]⟩ ++ qr ++ ⟨#[32]⟩ ++ qa ++ ⟨#[10]⟩) ∧ Below W3.heap.size W3 wx)
            case first =>
              clear hj2 hl hfl hlt hlt2 hj hjl hi j0 i0
              go_region_held3 (fun W => W.cell? ⟨wr.heap.size, 0, none⟩ = some (.int .i64 p) ∧ W.cell? ⟨wr.heap.size, 1, none⟩ = some (.int .i64 r) ∧ W.cell? ⟨wr.heap.size, 2, none⟩ = some (.int .i64 a))
                (first | with_reducible exact ⟨(HGF.out _ HM3.out).1, (HGF.out _ HM3.out).2.1, (HGF.out _ HM3.out).2.2.1⟩ | with_reducible exact ⟨(HGF.out _ HM2.out).1, (HGF.out _ HM2.out).2.1, (HGF.out _ HM2.out).2.2.1⟩ | with_reducible exact ⟨(HGF.out _ HM1.out).1, (HGF.out _ HM1.out).2.1, (HGF.out _ HM1.out).2.2.1⟩ | go_keep)
                (first
                  | (go_at_call 28; (with_reducible refine (HCP.out _).mono ?_); rintro e w6 ⟨rfl, hb⟩; have HM1 := Lib.hid (HD3.out.trans (hb.mono HD3.out.size)); clear hb)
                  | (go_at_call 28; (with_reducible refine (HCR.out _).mono ?_); rintro e w7 ⟨rfl, hb⟩; have HM2 := Lib.hid (HM1.out.trans (hb.mono HM1.out.size)); clear hb)
                  | (go_at_call 28; (with_reducible refine (HCA.out _).mono ?_); rintro e w8 ⟨rfl, hb⟩; have HM3 := Lib.hid (HM2.out.trans (hb.mono HM2.out.size)); clear hb))
              all_goals
                go_wp2
                go_meet
                case rel => exact ⟨rfl, HM3.out⟩
            case rest =>
              obtain ⟨rfl, hb4⟩ := hcut
              have HB4 := Lib.hid hb4
              obtain ⟨-, -, -, k4⟩ := HGF.out _ hb4
              obtain ⟨ln, hln⟩ : ∃ ln, ln = l.length := ⟨_, rfl⟩
              have HLL := Lib.hid hln
              rw [← hln] at HGF HCD HLN k4
              clear hb4 hln k0 k1 k2 k3 s1 s2 s3 s4 s5 s6 s7 HCP HCR HCA
              go_wp2
              go_loopw [5, 9] (fun v5 v9 wr => ∃ (t : Nat) (pre : List Int) (o : ByteArray), t ≤ ln ∧ v9 = .int .i64 t ∧ v5 = .string o ∧ Hid (o = strOfNums pre ∧ pre ++ ((l.drop t).flatMap insP13 ++ (fs.drop (j + 1)).flatMap textF) = T ∧ Below W3.heap.size W3 wr)) (fun _ v9 _ => ln - (intOf v9).toNat)
              case atStart => exact ⟨0, _, _, Nat.zero_le _, rfl, rfl, Lib.hid ⟨HNEW.out, HEQ.out, HB4.out⟩⟩
              case round =>
                clear HNEW HEQ HB4 k4
                obtain ⟨t, pre2, o2, ht, rfl, rfl, HK⟩ := hrel
                have t0 : (0 : Int) ≤ (t : Int) := by omega
                have ht2 : t ≤ 1000 := by have := HLN.out; omega
                obtain ⟨-, -, -, k4⟩ := HGF.out _ HK.out.2.2
                by_cases hlt3 : t < ln
                · have htl : t < l.length := by rw [← HLL.out]; exact hlt3
                  obtain ⟨cb, co, cc, hV, _, _, hcl⟩ := (HCD.out _ HK.out.2.2).plain (by omega)
                  have hA : CA = some ⟨cb, co, none⟩ := by injection hV
                  subst hA
                  obtain ⟨X, hX, hcx⟩ := hcl t htl
                  have hst := code_drop htl
                  obtain ⟨⟨op, a1, b1, c1, n1, args⟩, hy⟩ : ∃ y, y = l.getD t .zero := ⟨_, rfl⟩
                  rw [← hy] at hX hcx hst
                  have hIns : Ins13 ⟨op, a1, b1, c1, n1, args⟩ := by
                    rw [hy, List.getD, List.getElem?_eq_getElem htl]
                    exact HIN.out _ (List.getElem_mem htl)
                  have hX2 : IsNums .i64 _ _ X args := hX
                  have y0 := hcx 0 (by omega)
                  have y1 := hcx 1 (by omega)
                  have y2 := hcx 2 (by omega)
                  have y3 := hcx 3 (by omega)
                  have y4 := hcx 4 (by omega)
                  have y5 := hcx 5 (by omega)
                  obtain ⟨XA, xc, hXe⟩ := hX2.len
                  subst hXe
                  simp only [insCell, Nat.add_zero] at y0 y1 y2 y3 y4 y5
                  have hok := chk_ok hIns.chk
                  have hrin := rins13_any op a1 b1 c1 n1 _ args _ hX2 ⟨hIns.bd.a, hIns.bd.b, hIns.bd.c, hIns.bd.n⟩ hIns.args (by have h := hok.args; have h2 : args.length ≤ _ := h; omega)
                  obtain ⟨ij, hij⟩ : ∃ ij, ij = strOfNums (insT ⟨op, a1, b1, c1, n1, args⟩) := ⟨_, rfl⟩
                  rw [← hij] at hrin
                  have HRI := Lib.hid hrin
                  have HEQ : Hid ((pre2 ++ insP13 ⟨op, a1, b1, c1, n1, args⟩) ++ ((l.drop (t + 1)).flatMap insP13 ++ (fs.drop (j + 1)).flatMap textF) = T) := Lib.hid (by
                    have h := HK.out.2.1
                    rw [hst] at h
                    rw [← h]
                    simp only [List.append_assoc])
                  have hsz := pre_le HEQ.out HT0.out
                  have hos : o2.size + ij.size ≤ 400000 := by
                    rw [HK.out.1, hij, strOfNums_size, strOfNums_size]
                    unfold insP13 at hsz
                    simp only [List.length_append] at hsz
                    omega
                  have HNEW : Hid (o2 ++ ⟨#[32, 32]⟩ ++ ij ++ ⟨#[10]⟩ = strOfNums (pre2 ++ insP13 ⟨op, a1, b1, c1, n1, args⟩)) := Lib.hid (by
                    rw [HK.out.1, hij, show (⟨#[32, 32]⟩ : ByteArray) = strOfNums [32, 32] by decide, show (⟨#[10]⟩ : ByteArray) = strOfNums [10] by decide]
                    unfold insP13
                    simp only [← str_app, List.append_assoc])
                  have HBK := Lib.hid HK.out.2.2
                  have HT3 := Lib.hid (show t + 1 ≤ ln ∧ True from ⟨hlt3, trivial⟩)
                  have s1 : ¬ (9223372036854775807 : Int) < (o2.size : Int) + 2 := by omega
                  have s2 : ¬ (9223372036854775807 : Int) < (o2.size : Int) + 2 + (ij.size : Int) := by omega
                  have s3 : ¬ (9223372036854775807 : Int) < (o2.size : Int) + 2 + (ij.size : Int) + 1 := by omega
                  clear hV hcl hX hX2 hcx hst hy hIns hok hrin hij hsz hos HK
                  go_wp2_with (go_at_call 16; (with_reducible refine (HRI.out).mono ?_); rintro e w9 ⟨rfl, hb⟩; have HB9 := Lib.hid (HBK.out.trans (hb.mono HBK.out.size)); clear hb)
                  go_roundw
                  case rel => exact ⟨t + 1, _, _, HT3.out.1, by go_num, rfl, Lib.hid ⟨HNEW.out, HEQ.out, HB9.out⟩⟩
                  case measure => have := HT3.out.1; simp [intOf]; omega
                · obtain rfl : t = ln := by omega
                  have HK2 : Hid (pre2 ++ (fs.drop (j + 1)).flatMap textF = T) := Lib.hid (by
                    have h := HK.out.2.1
                    rw [show l.drop t = [] from List.drop_eq_nil_of_le (by rw [← HLL.out]; exact Nat.le_refl _)] at h
                    simpa using h)
                  have HK1 := Lib.hid HK.out.1
                  have HK3 := Lib.hid (HW3B.out.trans (HK.out.2.2.mono HW3B.out.size))
                  clear HK
                  go_wp2
                  go_roundw
                  case rel => exact ⟨j + 1, pre2, o2, HJ1.out.1, by go_num, rfl, Lib.hid ⟨HK1.out, HK2.out, HK3.out⟩⟩
                  case measure => have := HJ1.out.1; simp [intOf]; omega
          · obtain rfl : j = fn := by omega
            have HEND : Hid (o = strOfNums T) := Lib.hid (by
              have h := HG.out.2.1
              rw [show fs.drop j = [] from List.drop_eq_nil_of_le (by rw [← HFNL.out]; exact Nat.le_refl _)] at h
              rw [HG.out.1, ← h]
              simp)
            have HBE : Hid (Below w.heap.size w wr) := Lib.hid (HB0.out.trans (HG.out.2.2.mono HB0.out.size))
            have hoe := HEND.out
            subst hoe
            clear HG
            go_wp2
            go_ret2
            exact ⟨by rw [HPT.out]; first | done | rfl, HBE.out⟩
  · have heb : (er != 0) = true := by simp [he]
    have HPT : Hid (putT data fs = ByteArray.empty) := Lib.hid (by unfold putT; rw [if_neg (by rw [← HER.out]; exact he)]; rfl)
    rw [HPT.out]
    clear HT HFD HER
    go_enter Tryz.func12, Tryz.ntmps12
    go_wp2_with (go_at_call 27; rw [← HW0.out]; (with_reducible refine (HCK.out _ (Below.refl _ _)).mono ?_); rintro e w1 ⟨rfl, hb⟩; have HB1 := Lib.hid (HB0.out.trans (hb.mono HB0.out.size)); clear hb)
    go_ret2
    exact ⟨rfl, HB1.out⟩
end Go.Proofs.YtohlifeenhaifaaGreatDoor
