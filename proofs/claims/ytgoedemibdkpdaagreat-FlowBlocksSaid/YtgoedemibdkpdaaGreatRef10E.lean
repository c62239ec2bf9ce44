/- The document's own Blocks of layer 10. Contract; no condition but that the instructions are few. -/
import Derived.Test.YtgoedemibdkpdaaGreatRef10D
import Derived.Test.YtgoedemibdkpdaaGreatRow10
import Derived.Test.YtgoedemibdkpdaaGreatFlow10G
namespace Go.Proofs.YtgoedemibdkpdaaGreat
open Go.RowKit Go.Shelf
set_option linter.unusedVariables false
set_option linter.unusedSimpArgs false

def RBlocksN (w : World) (l : List InsV) (e : Ending) (w' : World) : Prop :=
  Below w.heap.size w w' ∧ ((check10 l ≠ 0 ∧ e = .returned (.tuple #[.slice none 0 0, .int .i64 (check10 l)])) ∨
    (check10 l = 0 ∧ ∃ V Xs, e = .returned (.tuple #[V, .int .i64 0]) ∧ OwnK w.heap.size w' V (blksV l) Xs))
/-- What the first loop has made ahead of instruction i. -/
def BkOne (w wr : World) (l : List InsV) (i : Nat) (V : Value) : Prop :=
  Below w.heap.size w wr ∧ ∃ Xs, OwnK w.heap.size wr V (blksP l i) Xs ∧ ∀ j, Xs.getD j (.slice none 0 0) = .slice none 0 0
/-- What the second loop has made ahead of block i. -/
def BkTwo (w wr : World) (l : List InsV) (i : Nat) (V : Value) : Prop :=
  Below w.heap.size w wr ∧ ∃ Xs, OwnK w.heap.size wr V (blksQ l i []) Xs ∧ ∀ j, i ≤ j → Xs.getD j (.slice none 0 0) = .slice none 0 0
theorem nil_snoc {Xs : List Value} (h : ∀ j, Xs.getD j (.slice none 0 0) = .slice none 0 0) : ∀ j, (Xs ++ [Value.slice none 0 0]).getD j (.slice none 0 0) = .slice none 0 0 := by
  intro j
  rcases Nat.lt_trichotomy j Xs.length with h1 | h1 | h1
  · have := h j
    rw [List.getD, List.getElem?_append_left h1]
    exact this
  · subst h1
    simp [List.getD]
  · rw [List.getD, List.getElem?_eq_none (by simp; omega)]
    rfl
theorem own_cellX {base g n cap i : Nat} {W : World} {l : List BlkV} {Xs : List Value} {X : Value} (h : Owns W base 34 3 AnyCell (.slice (some ⟨g, 0, none⟩) n cap) n (cellsK l (Xs.set i X))) (hX : Xs.length = l.length) (hi : i < l.length) :
    W.cell? ⟨g, i * 3 + 2, none⟩ = some X ∧ W.frozen? ⟨g, i * 3 + 2, none⟩ = false := by
  have hc := cellsK_at l (Xs.set i X) (i := i) (j := 2) (by simpa using hX) hi (by omega)
  have e2 : (Xs.set i X).getD i (.slice none 0 0) = X := by simp [List.getD, hX, hi]
  rw [e2] at hc
  have := h.1.cells (g := g) rfl (i * 3 + 2) _ hc
  have e : (⟨g, 0, none⟩ : Addr).add (i * 3 + 2) = ⟨g, i * 3 + 2, none⟩ := by unfold Addr.add; split <;> simp_all
  rw [e] at this
  refine ⟨this, ?_⟩
  rcases h.1.2 with ⟨h0, _⟩ | ⟨g', cap', cur, he, _, h2, _⟩
  · cases h0
  · simp only [Value.slice.injEq, Option.some.injEq, Addr.mk.injEq, and_true, true_and] at he
    obtain ⟨rfl, rfl⟩ := he
    exact frozen_of_row _ _ _ _ _ h2
set_option maxRecDepth 100000 in
set_option maxHeartbeats 16000000 in
theorem rBlocks10_any (A : Option Addr) (n cap : Nat) (l : List InsV) (w : World) (hn : n = l.length) (h : IsCode w w.heap.size (.slice A n cap) l) (hs : n ≤ 1000) :
    Calls Tryz.prog 8 #[.slice A n cap] w (RBlocksN w l) := by
  have HC := Lib.hid h
  have HN := Lib.hid hn
  have HCK := Lib.hid (rCheck_any A n cap l w hn h hs)
  by_cases h0 : check10 l = 0
  · have hg := good10 h0
    have HG := Lib.hid hg
    have H0 := Lib.hid h0
    have HPC := Lib.hid (fun W hc => rplaces_any A n cap l W hn hc hg.join)
    have HNX := Lib.hid (fun P W i hc hp hi => rnext10_any A n cap P l i W hn hc hp hg hi (by omega))
    have HLD := Lib.hid (fun P W i hc hp hi => rleader_any A n cap P l i W hn hc hp hi (by omega))
    have HLL : Hid (∀ i, i < n → ledB l i = leadB l i) := Lib.hid (fun i hi => led_lead hg (by omega))
    have HPL := Lib.hid (placesV_length l 0)
    rw [← hn] at HPL
    rw [h0] at HCK
    have hnp : 0 < n := by have := hg.pos; omega
    have hnI : (n : Int) ≤ 1000 := by omega
    have hml := leadI_length l
    have hmp : 0 < (leadI l).length := by obtain ⟨r, hr⟩ := leadI_cons hg.pos; rw [hr]; simp
    obtain ⟨m, hm⟩ : ∃ m, m = (leadI l).length := ⟨_, rfl⟩
    have HM := Lib.hid hm
    have HMP : Hid (0 < m) := Lib.hid (by rw [hm]; exact hmp)
    have hmn : m ≤ n := by omega
    have hmI : (m : Int) ≤ 1000 := by omega
    clear h hn hg h0 hm hml hmp
    go_enter Tryz.func8, Tryz.ntmps8
    go_wp2_with (first
      | (go_at_call 22; (with_reducible refine HCK.out.mono ?_); rintro e w1 ⟨rfl, hb⟩; have HB1 := Lib.hid hb; have HC1 := Lib.hid ((HC.out.below hb (Nat.le_refl _) (Nat.le_refl _)).more hb.size); clear hb)
      | (go_at_call 23; (with_reducible refine (HPC.out w1 HC1.out).mono ?_); rintro e w2 ⟨hb, P, rfl, ho⟩; have HB2 := Lib.hid (HB1.out.trans (hb.mono HB1.out.size)); have HP2 := Lib.hid (IsNums.of_owns ho (Nat.le_refl _)); obtain ⟨pA, pc, hpe⟩ := owns_len ho; rw [HPL.out] at hpe; subst hpe; clear hb ho))
    go_loopw [6, 7] (fun out i wr => ∃ k : Nat, k ≤ n ∧ i = .int .i64 k ∧ Hid (BkOne w2 wr l k out)) (fun _ i _ => n - (intOf i).toNat)
    case atStart => exact ⟨0, by omega, rfl, Below.refl _ _, [], OwnK.nil _ _, fun j => by simp⟩
    case round =>
      obtain ⟨k, hk, rfl, HR⟩ := hrel
      obtain ⟨hb, Xs, ho, hx⟩ := HR.out
      have HB := Lib.hid hb
      have HO := Lib.hid ho
      have HX := Lib.hid hx
      have HBW := Lib.hid (HB2.out.trans (hb.mono HB2.out.size))
      obtain ⟨oA, oc, hoe⟩ := owns_len ho.own
      rw [blksP_length] at hoe
      have hpl := leadP_len l k
      clear HR hb hx
      by_cases hlt : k < n
      · have HLK := Lib.hid (HLD.out (.slice pA n pc) wr k ((HC.out.below HBW.out (Nat.le_refl _) (Nat.le_refl _)).more HBW.out.size) ((HP2.out.below HB.out (Nat.le_refl _)).more HB.out.size) hlt)
        rw [HLL.out k hlt] at HLK
        have k0 : (0 : Int) ≤ (k : Int) := by omega
        have k1 : (k : Int) < (n : Int) := by omega
        cases hld : leadB l k with
        | true =>
          rw [hld] at HLK
          have HYS := Lib.hid (blksP_yes hld)
          have HPN : Hid ((blksP l k).length ≤ 1000) := Lib.hid (by rw [blksP_length]; omega)
          subst hoe
          generalize (leadP l k).length = p at *
          clear ho hld hpl
          go_wp2_with (first
            | (go_at_call 24; (with_reducible refine HLK.out.mono ?_); rintro e w5 ⟨rfl, hb⟩; have HB5 := Lib.hid (HB.out.trans (hb.mono HB.out.size)); have HO5 := Lib.hid (HO.out.below hb (Nat.le_refl _)); clear hb)
            | (at_builtin; (refine wpList_outK (W := w5) (y := ⟨(k : Int), (k : Int) + 1, []⟩) (X := .slice none 0 0) rfl (.tmp 29) (.tmp 34) rfl rfl rfl HO5.out (Owns.nil _ _ _ _ _) rfl HB5.out.size (by have := HPN.out; omega) ?_; intro V8 w8 ho hb; have HO8 := Lib.hid ho; have HB8 := Lib.hid (HB5.out.trans hb); obtain ⟨a8, c8, h8⟩ := owns_len ho.own; generalize hq8 : (_ ++ [(⟨(k : Int), (k : Int) + 1, []⟩ : BlkV)]).length = q8 at h8; subst h8; clear ho hb hq8)))
          go_roundw
          case rel => exact ⟨k + 1, by omega, by go_num, HB8.out, _, by rw [HYS.out]; exact HO8.out, nil_snoc HX.out⟩
          case measure => simp [intOf]; omega
        | false =>
          rw [hld] at HLK
          have hk0 : 0 < k := by
            rcases Nat.eq_zero_or_pos k with h1 | h1
            · subst h1
              rw [lead_iff.2 (.inl rfl)] at hld
              cases hld
            · exact h1
          have hpp := leadP_pos l hk0
          obtain ⟨p, hp⟩ : ∃ p, (leadP l k).length = p + 1 := ⟨(leadP l k).length - 1, by omega⟩
          have HNO := Lib.hid (blksP_no hld hp)
          have HPP : Hid (p < (blksP l k).length) := Lib.hid (by rw [blksP_length, hp]; omega)
          have HPE : Hid (p + 1 = (blksP l k).length) := Lib.hid (by rw [blksP_length, hp])
          rw [hp] at hoe
          subst hoe
          have hoA : ∃ g, oA = some ⟨g, 0, none⟩ := by
            rcases ho.own.1.2 with ⟨he, _⟩ | ⟨g, c', cur, he, _⟩
            · cases he
            · injection he with he
              exact ⟨g, he⟩
          obtain ⟨g, rfl⟩ := hoA
          have p0 : (0 : Int) ≤ (p : Int) := by omega
          have hw1 : wrap64 (((p + 1 : Nat) : Int) - 1) = (p : Int) := by unfold wrap64; omega
          have hw2 : wrap64 ((p : Int) + 1 - 1) = (p : Int) := by unfold wrap64; omega
          have pI : (p : Int) ≤ 1000 := by omega
          clear ho hld hpl hpp hp
          go_wp2_with (go_at_call 24; (with_reducible refine HLK.out.mono ?_); rintro e w5 ⟨rfl, hb⟩; have HB5 := Lib.hid (HB.out.trans (hb.mono HB.out.size)); have HO5 := Lib.hid (HO.out.below hb (Nat.le_refl _)); obtain ⟨y1, y2⟩ := ownK_cell HO5.out HPP.out; have HS5 := Lib.hid (HO5.out.setTo HPE.out HPP.out ((k : Int) + 1)); have HGE := Lib.hid (HO5.out.own.lt (g := g) (by simp [Value.ownBlock])).1; clear hb)
          go_roundw
          case rel => exact ⟨k + 1, by omega, by go_num, HB5.out.setCell (p := ⟨g, p * 3 + 1, none⟩) HGE.out _, _, by rw [HNO.out]; exact HS5.out, HX.out⟩
          case measure => simp [intOf]; omega
      · obtain rfl : k = n := by omega
        have hfst : blksP l k = blksQ l 0 [] := by rw [HN.out]; exact blksQ_first HG.out.pos
        have hlm : (leadP l k).length = m := by rw [HN.out, leadP_all, HM.out]
        rw [hlm] at hoe
        subst hoe
        have HT0 : Hid (BkTwo w2 wr l 0 (.slice oA m oc)) := Lib.hid ⟨HB.out, Xs, by rw [← hfst]; exact HO.out, fun j _ => HX.out j⟩
        clear ho hfst hlm hpl HO HX HB HBW
        have hoA : ∃ g, oA = some ⟨g, 0, none⟩ := by
          obtain ⟨_, Xs, ho, _⟩ := HT0.out
          have hlm : (blksQ l 0 []).length = m := by rw [blksQ_length, HM.out]
          rcases ho.own.1.2 with ⟨_, he⟩ | ⟨g, c', cur, he, _⟩
          · rw [hlm] at he
            have := HMP.out
            omega
          · injection he with he
            exact ⟨g, he⟩
        obtain ⟨g, rfl⟩ := hoA
        go_wp2
        go_loopw [8] (fun v wr => ∃ i : Nat, i ≤ m ∧ v = .int .i64 i ∧ Hid (BkTwo w2 wr l i (.slice (some ⟨g, 0, none⟩) m oc))) (fun v _ => m - (intOf v).toNat)
        case atStart => exact ⟨0, by omega, rfl, HT0.out⟩
        case round =>
          obtain ⟨i, hi, rfl, HR⟩ := hrel
          obtain ⟨hb, Xs, ho, hx⟩ := HR.out
          have HB := Lib.hid hb
          have HX := Lib.hid hx
          have HBW := Lib.hid (HB2.out.trans (hb.mono HB2.out.size))
          have hql : (blksQ l i []).length = m := by rw [blksQ_length, HM.out]
          have HQL := Lib.hid hql
          by_cases hlt : i < m
          · have him : i < (leadI l).length := by rw [← HM.out]; exact hlt
            obtain ⟨y1, -⟩ := ownK_cell ho (j := i) (by rw [hql]; exact hlt)
            rw [blksQ_at him] at y1
            have hbd := to_bd HG.out.pos him
            obtain ⟨pn, hpn⟩ : ∃ pn : Nat, toV l i = (pn : Int) + 1 := ⟨(toV l i).toNat - 1, by omega⟩
            have y2 : wr.cell? ⟨g, i * 3 + 1, none⟩ = some (.int .i64 ((pn : Int) + 1)) := by rw [y1]; show some (Value.int .i64 (toV l i)) = _; rw [hpn]
            have hpnn : pn < k := by rw [HN.out]; omega
            have HBH : Hid (behindV l i = (nextV l pn).map (idxV l)) := Lib.hid (by unfold behindV; rw [hpn, show ((pn : Int) + 1).toNat - 1 = pn by omega])
            have HLA : Hid (∀ x ∈ nextV l pn, x ∈ leadI l) := Lib.hid (by have := block_last HG.out him; rw [hpn, show ((pn : Int) + 1).toNat - 1 = pn by omega] at this; exact this)
            have HNK := Lib.hid (HNX.out (.slice pA k pc) wr pn ((HC.out.below HBW.out (Nat.le_refl _) (Nat.le_refl _)).more HBW.out.size) ((HP2.out.below HB.out (Nat.le_refl _)).more HB.out.size) hpnn)
            have HKW := Lib.hid ho
            have HLT := Lib.hid hlt
            have HIM := Lib.hid him
            have hw1 : wrap64 ((pn : Int) + 1 - 1) = (pn : Int) := by unfold wrap64; omega
            have k0 : (0 : Int) ≤ (i : Int) := by omega
            have k1 : (i : Int) < (m : Int) := by omega
            have pI : (pn : Int) < (k : Int) := by omega
            have xl2 := nextV_two l pn
            obtain ⟨xl, hxl⟩ : ∃ xl, xl = (nextV l pn).length := ⟨_, rfl⟩
            have HXL := Lib.hid hxl
            rw [← hxl] at xl2
            have xl3 : (xl : Int) ≤ 2 := by omega
            clear HR hb ho hx hql y1 hbd hpn him hxl
            go_wp2_with (go_at_call 25; (with_reducible refine HNK.out.mono ?_); rintro e w5 ⟨hb, N, rfl, hN⟩; have HB5 := Lib.hid (HB.out.trans (hb.mono HB.out.size)); have HK5 := Lib.hid (HKW.out.below hb (Nat.le_refl _)); have HN5 := Lib.hid hN; obtain ⟨nA, nc, hne⟩ := owns_len hN; rw [← HXL.out] at hne; subst hne; clear hb hN)
            have hst := BkIn.start HK5.out HQL.out.symm (HX.out i (Nat.le_refl _))
            have hap := OutN.apart (V := .slice nA xl nc) (g := g) (n := m) (cap := oc) (by have := HK5.out.own; rw [HQL.out] at this; exact this) HN5.out
            have HST := Lib.hid hst
            have HAP := Lib.hid hap
            have HXS : Hid (Xs.length = (blksQ l i []).length) := Lib.hid HK5.out.len
            have HIL : Hid (i < (blksQ l i []).length) := Lib.hid (by rw [HQL.out]; exact HLT.out)
            clear hst hap
            go_loopw [10] (fun v wi => ∃ (q : Nat) (X : Value), q ≤ xl ∧ v = .int .i64 q ∧ Hid (BkIn w2.heap.size w5 wi g m oc i (blksQ l i []) Xs X (((nextV l pn).take q).map (idxV l)))) (fun v _ => xl - (intOf v).toNat)
            case atStart => exact ⟨0, _, by omega, rfl, HST.out⟩
            case round =>
              obtain ⟨q, X, hq, rfl, HI⟩ := hrel
              clear y2
              have q0 : (0 : Int) ≤ (q : Int) := by omega
              by_cases hql : q < xl
              · have q1 : (q : Int) < (xl : Int) := by omega
                have hql2 : q < (nextV l pn).length := by rw [← HXL.out]; exact hql
                obtain ⟨z1, z2⟩ := own_cellX HI.out.own HXS.out HIL.out
                obtain ⟨XA, xc, hXe, _⟩ := out_len HI.out.out
                have hnl : (((nextV l pn).take q).map (idxV l)).length = q := by rw [List.length_map, List.length_take, ← HXL.out]; omega
                rw [hnl] at hXe
                subst hXe
                have HNL := Lib.hid hnl
                have hno : OutN _ wr (.slice nA xl nc) (nextV l pn) := HN5.out.but HI.out.but (fun g' hg' e => HAP.out (by rw [show g' = g from e] at hg'; exact hg'))
                obtain ⟨nb, no, nc2, hV, _, _, hnc⟩ := (IsNums.of_owns hno (Nat.le_refl _)).plain (by rw [← HXL.out]; omega)
                rw [← HXL.out] at hV
                cases hV
                have hx1 := hnc q hql2
                have hmem : (nextV l pn).getD q 0 ∈ nextV l pn := by simp [List.getD, List.getElem?_eq_getElem hql2]
                have hat := at_lead (HLA.out _ hmem)
                have hstep : ((nextV l pn).take (q + 1)).map (idxV l) = ((nextV l pn).take q).map (idxV l) ++ [idxV l ((nextV l pn).getD q 0)] := by
                  rw [List.take_add_one, List.getElem?_eq_getElem hql2, List.map_append, List.getD, List.getElem?_eq_getElem hql2]
                  rfl
                have HSTP := Lib.hid hstep
                have hrow := BkIn.row HI.out HK5.out HQL.out.symm HIL.out HB5.out.size
                rw [← blksQ_set HIM.out] at hrow
                have hbl := rblock_any _ _ ((nextV l pn).getD q 0) wr _ (hrow.blks (by rw [blksQ_length, ← HM.out]; omega))
                rw [blksQ_fr, hat] at hbl
                have HBL := Lib.hid hbl
                generalize (nextV l pn).getD q 0 = x at *
                clear hno hnc hmem hat hstep hrow hbl hnl hql2
                go_wp2_with (first
                  | (go_at_call 26; (with_reducible refine HBL.out.mono ?_); rintro e w6 ⟨rfl, hw⟩; subst hw)
                  | (at_builtin; (refine wpList_outW (W := wr) (z := idxV l x) (base := w5.heap.size) rfl (.tmp 77) (.tmp 79) rfl rfl rfl HI.out.out HI.out.but.size (by rw [HNL.out]; omega) ?_; intro V6 w6 ho hb6 hk6 hs6 hw6; have hmid := HI.out.mid (but_own hb6 hk6 hs6); obtain ⟨v1, v2⟩ := own_cellX hmid.1 HXS.out HIL.out; have HI6 := Lib.hid (BkIn.lay hmid.1 hmid.2 ho HXS.out HIL.out); obtain ⟨a6, c6, h6, _⟩ := out_len ho; generalize hq6 : (_ ++ [idxV l x]).length = q6 at h6; subst h6; clear ho hb6 hk6 hs6 hw6 hmid hq6)))
                go_roundw
                case rel => exact ⟨q + 1, _, by omega, by go_num, by rw [HSTP.out]; exact HI6.out⟩
                case measure => simp [intOf]; omega
              · obtain rfl : q = xl := by omega
                have hte : (nextV l pn).take q = nextV l pn := by rw [HXL.out]; exact List.take_length
                have hrow := BkIn.row HI.out HK5.out HQL.out.symm HIL.out HB5.out.size
                rw [← blksQ_set HIM.out, hte, ← HBH.out, blksQ_next] at hrow
                have hge := (HK5.out.own.lt (g := g) (by simp [Value.ownBlock])).1
                have HNW : Hid (BkTwo w2 wr l (i + 1) (.slice (some ⟨g, 0, none⟩) m oc)) := Lib.hid ⟨But.below HB5.out HI.out.but HB5.out.size (fun k hk => by rw [show k = g from hk]; exact hge), _, hrow, fun j hj => by
                  have := HX.out j (by omega)
                  simp only [List.getD, List.getElem?_set_ne (show i ≠ j by omega)]
                  exact this⟩
                clear hte hrow hge
                go_wp2
                go_roundw
                case rel => exact ⟨i + 1, by omega, by go_num, HNW.out⟩
                case measure => simp [intOf]; omega
          · obtain rfl : i = m := by omega
            have hlast := blksQ_last (l := l)
            rw [← HM.out] at hlast
            rw [hlast] at ho
            clear hlast
            have HO9 := Lib.hid ho
            clear HR hb ho hx hql
            go_wp2
            go_ret2
            exact ⟨HBW.out, .inr ⟨H0.out, _, _, rfl, HO9.out.low HB2.out.size⟩⟩
  · have hne : (check10 l != 0) = true := by simpa using h0
    have H0 := Lib.hid h0
    unfold RBlocksN
    generalize check10 l = z at *
    clear h hn h0
    go_enter Tryz.func8, Tryz.ntmps8
    go_wp2_with (go_at_call 22; (with_reducible refine HCK.out.mono ?_); rintro e w1 ⟨rfl, hb⟩; have HB1 := Lib.hid hb; clear hb)
    go_ret2
    exact ⟨HB1.out, .inl ⟨H0.out, rfl⟩⟩
end Go.Proofs.YtgoedemibdkpdaaGreat
