/- The landed blocks and Blocks. Contracts; no condition but what each names. -/
import Derived.Test.YtgoedemibdkpdaaGreatBlk10
namespace Go.Proofs.YtgoedemibdkpdaaGreat
open Go.RowKit
set_option linter.unusedVariables false
set_option linter.unusedSimpArgs false

theorem addr_zero (b k : Nat) : (⟨b, 0, none⟩ : Addr).add k = ⟨b, k, none⟩ := by unfold Addr.add; split <;> simp_all
def BlkDone (w : World) (l : List InsV) (e : Ending) (w' : World) : Prop :=
  Below w.heap.size w w' ∧ ∃ V Xs, e = .returned V ∧ OwnK w.heap.size w' V (blksV l) Xs
/-- An append of one number to numbers of which nothing more is known. -/
theorem wpList_outA {W : World} {ops : Array Oper} {rest : List Oper} {o : Oper} {a : Act} {Q : Exit → Act → World → Prop} (hgd : o.guard = none) (s x : Operand)
    (ho : o.op = .call { callee := .builtin .append, args := #[s, x], argTypes := #[32, 32] }) {V : Value} {xs : List Int} {z : Int} {base : Nat} (hs : a.eval s = V) (hx : a.eval x = .slice (some ⟨W.heap.size, 0, none⟩) 1 1) (h : W.ownsRow base 3 1 V xs.length (xs.map (Value.int .i64)))
    (hb : base ≤ W.heap.size) (hl : xs.length ≤ 1000000)
    (hK : ∀ V' W', Owns W' base 3 1 AnyCell V' (xs ++ [z]).length ((xs ++ [z]).map (Value.int .i64)) → Below base W W' → wpList Tryz.prog ops Q rest (a.put o.dst V') W') :
    wpList Tryz.prog ops Q (o :: rest) a (W.alloc (.cells #[.int .i64 z] 3)) := by
  obtain ⟨i, hi, h1, h2, h3⟩ := info_parts int_info
  have ha : Below W.heap.size W (W.alloc (.cells #[.int .i64 z] 3)) := (Below.refl W.heap.size W).alloc (Nat.le_refl _) (.cells #[.int .i64 z] 3)
  have h0 : Owns W base 3 1 AnyCell V xs.length (xs.map (Value.int .i64)) := ⟨h, fun _ _ _ _ _ _ _ _ => trivial⟩
  have hg := Owns.below h0 ha (Nat.le_refl _)
  refine wpList_append_q _ hgd s x 32 ho base 3 i _ 1 8 Tryz.underlying32 hi h1 h2 h3 rfl (by decide) AnyCell (fun _ _ => trivial) V xs.length (xs.map (Value.int .i64)) hs hg ⟨W.heap.size, 0, none⟩ 1 1 [.int .i64 z] hx rfl (news_one _ _ _) (by intro u hu; simp at hu; subst hu; rfl) (fun _ _ => trivial) (by unfold maxLen; omega) (by omega) (by simp; omega) ?_
  intro V' W' ho' hg'
  have e : World.grownBy (W.alloc (.cells #[.int .i64 z] 3)) W' V.ownBlock := hg'
  exact hK V' W' (by rw [List.length_append, List.map_append]; exact ho') ((ha.mono hb).grown e (by simp; omega) fun j hj => (h0.lt hj).1)
/-- What blocks has in memory within a block. -/
structure InBlk (wr wi : World) (bx : Nat) (fr to : Int) (NX : Value) (xs : List Int) : Prop where
  box : wi.heap[bx]? = some (.cells #[.int .i64 fr, .int .i64 to, NX] 34 (0, 0))
  bel : Below wr.heap.size wr wi
  own : OutN wr.heap.size wi NX xs
theorem InBlk.cells {wr wi : World} {bx : Nat} {fr to : Int} {NX : Value} {xs : List Int} (h : InBlk wr wi bx fr to NX xs) : wi.cell? ⟨bx, 0, none⟩ = some (.int .i64 fr) ∧ wi.cell? ⟨bx, 1, none⟩ = some (.int .i64 to) ∧ wi.cell? ⟨bx, 2, none⟩ = some NX ∧ wi.frozen? ⟨bx, 2, none⟩ = false :=
  ⟨by rw [cell_of_row _ _ _ _ _ _ h.box]; rfl, by rw [cell_of_row _ _ _ _ _ _ h.box]; rfl, by rw [cell_of_row _ _ _ _ _ _ h.box]; rfl, frozen_of_row _ _ _ _ _ h.box⟩
theorem InBlk.ne {wr wi : World} {bx : Nat} {fr to : Int} {NX V : Value} {xs ys : List Int} {b2 : Nat} (h : InBlk wr wi bx fr to NX xs) (ho : OutN b2 wi V ys) : ¬ OwnB V bx := by
  intro hg
  obtain ⟨c1, h1⟩ := ho.typed hg
  rw [h.box] at h1
  injection h1 with h1
  injection h1 with _ h1 _
  exact absurd h1 (by decide)
theorem InBlk.lay {wr W : World} {bx : Nat} {fr to : Int} {NX V' : Value} {ys : List Int} (hx : W.heap[bx]? = some (.cells #[.int .i64 fr, .int .i64 to, NX] 34 (0, 0))) (hb : Below wr.heap.size wr W) (hbx : wr.heap.size ≤ bx) (ho : OutN wr.heap.size W V' ys) : InBlk wr (W.setCell ⟨bx, 2, none⟩ V') bx fr to V' ys := by
  have hne : ¬ OwnB V' bx := fun hg => by
    obtain ⟨c1, h1⟩ := ho.typed hg
    rw [hx] at h1
    injection h1 with h1
    injection h1 with _ h1 _
    exact absurd h1 (by decide)
  exact ⟨heap_setCell_same W bx 2 _ _ V' hx, hb.setCell (p := ⟨bx, 2, none⟩) hbx _, ho.but ((But.refl (OneBlock bx) W).setCell (p := ⟨bx, 2, none⟩) (.inl rfl) _) (fun g hg e => hne (by rw [show g = bx from e] at hg; exact hg))⟩
theorem InBlk.mid {wr wi W : World} {bx : Nat} {fr to : Int} {NX V' : Value} {xs ys : List Int} (h : InBlk wr wi bx fr to NX xs) (hs : wr.heap.size ≤ wi.heap.size) (hb : But (OwnB NX) wi W) (ho : OutN wr.heap.size W V' ys) :
    W.heap[bx]? = some (.cells #[.int .i64 fr, .int .i64 to, NX] 34 (0, 0)) ∧ Below wr.heap.size wr W :=
  ⟨hb.heap h.box (h.ne h.own), own_below h.bel h.own hb (Nat.le_refl _)⟩
set_option maxRecDepth 100000 in
set_option maxHeartbeats 16000000 in
theorem blocks_any (V : Value) (l : List InsV) (g : Nat) (Xs : Nat → Value) (w : World) (hG : Good10 l) (hV : OutN 0 w V (leadI l)) (hL : Lists 0 w g l.length Xs (nextV l)) (hln : l.length ≤ 4096) :
    Calls Tryz.prog 19 #[V, .slice (some ⟨g, 0, none⟩) l.length l.length] w (BlkDone w l) := by
  obtain ⟨r, hr⟩ := leadI_cons hG.pos
  have hv : V ≠ .slice none 0 0 := fun e => by
    subst e
    rcases hV.1.2 with ⟨_, h0⟩ | ⟨_, _, _, h0, _⟩
    · rw [hr] at h0; simp at h0
    · cases h0
  obtain ⟨bg, bc, cur, rfl, _, hbl, hcur, hb1, hb2, hb3, hb4, hb5⟩ := hV.parts hv
  have hnum := IsNums.of_owns hV (Nat.le_refl _)
  obtain ⟨m, hm⟩ : ∃ m, m = (leadI l).length := ⟨_, rfl⟩
  have hm0 : 0 < m := by rw [hm, hr]; simp
  have hmn : m ≤ l.length := by rw [hm]; exact leadI_length l
  have HNU := Lib.hid hnum
  have HL := Lib.hid hL
  have HG := Lib.hid hG
  have HM := Lib.hid hm
  have HR := Lib.hid hr
  rw [← hm] at hb1 HNU ⊢
  obtain ⟨n, hn⟩ : ∃ n, n = l.length := ⟨_, rfl⟩
  have HN := Lib.hid hn
  rw [← hn] at hmn hln HL ⊢
  have HBC := Lib.hid (And.intro hb1 hb2)
  have i1 : (n : Int) ≤ 4096 := by omega
  have i2 : (1 : Int) ≤ (m : Int) := by omega
  have i3 : (m : Int) ≤ (bc : Int) := by omega
  clear hV hv hcur hb3 hb4 hb5 hnum hr hL hG hb1 hb2 hm hn
  obtain ⟨d, hd⟩ : ∃ d, d = m - 1 := ⟨_, rfl⟩
  have hdl : ((leadI l).drop 1).length = d := by rw [List.length_drop, ← HM.out, hd]
  have hcells : ∀ j, j < ((leadI l).drop 1).length → w.cell? ⟨bg, 1 + j, none⟩ = some (.int .i64 (((leadI l).drop 1).getD j 0)) := fun j hj => by
    rcases HNU.out.2 with ⟨h0, _⟩ | ⟨ad, cap, h0, _, _, h4⟩
    · cases h0
    · simp only [Value.slice.injEq, Option.some.injEq] at h0
      obtain ⟨rfl, _, _⟩ := h0
      rw [hdl] at hj
      have := h4 (1 + j) (by rw [← HM.out]; omega)
      have e := addr_zero bg (1 + j)
      rw [e] at this
      rw [this]
      congr 2
      simp [List.getD, Nat.add_comm]
  have hca := Tryz.slices_Clone_int bg 1 d (bc - 1) ((leadI l).drop 1) w (by rw [hdl]; exact Nat.le_refl _) (by omega) hcells
  rw [← hdl, List.take_length] at hca
  rw [hdl] at hca
  have HCA := Lib.hid hca
  have HCB : Hid (d = 0 → Calls Tryz.prog 34 #[.slice (some ⟨bg, 0, none⟩) 0 0] w fun e w' => ∃ v', e = .returned v' ∧ w'.ownsRow w.heap.size 3 1 v' d (((leadI l).drop 1).map (Value.int .i64)) ∧ v' ≠ .slice none 0 0 ∧ Below w.heap.size w w') := Lib.hid (fun h0 => by
    have e : (leadI l).drop 1 = [] := List.eq_nil_of_length_eq_zero (by rw [hdl]; exact h0)
    rw [e, h0]
    exact Tryz.slices_Clone_int_zero ⟨bg, 0, none⟩ 0 w)
  have HDL := Lib.hid hdl
  have HLM := Lib.hid hln
  have HMN := Lib.hid (And.intro hmn hm0)
  have HEN : Hid ((leadI l).drop 1 ++ [(n : Int)] = endsV l) := Lib.hid (by rw [HN.out]; rfl)
  have HEL : Hid ((endsV l).length = m) := Lib.hid (by rw [ends_length HG.out.pos, HM.out])
  have hmd : m - 1 = d := hd.symm
  have HBL := Lib.hid hbl
  clear hdl hcells hca hd
  by_cases hbc : bc = 1
  · have HCB2 : Hid (Calls Tryz.prog 34 #[.slice (some ⟨bg, 0, none⟩) d 0] w fun e w' => ∃ v', e = .returned v' ∧ w'.ownsRow w.heap.size 3 1 v' d (((leadI l).drop 1).map (Value.int .i64)) ∧ v' ≠ .slice none 0 0 ∧ Below w.heap.size w w') := Lib.hid (by
      have h0 : d = 0 := by omega
      have := HCB.out h0
      rw [h0] at this ⊢
      exact this)
    subst hbc
    go_enter Tryz.func19, Tryz.ntmps19
    go_wp2_with (first
      | (go_at_call 34; (with_reducible refine HCB2.out.mono ?_); rintro e w1 ⟨V1, rfl, ho, _, hb⟩; have HO1 := Lib.hid ho; obtain ⟨a1, c1, h1⟩ := owns_len (K := AnyCell) ⟨ho, fun _ _ _ _ _ _ _ _ => trivial⟩; subst h1; have HB1 := Lib.hid hb; clear ho hb)
      | (at_builtin; (refine wpList_outA (W := w1) (z := (n : Int)) (xs := (leadI l).drop 1) (base := w.heap.size) rfl _ _ rfl rfl rfl (by rw [HDL.out]; exact HO1.out) HB1.out.size (by rw [HDL.out]; have := HMN.out; have := HLM.out; omega) ?_; intro V2 w2 ho hb; rw [HEN.out] at ho; have HO2 := Lib.hid ho; have HI2 := Lib.hid (IsNums.of_owns ho (Nat.le_refl _)); obtain ⟨a2, c2, h2⟩ := owns_len ho; rw [HEL.out] at h2; subst h2; have HB2 := Lib.hid (HB1.out.trans hb); clear ho hb)))
    go_loopw [5, 23] (fun out i wr => ∃ (k : Nat) (Ks : List Value), k ≤ m ∧ i = .int .i64 k ∧ Hid (OwnK w2.heap.size wr out ((blksV l).take k) Ks ∧ Below w2.heap.size w2 wr)) (fun _ i _ => m - (intOf i).toNat)
    case atStart => exact ⟨0, [], by omega, rfl, ⟨OwnK.nil _ _, Below.refl _ _⟩⟩
    case round =>
      obtain ⟨wo, rfl⟩ : ∃ wo, wo = wr := ⟨_, rfl⟩
      obtain ⟨k, Ks, hk, rfl, HQ⟩ := hrel
      obtain ⟨hok, hb⟩ := HQ.out
      have HOK := Lib.hid hok
      have HB := Lib.hid hb
      have HBW := Lib.hid (HB2.out.trans (hb.mono HB2.out.size))
      obtain ⟨oA, oc, hoe⟩ := owns_len hok.own
      have hkl0 : ((blksV l).take k).length = k := by rw [List.length_take, blksV_length, ← HM.out]; omega
      rw [hkl0] at hoe
      subst hoe
      have HKL := Lib.hid hkl0
      clear HQ hok hb hkl0
      by_cases hlt : k < m
      · have hkm : k < (leadI l).length := by rw [← HM.out]; exact hlt
        have hbd := to_bd HG.out.pos hkm
        obtain ⟨pn, hpn⟩ : ∃ pn : Nat, toV l k = (pn : Int) + 1 := ⟨(toV l k).toNat - 1, by omega⟩
        have hpnn : pn < n := by rw [HN.out]; omega
        have hnu := HNU.out.below HBW.out (Nat.le_refl _)
        have hbc0 : wo.cell? ⟨bg, k, none⟩ = some (.int .i64 (fromV l k)) := by
          rcases hnu.2 with ⟨h0, _⟩ | ⟨ad, cap, h0, _, _, h4⟩
          · cases h0
          · simp only [Value.slice.injEq, Option.some.injEq] at h0
            obtain ⟨rfl, _, _⟩ := h0
            have := h4 k hkm
            have e := addr_zero bg k
            rw [e] at this
            exact this
        have hen := HI2.out.below HB.out (Nat.le_refl _)
        obtain ⟨eb, eo, ec, hV, _, heB, hec⟩ := hen.plain (by rw [HEL.out]; omega)
        rw [HEL.out] at hV
        cases hV
        have he0 : wo.cell? ⟨eb, eo + k, none⟩ = some (.int .i64 (toV l k)) := hec k (by rw [HEL.out]; exact hlt)
        rw [hpn] at he0
        have hgl := HL.out.row.lt
        have hx9 : (wo.alloc (.cells #[.int .i64 (fromV l k), .int .i64 ((pn : Int) + 1), .slice none 0 0] 34)).cell? ⟨g, pn, none⟩ = some (Xs pn) := ((HBW.out.alloc HBW.out.size _).cell (p := ⟨g, pn, none⟩) hgl).trans (HL.out.row.cell hpnn)
        have hx0 : wo.cell? ⟨g, pn, none⟩ = some (Xs pn) := (HBW.out.cell (p := ⟨g, pn, none⟩) hgl).trans (HL.out.row.cell hpnn)
        have hxn := IsNums.of_owns (HL.out.own pn hpnn) (Nat.le_refl _)
        obtain ⟨XA, Xc, hXe⟩ := hxn.len
        have HXN := Lib.hid hxn
        have HXE := Lib.hid hXe
        rw [hXe] at hx0 hx9
        have HX2 : Hid ((nextV l pn).length ≤ 2) := Lib.hid (nextV_two l pn)
        have HBH : Hid (behindV l k = (nextV l pn).map (idxV l)) := Lib.hid (by unfold behindV; rw [hpn, show ((pn : Int) + 1).toNat - 1 = pn by omega])
        have HTK := Lib.hid (blks_take hkm)
        have HFT : Hid (blkV l k = ⟨fromV l k, (pn : Int) + 1, behindV l k⟩) := Lib.hid (by unfold blkV; rw [hpn])
        generalize fromV l k = fr at *
        have hw1 : wrap64 ((pn : Int) + 1 - 1) = (pn : Int) := by unfold wrap64; omega
        have p0 : (0 : Int) ≤ (pn : Int) := by omega
        have p1 : (pn : Int) < (n : Int) := by omega
        have k0 : (0 : Int) ≤ (k : Int) := by omega
        have k1 : (k : Int) < (m : Int) := by omega
        obtain ⟨W3, hW3⟩ : ∃ W3, W3 = wo.alloc (.cells #[.int .i64 fr, .int .i64 ((pn : Int) + 1), .slice none 0 0] 34) := ⟨_, rfl⟩
        have hib : InBlk wo W3 wo.heap.size fr ((pn : Int) + 1) (.slice none 0 0) [] := by
          rw [hW3]
          exact ⟨heap_alloc_new _ _, (Below.refl _ _).alloc (Nat.le_refl _) _, Owns.nil _ _ _ _ _⟩
        have HIB := Lib.hid hib
        rw [hW3] at HIB
        have HGL := Lib.hid hgl
        clear hbd hpn hnu hen heB hec hxn hXe hib hW3 hgl
        obtain ⟨xl, hxl⟩ : ∃ xl, xl = (nextV l pn).length := ⟨_, rfl⟩
        have HXL := Lib.hid hxl
        rw [← hxl] at hx0 hx9 HXE
        have hxl2 : (xl : Int) ≤ 2 := by have := HX2.out; omega
        clear hxl
        go_wp2
        go_loopw [41] (fun j wi => ∃ (q : Nat) (NX : Value), q ≤ xl ∧ j = .int .i64 q ∧ Hid (InBlk wo wi wo.heap.size fr ((pn : Int) + 1) NX (((nextV l pn).take q).map (idxV l)))) (fun j _ => xl - (intOf j).toNat)
        case atStart => exact ⟨0, _, by omega, rfl, HIB⟩
        case round =>
          obtain ⟨q, NX, hq, rfl, HI⟩ := hrel
          obtain ⟨y0, y1, y2, y3⟩ := HI.out.cells
          obtain ⟨NA, nc, hNe, _⟩ := out_len HI.out.own
          have hnl : (((nextV l pn).take q).map (idxV l)).length = q := by rw [List.length_map, List.length_take, ← HXL.out]; omega
          rw [hnl] at hNe
          subst hNe
          have HNL := Lib.hid hnl
          have HBI := Lib.hid (HBW.out.trans (HI.out.bel.mono HBW.out.size))
          clear hnl
          by_cases hql : q < xl
          · have hqx : q < (nextV l pn).length := by rw [← HXL.out]; exact hql
            have hxi := HXN.out.below HBI.out (Nat.le_refl _)
            obtain ⟨nb, no, nc2, hV, _, hnB, hnc⟩ := hxi.plain (by omega)
            rw [HXE.out, ← HXL.out] at hV
            cases hV
            have hx1 := hnc q hqx
            have hmem : (nextV l pn).getD q 0 ∈ nextV l pn := by simp [List.getD, List.getElem?_eq_getElem hqx]
            have hstep : ((nextV l pn).take (q + 1)).map (idxV l) = ((nextV l pn).take q).map (idxV l) ++ [idxV l ((nextV l pn).getD q 0)] := by
              rw [List.take_add_one, List.getElem?_eq_getElem hqx, List.map_append, List.getD, List.getElem?_eq_getElem hqx]
              rfl
            have HSTP := Lib.hid hstep
            have hbs : ∀ x, Calls Tryz.prog 35 #[.slice (some ⟨bg, 0, none⟩) m 1, .int .i64 x] wr fun e w' => e = .returned (.tuple #[.int .i64 (idxV l x), .bool ((leadI l).contains x)]) ∧ ∃ q, w' = wr.drewN q := fun x => by
              have hcl : ∀ j, j < (leadI l).length → wr.cell? ⟨bg, 0 + j, none⟩ = some (.int .i64 ((leadI l).getD j 0)) := fun j hj => by
                rcases (HNU.out.below HBI.out (Nat.le_refl _)).2 with ⟨h0, _⟩ | ⟨ad, cap, h0, _, _, h4⟩
                · cases h0
                · simp only [Value.slice.injEq, Option.some.injEq] at h0
                  obtain ⟨rfl, _, _⟩ := h0
                  have := h4 j hj
                  have e : (⟨bg, 0, none⟩ : Addr).add j = ⟨bg, 0 + j, none⟩ := by rw [Nat.zero_add]; exact addr_zero bg j
                  rw [e] at this
                  exact this
              have htl : (leadI l).take m = leadI l := by rw [HM.out]; exact List.take_length
              have h := Tryz.slices_BinarySearch_int bg 0 m 1 (leadI l) x wr (by rw [HM.out]; exact Nat.le_refl _) (by have := HMN.out; have := HLM.out; omega) hcl (by rw [htl]; exact (leadI_rise l).imp fun h => by omega)
              rw [htl] at h
              exact h
            have HBS := Lib.hid hbs
            generalize (nextV l pn).getD q 0 = x at *
            have q0 : (0 : Int) ≤ (q : Int) := by omega
            have q1 : (q : Int) < (xl : Int) := by omega
            clear hxi hnB hnc hmem hstep hbs hqx
            go_wp2_with (first
              | (go_at_call 35; (with_reducible refine (HBS.out x).mono ?_); rintro e w5 ⟨rfl, qd, rfl⟩; have HIq := Lib.hid (show InBlk wo (wr.drewN qd) wo.heap.size fr ((pn : Int) + 1) (.slice NA q nc) _ from ⟨HI.out.box, below_drewN HI.out.bel qd, HI.out.own.drewN qd⟩))
              | (at_builtin; (refine wpList_outW (W := wr.drewN qd) (z := idxV l x) (base := wo.heap.size) rfl (.tmp 52) (.tmp 54) rfl rfl rfl HIq.out.own HIq.out.bel.size (by rw [HNL.out]; omega) ?_; intro V6 w6 ho hb hk6 hs6 hw6; have hmid := HIq.out.mid HIq.out.bel.size (but_own hb hk6 hs6) ho; have z2 : w6.cell? ⟨wo.heap.size, 2, none⟩ = some (.slice NA q nc) := (cell_of_row _ _ _ _ _ _ hmid.1).trans rfl; have z3 := frozen_of_row _ _ 2 _ _ hmid.1; have HI6 := Lib.hid (InBlk.lay hmid.1 hmid.2 (Nat.le_refl _) ho); obtain ⟨a6, c6, h6, _⟩ := out_len ho; generalize hq6 : (_ ++ [idxV l x]).length = q6 at h6; subst h6; clear hb ho hk6 hs6 hw6 hmid hq6)))
            go_roundw
            case rel => exact ⟨q + 1, _, by omega, by go_num, by rw [HSTP.out]; exact HI6⟩
            case measure => simp [intOf]; omega
          · obtain rfl : q = xl := by omega
            have hte : (nextV l pn).take q = nextV l pn := by rw [HXL.out]; exact List.take_length
            have HTE := Lib.hid hte
            clear hte
            have HO9 : Hid (OutN w2.heap.size wr (.slice NA q nc) (behindV l k)) := Lib.hid (by have := (HI.out.own).base HB.out.size; rw [HTE.out, ← HBH.out] at this; exact this)
            have HK9 := Lib.hid (HOK.out.below HI.out.bel (Nat.le_refl _))
            have HB9 := Lib.hid (HB.out.trans (HI.out.bel.mono HB.out.size))
            have HLK := HLM.out
            go_wp2_with (at_builtin; (refine wpList_outK (W := wr) (y := ⟨fr, (pn : Int) + 1, behindV l k⟩) (X := .slice NA q nc) rfl (.tmp 58) (.tmp 60) rfl rfl rfl HK9.out HO9.out rfl HB9.out.size (by rw [HKL.out]; have := HMN.out; omega) ?_; intro V8 w8 ho hb; have HO8 := Lib.hid ho; have HB8 := Lib.hid (HB9.out.trans hb); obtain ⟨a8, c8, h8⟩ := owns_len ho.own; generalize hq8 : (_ ++ [(⟨fr, (pn : Int) + 1, behindV l k⟩ : BlkV)]).length = q8 at h8; subst h8; clear ho hb hq8))
            go_roundw
            case rel => exact ⟨k + 1, _, by omega, by go_num, ⟨by rw [HTK.out, HFT.out]; exact HO8.out, HB8.out⟩⟩
            case measure => simp [intOf]; omega
      · obtain rfl : k = m := by omega
        have hte : (blksV l).take k = blksV l := by rw [HM.out, ← blksV_length]; exact List.take_length
        have HTE := Lib.hid hte
        clear hte
        go_wp2
        go_ret
        have h := HOK.out
        rw [HTE.out] at h
        exact ⟨HBW.out, _, _, rfl, Owns.base h.own HB2.out.size, h.len, fun i hi => Owns.base (h.nums i hi) HB2.out.size⟩
  · go_enter Tryz.func19, Tryz.ntmps19
    go_wp2_with (first
      | (go_at_call 34; (with_reducible refine HCA.out.mono ?_); rintro e w1 ⟨V1, rfl, ho, _, hb⟩; have HO1 := Lib.hid ho; obtain ⟨a1, c1, h1⟩ := owns_len (K := AnyCell) ⟨ho, fun _ _ _ _ _ _ _ _ => trivial⟩; subst h1; have HB1 := Lib.hid hb; clear ho hb)
      | (at_builtin; (refine wpList_outA (W := w1) (z := (n : Int)) (xs := (leadI l).drop 1) (base := w.heap.size) rfl _ _ rfl rfl rfl (by rw [HDL.out]; exact HO1.out) HB1.out.size (by rw [HDL.out]; have := HMN.out; have := HLM.out; omega) ?_; intro V2 w2 ho hb; rw [HEN.out] at ho; have HO2 := Lib.hid ho; have HI2 := Lib.hid (IsNums.of_owns ho (Nat.le_refl _)); obtain ⟨a2, c2, h2⟩ := owns_len ho; rw [HEL.out] at h2; subst h2; have HB2 := Lib.hid (HB1.out.trans hb); clear ho hb)))
    go_loopw [5, 23] (fun out i wr => ∃ (k : Nat) (Ks : List Value), k ≤ m ∧ i = .int .i64 k ∧ Hid (OwnK w2.heap.size wr out ((blksV l).take k) Ks ∧ Below w2.heap.size w2 wr)) (fun _ i _ => m - (intOf i).toNat)
    case atStart => exact ⟨0, [], by omega, rfl, ⟨OwnK.nil _ _, Below.refl _ _⟩⟩
    case round =>
      obtain ⟨wo, rfl⟩ : ∃ wo, wo = wr := ⟨_, rfl⟩
      obtain ⟨k, Ks, hk, rfl, HQ⟩ := hrel
      obtain ⟨hok, hb⟩ := HQ.out
      have HOK := Lib.hid hok
      have HB := Lib.hid hb
      have HBW := Lib.hid (HB2.out.trans (hb.mono HB2.out.size))
      obtain ⟨oA, oc, hoe⟩ := owns_len hok.own
      have hkl0 : ((blksV l).take k).length = k := by rw [List.length_take, blksV_length, ← HM.out]; omega
      rw [hkl0] at hoe
      subst hoe
      have HKL := Lib.hid hkl0
      clear HQ hok hb hkl0
      by_cases hlt : k < m
      · have hkm : k < (leadI l).length := by rw [← HM.out]; exact hlt
        have hbd := to_bd HG.out.pos hkm
        obtain ⟨pn, hpn⟩ : ∃ pn : Nat, toV l k = (pn : Int) + 1 := ⟨(toV l k).toNat - 1, by omega⟩
        have hpnn : pn < n := by rw [HN.out]; omega
        have hnu := HNU.out.below HBW.out (Nat.le_refl _)
        have hbc0 : wo.cell? ⟨bg, k, none⟩ = some (.int .i64 (fromV l k)) := by
          rcases hnu.2 with ⟨h0, _⟩ | ⟨ad, cap, h0, _, _, h4⟩
          · cases h0
          · simp only [Value.slice.injEq, Option.some.injEq] at h0
            obtain ⟨rfl, _, _⟩ := h0
            have := h4 k hkm
            have e := addr_zero bg k
            rw [e] at this
            exact this
        have hen := HI2.out.below HB.out (Nat.le_refl _)
        obtain ⟨eb, eo, ec, hV, _, heB, hec⟩ := hen.plain (by rw [HEL.out]; omega)
        rw [HEL.out] at hV
        cases hV
        have he0 : wo.cell? ⟨eb, eo + k, none⟩ = some (.int .i64 (toV l k)) := hec k (by rw [HEL.out]; exact hlt)
        rw [hpn] at he0
        have hgl := HL.out.row.lt
        have hx9 : (wo.alloc (.cells #[.int .i64 (fromV l k), .int .i64 ((pn : Int) + 1), .slice none 0 0] 34)).cell? ⟨g, pn, none⟩ = some (Xs pn) := ((HBW.out.alloc HBW.out.size _).cell (p := ⟨g, pn, none⟩) hgl).trans (HL.out.row.cell hpnn)
        have hx0 : wo.cell? ⟨g, pn, none⟩ = some (Xs pn) := (HBW.out.cell (p := ⟨g, pn, none⟩) hgl).trans (HL.out.row.cell hpnn)
        have hxn := IsNums.of_owns (HL.out.own pn hpnn) (Nat.le_refl _)
        obtain ⟨XA, Xc, hXe⟩ := hxn.len
        have HXN := Lib.hid hxn
        have HXE := Lib.hid hXe
        rw [hXe] at hx0 hx9
        have HX2 : Hid ((nextV l pn).length ≤ 2) := Lib.hid (nextV_two l pn)
        have HBH : Hid (behindV l k = (nextV l pn).map (idxV l)) := Lib.hid (by unfold behindV; rw [hpn, show ((pn : Int) + 1).toNat - 1 = pn by omega])
        have HTK := Lib.hid (blks_take hkm)
        have HFT : Hid (blkV l k = ⟨fromV l k, (pn : Int) + 1, behindV l k⟩) := Lib.hid (by unfold blkV; rw [hpn])
        generalize fromV l k = fr at *
        have hw1 : wrap64 ((pn : Int) + 1 - 1) = (pn : Int) := by unfold wrap64; omega
        have p0 : (0 : Int) ≤ (pn : Int) := by omega
        have p1 : (pn : Int) < (n : Int) := by omega
        have k0 : (0 : Int) ≤ (k : Int) := by omega
        have k1 : (k : Int) < (m : Int) := by omega
        obtain ⟨W3, hW3⟩ : ∃ W3, W3 = wo.alloc (.cells #[.int .i64 fr, .int .i64 ((pn : Int) + 1), .slice none 0 0] 34) := ⟨_, rfl⟩
        have hib : InBlk wo W3 wo.heap.size fr ((pn : Int) + 1) (.slice none 0 0) [] := by
          rw [hW3]
          exact ⟨heap_alloc_new _ _, (Below.refl _ _).alloc (Nat.le_refl _) _, Owns.nil _ _ _ _ _⟩
        have HIB := Lib.hid hib
        rw [hW3] at HIB
        have HGL := Lib.hid hgl
        clear hbd hpn hnu hen heB hec hxn hXe hib hW3 hgl
        obtain ⟨xl, hxl⟩ : ∃ xl, xl = (nextV l pn).length := ⟨_, rfl⟩
        have HXL := Lib.hid hxl
        rw [← hxl] at hx0 hx9 HXE
        have hxl2 : (xl : Int) ≤ 2 := by have := HX2.out; omega
        clear hxl
        go_wp2
        go_loopw [41] (fun j wi => ∃ (q : Nat) (NX : Value), q ≤ xl ∧ j = .int .i64 q ∧ Hid (InBlk wo wi wo.heap.size fr ((pn : Int) + 1) NX (((nextV l pn).take q).map (idxV l)))) (fun j _ => xl - (intOf j).toNat)
        case atStart => exact ⟨0, _, by omega, rfl, HIB⟩
        case round =>
          obtain ⟨q, NX, hq, rfl, HI⟩ := hrel
          obtain ⟨y0, y1, y2, y3⟩ := HI.out.cells
          obtain ⟨NA, nc, hNe, _⟩ := out_len HI.out.own
          have hnl : (((nextV l pn).take q).map (idxV l)).length = q := by rw [List.length_map, List.length_take, ← HXL.out]; omega
          rw [hnl] at hNe
          subst hNe
          have HNL := Lib.hid hnl
          have HBI := Lib.hid (HBW.out.trans (HI.out.bel.mono HBW.out.size))
          clear hnl
          by_cases hql : q < xl
          · have hqx : q < (nextV l pn).length := by rw [← HXL.out]; exact hql
            have hxi := HXN.out.below HBI.out (Nat.le_refl _)
            obtain ⟨nb, no, nc2, hV, _, hnB, hnc⟩ := hxi.plain (by omega)
            rw [HXE.out, ← HXL.out] at hV
            cases hV
            have hx1 := hnc q hqx
            have hmem : (nextV l pn).getD q 0 ∈ nextV l pn := by simp [List.getD, List.getElem?_eq_getElem hqx]
            have hstep : ((nextV l pn).take (q + 1)).map (idxV l) = ((nextV l pn).take q).map (idxV l) ++ [idxV l ((nextV l pn).getD q 0)] := by
              rw [List.take_add_one, List.getElem?_eq_getElem hqx, List.map_append, List.getD, List.getElem?_eq_getElem hqx]
              rfl
            have HSTP := Lib.hid hstep
            have hbs : ∀ x, Calls Tryz.prog 35 #[.slice (some ⟨bg, 0, none⟩) m bc, .int .i64 x] wr fun e w' => e = .returned (.tuple #[.int .i64 (idxV l x), .bool ((leadI l).contains x)]) ∧ ∃ q, w' = wr.drewN q := fun x => by
              have hcl : ∀ j, j < (leadI l).length → wr.cell? ⟨bg, 0 + j, none⟩ = some (.int .i64 ((leadI l).getD j 0)) := fun j hj => by
                rcases (HNU.out.below HBI.out (Nat.le_refl _)).2 with ⟨h0, _⟩ | ⟨ad, cap, h0, _, _, h4⟩
                · cases h0
                · simp only [Value.slice.injEq, Option.some.injEq] at h0
                  obtain ⟨rfl, _, _⟩ := h0
                  have := h4 j hj
                  have e : (⟨bg, 0, none⟩ : Addr).add j = ⟨bg, 0 + j, none⟩ := by rw [Nat.zero_add]; exact addr_zero bg j
                  rw [e] at this
                  exact this
              have htl : (leadI l).take m = leadI l := by rw [HM.out]; exact List.take_length
              have h := Tryz.slices_BinarySearch_int bg 0 m bc (leadI l) x wr (by rw [HM.out]; exact Nat.le_refl _) (by have := HMN.out; have := HLM.out; omega) hcl (by rw [htl]; exact (leadI_rise l).imp fun h => by omega)
              rw [htl] at h
              exact h
            have HBS := Lib.hid hbs
            generalize (nextV l pn).getD q 0 = x at *
            have q0 : (0 : Int) ≤ (q : Int) := by omega
            have q1 : (q : Int) < (xl : Int) := by omega
            clear hxi hnB hnc hmem hstep hbs hqx
            go_wp2_with (first
              | (go_at_call 35; (with_reducible refine (HBS.out x).mono ?_); rintro e w5 ⟨rfl, qd, rfl⟩; have HIq := Lib.hid (show InBlk wo (wr.drewN qd) wo.heap.size fr ((pn : Int) + 1) (.slice NA q nc) _ from ⟨HI.out.box, below_drewN HI.out.bel qd, HI.out.own.drewN qd⟩))
              | (at_builtin; (refine wpList_outW (W := wr.drewN qd) (z := idxV l x) (base := wo.heap.size) rfl (.tmp 52) (.tmp 54) rfl rfl rfl HIq.out.own HIq.out.bel.size (by rw [HNL.out]; omega) ?_; intro V6 w6 ho hb hk6 hs6 hw6; have hmid := HIq.out.mid HIq.out.bel.size (but_own hb hk6 hs6) ho; have z2 : w6.cell? ⟨wo.heap.size, 2, none⟩ = some (.slice NA q nc) := (cell_of_row _ _ _ _ _ _ hmid.1).trans rfl; have z3 := frozen_of_row _ _ 2 _ _ hmid.1; have HI6 := Lib.hid (InBlk.lay hmid.1 hmid.2 (Nat.le_refl _) ho); obtain ⟨a6, c6, h6, _⟩ := out_len ho; generalize hq6 : (_ ++ [idxV l x]).length = q6 at h6; subst h6; clear hb ho hk6 hs6 hw6 hmid hq6)))
            go_roundw
            case rel => exact ⟨q + 1, _, by omega, by go_num, by rw [HSTP.out]; exact HI6⟩
            case measure => simp [intOf]; omega
          · obtain rfl : q = xl := by omega
            have hte : (nextV l pn).take q = nextV l pn := by rw [HXL.out]; exact List.take_length
            have HTE := Lib.hid hte
            clear hte
            have HO9 : Hid (OutN w2.heap.size wr (.slice NA q nc) (behindV l k)) := Lib.hid (by have := (HI.out.own).base HB.out.size; rw [HTE.out, ← HBH.out] at this; exact this)
            have HK9 := Lib.hid (HOK.out.below HI.out.bel (Nat.le_refl _))
            have HB9 := Lib.hid (HB.out.trans (HI.out.bel.mono HB.out.size))
            have HLK := HLM.out
            go_wp2_with (at_builtin; (refine wpList_outK (W := wr) (y := ⟨fr, (pn : Int) + 1, behindV l k⟩) (X := .slice NA q nc) rfl (.tmp 58) (.tmp 60) rfl rfl rfl HK9.out HO9.out rfl HB9.out.size (by rw [HKL.out]; have := HMN.out; omega) ?_; intro V8 w8 ho hb; have HO8 := Lib.hid ho; have HB8 := Lib.hid (HB9.out.trans hb); obtain ⟨a8, c8, h8⟩ := owns_len ho.own; generalize hq8 : (_ ++ [(⟨fr, (pn : Int) + 1, behindV l k⟩ : BlkV)]).length = q8 at h8; subst h8; clear ho hb hq8))
            go_roundw
            case rel => exact ⟨k + 1, _, by omega, by go_num, ⟨by rw [HTK.out, HFT.out]; exact HO8.out, HB8.out⟩⟩
            case measure => simp [intOf]; omega
      · obtain rfl : k = m := by omega
        have hte : (blksV l).take k = blksV l := by rw [HM.out, ← blksV_length]; exact List.take_length
        have HTE := Lib.hid hte
        clear hte
        go_wp2
        go_ret
        have h := HOK.out
        rw [HTE.out] at h
        exact ⟨HBW.out, _, _, rfl, Owns.base h.own HB2.out.size, h.len, fun i hi => Owns.base (h.nums i hi) HB2.out.size⟩
def BlocksN (w : World) (l : List InsV) (e : Ending) (w' : World) : Prop :=
  Below w.heap.size w w' ∧ ((check10 l ≠ 0 ∧ e = .returned (.tuple #[.slice none 0 0, .int .i64 (check10 l)])) ∨
    (check10 l = 0 ∧ ∃ V Xs, e = .returned (.tuple #[V, .int .i64 0]) ∧ OwnK w.heap.size w' V (blksV l) Xs))
theorem OwnK.low {base b' : Nat} {W : World} {V : Value} {l : List BlkV} {Xs : List Value} (h : OwnK base W V l Xs) (hb : b' ≤ base) : OwnK b' W V l Xs := ⟨Owns.base h.own hb, h.len, fun i hi => Owns.base (h.nums i hi) hb⟩
set_option maxHeartbeats 4000000 in
theorem blocks10_any (V : Value) (l : List InsV) (w : World) (h : IsCode w w.heap.size V l) : Calls Tryz.prog 7 #[V] w (BlocksN w l) := by
  have HT := Lib.hid (targets_any V l w h)
  by_cases h0 : check10 l = 0
  · have hg := good10 h0
    have HT2 := Lib.hid (HT.out.mono fun e w' hh => And.intro hh.1 (hh.2.resolve_left (fun h => h.1 h0)).2)
    have HFO := Lib.hid (fun g0 W hb hgn => followers_any V l g0 0 l.length W ((h.below hb (Nat.le_refl _) (Nat.le_refl _)).more hb.size) hgn (short10 h0))
    have HLO := Lib.hid (fun g0 W hb hgn => leaders_any V l g0 0 l.length W ((h.below hb (Nat.le_refl _) (Nat.le_refl _)).more hb.size) hgn (short10 h0) hg.pos)
    have HBO := Lib.hid (fun U g Xs W hV hL => blocks_any U l g Xs W hg hV hL (short10 h0))
    have H0 := Lib.hid h0
    have HGL : Hid ((goalsV l).length = l.length) := Lib.hid (by simp [goalsV])
    clear HT h h0 hg
    go_enter Tryz.func7, Tryz.ntmps7
    go_wp2_with (first
      | (go_at_call 18; (with_reducible refine HT2.out.mono ?_); rintro e w1 ⟨hb, g, rfl, ho⟩; have HB := Lib.hid hb; have hI := IsNums.of_owns ho (Nat.le_refl _); have HI := Lib.hid hI; clear hb ho hI)
      | (go_at_call 20; (with_reducible refine (HLO.out g w1 HB.out HI.out).mono ?_); rintro e w2 ⟨hb, U, rfl, ho⟩; have HB2 := Lib.hid (HB.out.trans (hb.mono HB.out.size)); have HI2 := Lib.hid ((HI.out.below hb (Nat.le_refl _)).more hb.size); have HU := Lib.hid (ho.base (Nat.zero_le _)); clear hb ho)
      | (go_at_call 21; (with_reducible refine (HFO.out g w2 HB2.out HI2.out).mono ?_); rintro e w3 ⟨hb, g2, Xs, rfl, hl⟩; have HB3 := Lib.hid (HB2.out.trans (hb.mono HB2.out.size)); have HL := Lib.hid (hl.base (Nat.zero_le _)); have HU3 := Lib.hid (HU.out.below hb (Nat.le_refl _)); clear hb hl)
      | (go_at_call 19; (with_reducible refine (HBO.out U g2 Xs w3 HU3.out HL.out).mono ?_); rintro e w4 ⟨hb, V4, Ks, rfl, hk⟩; have HB4 := Lib.hid (HB3.out.trans (hb.mono HB3.out.size)); have HK := Lib.hid (hk.low HB3.out.size); clear hb hk))
    go_ret2
    exact ⟨HB4.out, .inr ⟨H0.out, _, _, rfl, HK.out⟩⟩
  · have HT2 := Lib.hid (HT.out.mono fun e w' hh => And.intro hh.1 (hh.2.resolve_right (fun h => h0 h.1)).2)
    have H0 := Lib.hid h0
    have hne : (check10 l != 0) = true := by simpa using h0
    unfold BlocksN
    generalize check10 l = z at *
    clear HT h h0
    go_enter Tryz.func7, Tryz.ntmps7
    go_wp2_with (go_at_call 18; (with_reducible refine HT2.out.mono ?_); rintro e w1 ⟨hb, rfl⟩; have HB := Lib.hid hb; clear hb)
    go_ret2
    exact ⟨HB.out, .inl ⟨H0.out, rfl⟩⟩
end Go.Proofs.YtgoedemibdkpdaaGreat
