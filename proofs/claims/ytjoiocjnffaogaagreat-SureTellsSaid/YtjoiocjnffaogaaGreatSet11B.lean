/- The landed settled: the walk. Contract; no condition but that what follows is in rows, and what is written in words. -/
import Derived.Test.YtjoiocjnffaogaaGreatSet11
namespace Go.Proofs.YtjoiocjnffaogaaGreat
open Go.RowKit Go.Shelf
set_option linter.unusedVariables false
set_option linter.unusedSimpArgs false

theorem step_down {j yl : Nat} (h : j < yl) (e : wrap64 ((j : Int) + 1) = (j : Int) + 1) : yl - (intOf (.int .i64 (wrap64 ((j : Int) + 1)))).toNat < yl - (intOf (.int .i64 (j : Int))).toNat := by
  rw [e]
  simp [intOf]
  omega
theorem step_down2 {j yl : Nat} (h : j < yl) : yl - (intOf (.int .i64 ((j : Int) + 1))).toNat < yl - (intOf (.int .i64 (j : Int))).toNat := by
  simp [intOf]
  omega
set_option maxRecDepth 100000 in
set_option maxHeartbeats 32000000 in
theorem settled11 (base g n wb0 p : Nat) (Xs : Nat → Value) (nx : Nat → List Int) (wx : Nat → Int) (w : World) (hL : Lists base w g n Xs nx) (hW : RowAt w wb0 n 30 (wordsU fun i => wmV (wx i))) (hx : ∀ i, i < n → wx i < 64)
    (h0 : 0 < n) (hn : n ≤ 4096) (hp : p ≤ 8) (hb : ∀ i, i < n → ∀ x ∈ nx i, 0 ≤ x ∧ x < n) (h2 : ∀ i, (nx i).length ≤ 2) :
    Calls Tryz.prog 16 #[.slice (some ⟨g, 0, none⟩) n n, .slice (some ⟨wb0, 0, none⟩) n n, .int .u64 ((2 ^ p - 1 : Nat) : Int)] w (SettledDone w n p nx wx) := by
  have hnI : (n : Int) ≤ 4096 := by omega
  have HL := Lib.hid hL
  have HW := Lib.hid hW
  have HX := Lib.hid hx
  have HP := Lib.hid hp
  have HBD := Lib.hid hb
  have H2 := Lib.hid h2
  have HN := Lib.hid (And.intro h0 hn)
  -- the word that is repeated
  obtain ⟨W1, hW1⟩ : ∃ W1, W1 = w.alloc (.cells #[.int .u64 18446744073709551615] 30) := ⟨_, rfl⟩
  have hb1 : Below w.heap.size w W1 := by rw [hW1]; exact (Below.refl _ _).alloc (Nat.le_refl _) _
  have hs1 : W1.heap.size = w.heap.size + 1 := by rw [hW1]; simp
  have HRP := Lib.hid (repeat11 w.heap.size n 18446744073709551615 W1 (by rw [hW1, cell_of_row _ _ _ _ _ _ (heap_alloc_new w _)]; rfl) (by omega) h0 (by omega))
  have HB1 := Lib.hid hb1
  have HS1 := Lib.hid hs1
  obtain ⟨fm, hfm⟩ : ∃ fm, fm = 2 ^ p - 1 := ⟨_, rfl⟩
  have HFM := Lib.hid hfm
  rw [← hfm]
  have HPR := Lib.hid (fun w1 hl => predecessors11 base g n Xs nx w1 hl hn hb h2)
  have HNQ := Lib.hid (fun w2 => newQueue11 n (by omega) w2)
  clear hL hW hx hp hb h2 hb1 hs1 hfm
  go_enter Tryz.func16, Tryz.ntmps16
  go_wp2_with (first
    | (go_at_call 26; rw [← hW1]; (with_reducible refine HRP.out.mono ?_); rintro e w1 ⟨rfl, hr⟩; have HR1 := Lib.hid hr; have HBW1 := Lib.hid (HB1.out.trans (hr.bel.mono HB1.out.size)); have HL1 : Hid (Lists base w1 g n Xs nx) := Lib.hid ⟨HL.out.ge, HL.out.row.below HBW1.out HL.out.row.lt, fun i hi => Owns.below (HL.out.own i hi) HBW1.out (Nat.le_refl _)⟩; clear hr)
    | (go_at_call 27; (with_reducible refine (HPR.out w1 HL1.out).mono ?_); rintro e w2 ⟨Ys, P, rfl, hl, hb, hm, hlen⟩; have HP2 := Lib.hid hl; have HB2 := Lib.hid hb; have HM2 := Lib.hid hm; have HLE := Lib.hid hlen; clear hl hb hm hlen)
    | (go_at_call 28; (with_reducible refine (HNQ.out w2).mono ?_); rintro e w3 ⟨qb, qw, rfl, hq, hb⟩; have HQ3 := Lib.hid hq; have HB3 := Lib.hid hb; have HA := Lib.hid (add11 (k := 0) hq HN.out.1 (by have := HN.out.2; omega) (by simp)); rw [show ((0 : Nat) : Int) = 0 from rfl] at HA; clear hq hb)
    | (go_at_call 29; (with_reducible refine HA.out.mono ?_); rintro e w4 ⟨rfl, V4, Q4, hq, hb, hq4⟩; have HQ4 := Lib.hid hq; have HB4 := Lib.hid hb; have HQP := Lib.hid hq4; clear hq hb hq4))
  clear hW1
  obtain ⟨g0, hg0⟩ : ∃ g0, g0 = meas n (fun _ => 18446744073709551615) Q4 := ⟨_, rfl⟩
  have HRR : Hid (RowAt w1 (w.heap.size + 1) n 30 (wordsU fun _ => 18446744073709551615)) := Lib.hid (by have := repeat_row HR1.out; rw [HS1.out] at this; exact this)
  have HLO : Hid (w.heap.size ≤ (w.heap.size + 1) ∧ (w.heap.size + 1) < w1.heap.size ∧ w1.heap.size ≤ w2.heap.size) := Lib.hid ⟨by omega, HRR.out.lt, HB2.out.size⟩
  have HQP2 : Hid (Q4.Perm [0]) := Lib.hid (by
    rcases HQP.out with ⟨h, _⟩ | ⟨_, h⟩
    · simp at h
    · simpa using h)
  have HS4 : Hid (SetAt w w2 w4 (w.heap.size + 1) w1.heap.size w2.heap.size qb qw n (fun _ => 18446744073709551615) V4 Q4) := Lib.hid ⟨HBW1.out.trans ((HB2.out.trans (HB3.out.mono HB2.out.size)).mono HBW1.out.size |>.trans (HB4.out.mono (Nat.le_trans HBW1.out.size HB2.out.size))), ((HRR.out.below HB2.out HLO.out.2.1).below (HB3.out.mono HB2.out.size) HLO.out.2.1).below (HB4.out.mono HB2.out.size) HLO.out.2.1, fun b h1 h2 => (HB4.out.block b h2).trans (HB3.out.block b h2), HQ4.out, HLO.out⟩
  have HF4 : Hid (Fix n p nx wx (fun _ => 18446744073709551615) Q4) := Lib.hid ((Fix.start HN.out.1).perm HQP2.out)
  have HG0 := Lib.hid hg0
  clear hg0 HQP HA
  go_loopg [10] g0 (fun gk v wr => ∃ (m : Nat → Nat) (V : Value) (Q : List Int), Hid (SetAt w w2 wr (w.heap.size + 1) w1.heap.size w2.heap.size qb qw n m V Q ∧ Fix n p nx wx m Q ∧ meas n m Q ≤ gk))
  case atStart => exact ⟨_, V4, Q4, HS4.out, HF4.out, by rw [HG0.out]; exact Nat.le_refl _⟩
  case round =>
    obtain ⟨m, V, Q, HR⟩ := hrel
    obtain ⟨hS, hF, hM⟩ := HR.out
    have hql : Q.length ≤ n := len_le hF.nd hF.qb
    obtain ⟨A, cap, hv, _⟩ := out_len hS.q.own
    have c0 := hS.q.c0
    obtain ⟨L, hl⟩ : ∃ L, L = Q.length := ⟨_, rfl⟩
    have HLQ := Lib.hid hl
    rw [← hl] at hv
    by_cases hq0 : L = 0
    · subst hq0
      rw [hv] at c0
      have HQ0 : Hid (Q = []) := Lib.hid (List.eq_nil_of_length_eq_zero hl.symm)
      have HS := Lib.hid hS
      have HF := Lib.hid hF
      clear hS hF hM hql hv hl HR
      go_wp2_with (go_at_call 30; (with_reducible refine (len11 A 0 cap wr).mono ?_); rintro e w5 ⟨rfl, rfl⟩)
      go_ret
      rw [HQ0.out] at HF
      exact ⟨w.heap.size + 1, m, rfl, HLO.out.1, HS.out.row, HS.out.bel, HF.out⟩
    · have hl0 : (0 : Int) < (L : Int) := by omega
      rw [hv] at c0
      have HTK := Lib.hid (take11 hS.q hF.nd hF.qb (by omega) (by have := HN.out.2; omega) (by have := HN.out.2; omega))
      have HSQ := Lib.hid (fun ys V5 w5 (hq : QAt w2.heap.size w5 qb qw n V5 (wf ys) ys) hb => SetAt.queue hS hq hb)
      have HFQ := Lib.hid (fun (z : Nat) ys (hp : ((z : Int) :: ys).Perm Q) => hF.perm hp)
      have HMQ : Hid (∀ (z : Nat) ys, ((z : Int) :: ys).Perm Q → meas n m ((z : Int) :: ys) ≤ gk) := Lib.hid (fun z ys hp => by unfold meas; rw [hp.length_eq]; exact hM)
      clear hS hF hM hql hv hl HR hq0
      go_wp2_with (first
        | (go_at_call 30; (with_reducible refine (len11 A L cap wr).mono ?_); rintro e w5 ⟨rfl, rfl⟩)
        | (go_at_call 31; (with_reducible refine HTK.out.mono ?_); rintro e w5 ⟨z, ys, rfl, hz, hp, V5, hq, hb⟩; have hS5 := HSQ.out ys V5 w5 hq hb; have HS5 := Lib.hid hS5; have HF5 := Lib.hid (HFQ.out z ys hp); have HM5 := Lib.hid (HMQ.out z ys hp); obtain ⟨YA, Yc, hrow⟩ := lists_row (k := z) HP2.out hz; have y0 := (hrow w5 (fun b h1 h2 => hS5.pre b h1 h2)).1; have HYR := Lib.hid hrow; have HZ := Lib.hid hz; have z0 : (0 : Int) ≤ (z : Int) := (by omega); have z1 : (z : Int) < (n : Int) := (by omega); generalize hyl : (P z).length = yl at y0; have HYL := Lib.hid hyl; have HMS := Lib.hid (MaskAt.start (p := p) (wx := wx) (m := m) (z := z) (L := P z) HP.out); clear hS5 hrow hz hp hq hb hyl))
      all_goals
        first
          | (have hzb : ((z : Int) == 0) = true := by assumption
             simp only [hzb])
          | (have hzb : ((z : Int) == 0) = false := by assumption
             simp only [hzb])
          | fail
        go_loopw [11, 43] (fun vm vi wi => ∃ (j v : Nat), j ≤ yl ∧ vi = .int .i64 j ∧ vm = .int .u64 v ∧ Hid (SetAt w w2 wi (w.heap.size + 1) w1.heap.size w2.heap.size qb qw n m V5 ys ∧ MaskAt p wx m z (P z) j v)) (fun _ vi _ => yl - (intOf vi).toNat)
        case atStart =>
          have hms := HMS.out
          first
            | exact ⟨0, fm, Nat.zero_le _, rfl, rfl, HS5.out, by
                have hz : z = 0 := by have h : ((z : Int) == 0) = true := by assumption
                                      simpa using h
                rw [if_pos hz, ← HFM.out] at hms
                exact hms⟩
            | exact ⟨0, 18446744073709551615, Nat.zero_le _, rfl, rfl, HS5.out, by
                have hz : ¬ z = 0 := by have h : ((z : Int) == 0) = false := by assumption
                                        simpa using h
                rw [if_neg hz] at hms
                exact hms⟩
            | fail
        case round =>
          obtain ⟨j, v, hj, rfl, rfl, HI⟩ := hrel
          by_cases hjl : j < yl
          · have hadj : wrap64 ((j : Int) + 1) = (j : Int) + 1 := by unfold wrap64; have := HLE.out z HZ.out; have := HYL.out; omega
            have j0 : (0 : Int) ≤ (j : Int) := by omega
            have j1 : (j : Int) < (yl : Int) := by omega
            have hjl' : j < (P z).length := by rw [HYL.out]; exact hjl
            obtain ⟨b, hYA, hcj⟩ := (HYR.out wr (fun b h1 h2 => HI.out.1.pre b h1 h2)).2 j hjl'
            subst hYA
            have hmem : (P z).getD j 0 ∈ P z := by rw [List.getD, List.getElem?_eq_getElem hjl']; exact List.getElem_mem hjl'
            obtain ⟨a, han, ha, _⟩ := (HM2.out z HZ.out _).1 hmem
            rw [ha] at hcj
            have a0 : (0 : Int) ≤ (a : Int) := by omega
            have a1 : (a : Int) < (n : Int) := by omega
            have hma := HI.out.1.row.cell han
            have hwa := (HW.out.below HI.out.1.bel HW.out.lt).cell han
            unfold wordsU at hma hwa
            dsimp only at hma hwa
            have hlm := HF5.out.wd a han
            have hlw := wmV_lt (HX.out a han)
            have hlo : (m a ||| wmV (wx a)) < 18446744073709551616 := Nat.or_lt_two_pow (n := 64) hlm hlw
            have fO := u64_or_nat (m a) (wmV (wx a)) hlm hlw
            have HCO := Lib.hid (fun W => common11 v (m a ||| wmV (wx a)) HI.out.2.wd hlo W)
            have HNX := Lib.hid (HI.out.2.next ha)
            generalize (m a ||| wmV (wx a)) = oa at *
            generalize m a = ma at *
            generalize wmV (wx a) = wa at *
            have HJ := Lib.hid hjl
            clear hjl hjl' hmem ha han hlm hlw hlo
            go_wp2
            go_quiet ((go_at_call 32; with_reducible exact quiet_same (HCO.out _)))
            go_wp2
            go_roundw
            case rel => exact ⟨j + 1, _, by have := HJ.out; omega, by go_num, rfl, HI.out.1.drewN _, HNX.out⟩
            case measure => exact step_down HJ.out hadj
          · obtain rfl : j = yl := by omega
            have hzl := HZ.out
            have hvd := HI.out.2.wd
            have HVB := Lib.hid (MaskAt.done (n := n) (nx := nx) (by rw [HYL.out]; exact HI.out.2) (HM2.out z hzl))
            have hsp := HI.out.1.put z v
            have HSP := Lib.hid hsp
            have m1 := HI.out.1.row.cell hzl
            unfold wordsU at m1
            have m2 := HI.out.1.row.frozen z
            obtain ⟨XA, Xc, hxr⟩ := lists_row (k := z) HL.out hzl
            have n1 := (hxr wr (fun b _ h => HI.out.1.bel.block b h)).1
            have n2 := (hxr _ (fun b _ h => hsp.bel.block b h)).1
            have HXR := Lib.hid hxr
            obtain ⟨xl, hxl⟩ : ∃ xl, xl = (nx z).length := ⟨_, rfl⟩
            have HXL := Lib.hid hxl
            rw [← hxl] at n1 n2
            have xl2 : xl ≤ 2 := by rw [hxl]; exact H2.out z
            have HMI0 := Lib.hid (Mid.start (v := v) HF5.out)
            generalize m z = mz at m1
            clear hxr hxl hsp
            go_wp2
            go_loopw [68] (fun vi wi => ∃ (j : Nat) (R : List Int) (V' : Value), j ≤ xl ∧ vi = .int .i64 j ∧ Hid (SetAt w w2 wi (w.heap.size + 1) w1.heap.size w2.heap.size qb qw n (putM m z v) V' R ∧ Mid n p nx wx m ys z v j R)) (fun vi _ => xl - (intOf vi).toNat)
            case atStart => exact ⟨0, ys, V5, Nat.zero_le _, rfl, HSP.out, HMI0.out⟩
            case round =>
              clear m1 m2 n1 n2
              obtain ⟨j, R, V', hj, rfl, HJ⟩ := hrel
              by_cases hjl : j < xl
              · have hadj : wrap64 ((j : Int) + 1) = (j : Int) + 1 := by unfold wrap64; omega
                have j0 : (0 : Int) ≤ (j : Int) := by omega
                have j1 : (j : Int) < (xl : Int) := by omega
                have hjl' : j < (nx z).length := by rw [← HXL.out]; exact hjl
                obtain ⟨b, hXA, hcj⟩ := (HXR.out wr (fun b _ h => HJ.out.1.bel.block b h)).2 j hjl'
                subst hXA
                have hmem : (nx z).getD j 0 ∈ nx z := by rw [List.getD, List.getElem?_eq_getElem hjl']; exact List.getElem_mem hjl'
                have hfb := HBD.out z hzl _ hmem
                obtain ⟨f, hf⟩ : ∃ f : Nat, (nx z).getD j 0 = f := ⟨((nx z).getD j 0).toNat, by omega⟩
                have hfk : (nx z)[j]? = some (f : Int) := by rw [← hf, List.getD, List.getElem?_eq_getElem hjl']; rfl
                rw [hf] at hcj hfb
                have a0 : (0 : Int) ≤ (f : Int) := by omega
                have a1 : (f : Int) < (n : Int) := hfb.2
                have hfn : f < n := by omega
                have hma := HJ.out.1.row.cell hfn
                have hwa := (HW.out.below HJ.out.1.bel HW.out.lt).cell hzl
                unfold wordsU at hma hwa
                dsimp only at hma hwa
                have hlm : putM m z v f < 18446744073709551616 := by
                  unfold putM
                  split
                  · exact hvd
                  · exact HF5.out.wd f hfn
                have hlw := wmV_lt (HX.out z hzl)
                have hlo : (v ||| wmV (wx z)) < 18446744073709551616 := Nat.or_lt_two_pow (n := 64) hvd hlw
                have fO := u64_or_nat v (wmV (wx z)) hvd hlw
                have HCO := Lib.hid (fun W => common11 (putM m z v f) (v ||| wmV (wx z)) hlm hlo W)
                have hrl : R.length ≤ n := len_le HJ.out.2.nd HJ.out.2.qb
                have HAD := Lib.hid (fun q => add11 (k := f) (HJ.out.1.drewN q).q hfn (by have := HN.out.2; omega) (by have := HN.out.2; omega))
                have HJL := Lib.hid hjl
                by_cases hc : (putM m z v f &&& (v ||| wmV (wx z))) = putM m z v f
                · have HNX : Hid (Mid n p nx wx m ys z v (j + 1) R) := Lib.hid (HJ.out.2.keep hfk (.inr fun r hr hbt => by rw [putM_same]; exact and_eq hc hbt))
                  rw [hc] at HCO
                  generalize (v ||| wmV (wx z)) = oa at *
                  generalize putM m z v f = ma at *
                  generalize wmV (wx z) = wa at *
                  clear hjl hjl' hmem hf hfk hfn hlm hlw hlo hc hrl HAD hfb
                  go_wp2
                  go_quiet ((go_at_call 32; with_reducible exact quiet_same (HCO.out _)))
                  go_wp2
                  go_roundw
                  case rel => exact ⟨j + 1, R, V', HJL.out, by go_num, HJ.out.1.drewN _, HNX.out⟩
                  case measure => first | exact step_down HJL.out hadj | exact step_down2 HJL.out
                · have HNX : Hid (∀ R6, (((f : Int) ∈ R ∧ R6 = R) ∨ ((f : Int) ∉ R ∧ R6.Perm (R ++ [(f : Int)]))) → Mid n p nx wx m ys z v (j + 1) R6) := Lib.hid (fun R6 hr => by
                    rcases hr with ⟨h1, rfl⟩ | ⟨h1, h3⟩
                    · exact HJ.out.2.keep hfk (.inl h1)
                    · obtain ⟨r, hr, hb1, hb2⟩ := and_ne hlm hlo hc
                      exact (HJ.out.2.add HF5.out hzl hfk hfn h1 ⟨r, hr, fun hk => by
                        have := hk hb1
                        rw [putM_same, hb2] at this
                        cases this⟩).perm h3)
                  generalize hce : (putM m z v f &&& (v ||| wmV (wx z))) = ce at *
                  generalize (v ||| wmV (wx z)) = oa at *
                  generalize putM m z v f = ma at *
                  generalize wmV (wx z) = wa at *
                  have t1 : ((ce : Int) != (ma : Int)) = true := by simp; omega
                  have t2 : (ce != ma) = true := by simpa using hc
                  clear hjl hjl' hmem hf hfk hfn hlm hlw hlo hc hrl hce hfb
                  go_wp2
                  go_quiet ((go_at_call 32; with_reducible exact quiet_same (HCO.out _)))
                  go_wp2_with (go_at_call 29; (with_reducible refine (HAD.out _).mono ?_); rintro e w6 ⟨rfl, V6, R6, hq, hb6, hr6⟩; have HS6 := Lib.hid ((HJ.out.1.drewN _).queue hq hb6); have HN6 := Lib.hid (HNX.out R6 hr6); clear hq hb6 hr6)
                  go_roundw
                  case rel => exact ⟨j + 1, R6, V6, HJL.out, by go_num, HS6.out, HN6.out⟩
                  case measure => first | exact step_down HJL.out hadj | exact step_down2 HJL.out
              · obtain rfl : j = xl := by omega
                have hd := Mid.done (by rw [← HXL.out]; exact HJ.out.2) HF5.out hzl hvd HVB.out
                have HD := Lib.hid hd
                have HMG := Lib.hid (show meas n (putM m z v) R + 1 ≤ gk from Nat.le_trans hd.2 HM5.out)
                clear hd
                go_wp2
                go_roundg (gk - 1)
                case measure => have := HMG.out; omega
                case rel => exact ⟨putM m z v, V', R, HJ.out.1, HD.out.1, by have := HMG.out; omega⟩
end Go.Proofs.YtjoiocjnffaogaaGreat
