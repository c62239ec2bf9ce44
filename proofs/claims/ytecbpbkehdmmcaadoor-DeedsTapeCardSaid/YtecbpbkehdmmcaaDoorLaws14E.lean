/- DeedsScript's call: what a tape answers to any calls, one behind the other. No condition but that what came in is as its types say, and that the library's variables hold what its text lays. -/
import Derived.Test.YtecbpbkehdmmcaaDoorPair14
import Derived.Test.YtecbpbkehdmmcaaDoorLaws14B
import Derived.Test.YtecbpbkehdmmcaaDoorOpen14
import Derived.Deep.CutRange
import Derived.Deep.RegionHeld3
namespace Go.Proofs.YtecbpbkehdmmcaaDoor
open Go.RowKit Go.Shelf
set_option linter.unusedVariables false
set_option linter.unusedSimpArgs false

theorem IsBools14.rows {w : World} {B n : Nat} {V : Value} {r : Nat → Bool} (h : IsBools14 w B V n r) : ∃ A cap, V = .slice A n cap ∧ n ≤ cap + n ∧ ∀ i, i < n → ∃ b o, A = some ⟨b, o, none⟩ ∧ b < B ∧ n ≤ cap ∧ w.cell? ⟨b, o + i, none⟩ = some (.bool (r i)) := by
  rcases h.2 with ⟨rfl, a, cap, h⟩ | ⟨b, off, cap, h, h1, h2, h3⟩
  · exact ⟨a, cap, h, by omega, fun i hi => by omega⟩
  · exact ⟨_, cap, h, by omega, fun i hi => ⟨b, off, rfl, h2, h1, h3 i hi⟩⟩
theorem IsInts14.rows {w : World} {B : Nat} {V : Value} {zs : List Int} (h : IsInts14 w B V zs) : ∃ A cap, V = .slice A zs.length cap ∧ ∀ i, i < zs.length → ∃ b o, A = some ⟨b, o, none⟩ ∧ b < B ∧ zs.length ≤ cap ∧ w.cell? ⟨b, o + i, none⟩ = some (.int .i64 (zs.getD i 0)) := by
  rcases h.2.2 with ⟨h0, a, cap, h⟩ | ⟨b, off, cap, h, h1, h2, h3⟩
  · exact ⟨a, cap, by rw [h0]; exact h, fun i hi => by omega⟩
  · exact ⟨_, cap, h, fun i hi => ⟨b, off, rfl, h2, h1, h3 i hi⟩⟩
theorem drop_cons14 {xs : List Int} {k : Nat} (h : k < xs.length) : xs.drop k = xs.getD k 0 :: xs.drop (k + 1) := by
  rw [List.drop_eq_getElem_cons h, List.getD_eq_getElem?_getD, List.getElem?_eq_getElem h]; rfl
theorem drop_nil14 {xs : List Int} {k : Nat} (h : ¬ k < xs.length) : xs.drop k = [] := List.drop_eq_nil_of_le (by omega)
set_option maxRecDepth 100000 in
set_option maxHeartbeats 20000000 in
theorem script14 (X : Value) (xs : List Int) (PV : Value) (np : Nat) (r : Nat → Bool) (ZV : Value) (zs : List Int) (w : World) (hX : IsBytes w w.heap.size X xs) (hb : xs.length ≤ 140737488351232) (hP : IsBools14 w w.heap.size PV np r) (hZ : IsInts14 w w.heap.size ZV zs) (hE : Env14 w) :
    Calls Tryd.prog 3 #[X, PV, ZV] w (Makes w (.bool true)) := by
  have HX := Lib.hid hX
  have HAW : Hid (∀ W, Below w.heap.size w W → Calls Tryd.prog 11 #[] W (Makes W (.bool true))) := Lib.hid (fun W hb => awake14 W (hE.grow hb))
  have HL := Lib.hid (lent_any X xs w hX (by omega))
  have HN : Hid (∀ (g : Nat) (W : World), Lent W g xs → Calls Tryd.prog 10 #[.slice (some ⟨g, 0, none⟩) xs.length (xs.length + 3)] W (NewTape W xs [])) := Lib.hid (fun g W hl => new14 _ xs W (hl.bytes hX.1 (by unfold maxLen; omega) hl.lt (by omega)) (by omega))
  have HK : Hid (∀ (w1 W : World) (tb rb g : Nat), St14 w w1 W tb rb g X xs → Calls Tryd.prog 12 #[.slice (some ⟨g, 0, none⟩) xs.length (xs.length + 3), X] W fun e w' => e = .returned (.bool true) ∧ Below W.heap.size W w') := Lib.hid (fun w1 W tb rb g h => kept_yes X xs g W _ h.lent (hX.below h.bel (Nat.le_refl _)) (by omega))
  have HO : Hid (∀ (w1 W : World) (tb rb g : Nat), St14 w w1 W tb rb g X xs → Calls Tryd.prog 13 #[.slice (some ⟨g, 0, none⟩) xs.length (xs.length + 3)] W fun e w' => e = .returned (.tuple #[]) ∧ Pr14 w w' tb rb X xs xs [] 0 []) := Lib.hid (fun w1 W tb rb g h => by
    obtain ⟨C, hrow⟩ := lent_row14 h.lent
    refine (over_row14 g xs.length (xs.length + 3) _ W C hrow (by simp) (by
      intro x hx
      rcases List.mem_append.1 hx with h | h
      · exact hX.1 x h
      · simp at h; omega) (by omega) (by omega)).mono ?_
    rintro e w' ⟨rfl, hb⟩
    exact ⟨rfl, h.over hX hb⟩)
  obtain ⟨PA, pcap, rfl, -, hp⟩ := hP.rows
  obtain ⟨ZA, zcap, rfl, hz⟩ := hZ.rows
  have HP := Lib.hid hp
  have HZ := Lib.hid hz
  have hpm := hP.1
  have hzm := hZ.1
  unfold maxLen at hpm hzm
  obtain ⟨XA, xcap, rfl⟩ := hX.len
  clear hX hP hZ hE hp hz
  generalize hn : xs.length = n at *
  generalize hm : zs.length = m at *
  have HXN := Lib.hid hn
  have HZM := Lib.hid hm
  clear hn hm
  by_cases hn2 : n ≤ 2000
  · have d1 : ¬ (2000 : Int) < (n : Int) := by omega
    by_cases hm2 : m ≤ 200
    · have d2 : ¬ (200 : Int) < (m : Int) := by omega
      go_enter Tryd.func3, Tryd.ntmps3
      go_wp2_with (first
        | (go_at_call 9; (with_reducible refine HL.out.mono ?_); rintro e w1 ⟨g, he, hg, hl, hb1⟩; subst he; have G := Lib.hid hg; have LN := Lib.hid hl; have B1 := Lib.hid hb1; rw [HXN.out]; clear hg hl hb1)
        | (go_at_call 10; (with_reducible refine (HN.out _ _ LN.out).mono ?_); rintro e w2 ⟨tb, TX, TV, rfl, h1, hT, hb2⟩; have HS := Lib.hid (st_new14 (Y := .slice XA n xcap) B1.out G.out LN.out h1 hT hb2 rfl); clear h1 hT hb2)
        | (go_at_call 12; (with_reducible refine (HK.out _ _ _ _ _ HS.out).mono ?_); rintro e w4 ⟨rfl, hb⟩; have HS4 := Lib.hid (HS.out.grow hb); clear hb)
        | (go_at_call 13; (with_reducible refine (HO.out _ _ _ _ _ HS4.out).mono ?_); rintro e w5 ⟨rfl, hp⟩; have H5 := Lib.hid hp; clear hp HS HS4))
      generalize hrb : w2.heap.size = rb at *
      clear hrb HL HN HK HO
      go_loopw [10, 11, 12, 13, 14, 15, 16] (fun v10 _ _ _ _ _ _ wr => ∃ (i k : Nat) (L : List (Int × Int)), v10 = .int .i64 i ∧ i ≤ m ∧ L.length = i ∧ Hid (Pr14 w wr tb rb (.slice XA n xcap) xs (xs.drop k) L k L)) (fun v10 _ _ _ _ _ _ _ => m - (intOf v10).toNat)
      case atStart => exact ⟨0, 0, [], rfl, by omega, rfl, H5⟩
      case round =>
        obtain ⟨i, k, L, rfl, hi, hL, PR⟩ := hrel
        clear H5
        by_cases hlt : i < m
        · obtain ⟨zb, zo, hze, hzb, hzc, hzl⟩ := HZ.out i hlt
          subst hze
          have cz : wr.cell? ⟨zb, zo + i, none⟩ = some (.int .i64 (zs.getD i 0)) := (PR.out.bel.cell (p := ⟨zb, zo + i, none⟩) hzb).trans hzl
          generalize zs.getD i 0 = z at *
          clear hzl
          have i0 : (0 : Int) ≤ (i : Int) := by omega
          have i1 : (i : Int) < (m : Int) := by omega
          have hL2 := Lib.hid hL
          have HLL : L.length < 100000 := by omega
          obtain ⟨pv, hpv⟩ : ∃ pv : Bool, pv = (decide (i < np) && r i) := ⟨_, rfl⟩
          have HPV := Lib.hid hpv
          clear hpv
          go_upto_region 13 with fail
          go_cut [56] from 41 to 124 (fun s56 wx => s56 = .bool pv ∧ wx = wr)
          case first =>
            by_cases hq : i < np
            · obtain ⟨pb, po, hpe, hpb, hpc, hpl⟩ := HP.out i hq
              subst hpe
              have cp : wr.cell? ⟨pb, po + i, none⟩ = some (.bool (r i)) := (PR.out.bel.cell (p := ⟨pb, po + i, none⟩) hpb).trans hpl
              have i2 : (i : Int) < (np : Int) := by omega
              have hpv : pv = r i := by rw [HPV.out]; simp [hq]
              rw [← hpv] at cp
              clear hpl hpv
              go_wp2
              go_meet
              case rel => exact ⟨rfl, rfl⟩
            · have i2 : ¬ (i : Int) < (np : Int) := by omega
              have hpv : pv = false := by rw [HPV.out]; simp [hq]
              subst hpv
              go_wp2
              go_meet
              case rel => exact ⟨rfl, rfl⟩
          case rest =>
            obtain ⟨rfl, rfl⟩ := hcut
            have HIM := Lib.hid hlt
            go_upto_if 56 with fail
            go_cut [11, 12, 13, 14] from 41 to 124 (fun s11 s12 s13 s14 wx => ∃ (k' : Nat) (L' : List (Int × Int)), L'.length = i + 1 ∧ Hid (Pr14 w wx tb rb (.slice XA n xcap) xs (xs.drop k') L' k' L'))
            case first =>
              cases pv
              · by_cases hk : k < n
                · have hk' : k < xs.length := by rw [HXN.out]; exact hk
                  have PR1 := Lib.hid PR.out
                  have HG : Hid (∀ W, Pr14 w W tb rb (.slice XA n xcap) xs (xs.drop k) L k L → Calls Tryd.prog 16 #[.pointer (some ⟨tb, 0, none⟩)] W (PrDone w tb rb (.tuple #[.int .i64 (xs.getD k 0), .int .i64 0]) (.slice XA n xcap) xs (xs.drop (k + 1)) (L ++ [(1, xs.getD k 0)]) k L)) := Lib.hid (fun W h => by rw [drop_cons14 hk'] at h; exact pr_more h HLL)
                  have HR : Hid (∀ W, Pr14 w W tb rb (.slice XA n xcap) xs (xs.drop (k + 1)) (L ++ [(1, xs.getD k 0)]) k L → Calls Tryd.prog 17 #[.pointer (some ⟨rb, 0, none⟩)] W (PrDone w tb rb (.tuple #[.int .i64 (xs.getD k 0), .int .i64 0]) (.slice XA n xcap) xs (xs.drop (k + 1)) (L ++ [(1, xs.getD k 0)]) (k + 1) (L ++ [(1, xs.getD k 0)]))) := Lib.hid (fun W h => pr_rmore h HLL hk' (by rw [HXN.out]; omega))
                  clear HLL hk hk' hlt
                  generalize xs.getD k 0 = x at *
                  have xx : (x != x) = false := by simp
                  go_wp2_with (first
                    | (go_at_call 16; (with_reducible refine (HG.out _ PR1.out).mono ?_); rintro e w6 ⟨rfl, hp⟩; have P6 := Lib.hid hp; clear hp)
                    | (go_at_call 17; (with_reducible refine (HR.out _ P6.out).mono ?_); rintro e w7 ⟨rfl, hp⟩; have P7 := Lib.hid hp; clear hp))
                  go_meet
                  case rel => exact ⟨k + 1, _, by simp [hL2.out], P7⟩
                · have hk' : ¬ k < xs.length := by rw [HXN.out]; exact hk
                  have PR1 := Lib.hid PR.out
                  have HG : Hid (∀ W, Pr14 w W tb rb (.slice XA n xcap) xs (xs.drop k) L k L → Calls Tryd.prog 16 #[.pointer (some ⟨tb, 0, none⟩)] W (PrDone w tb rb (.tuple #[.int .i64 (-1), .int .i64 0]) (.slice XA n xcap) xs (xs.drop k) (L ++ [(1, -1)]) k L)) := Lib.hid (fun W h => by rw [drop_nil14 hk'] at h ⊢; exact pr_end h HLL)
                  have HR : Hid (∀ W, Pr14 w W tb rb (.slice XA n xcap) xs (xs.drop k) (L ++ [(1, -1)]) k L → Calls Tryd.prog 17 #[.pointer (some ⟨rb, 0, none⟩)] W (PrDone w tb rb (.tuple #[.int .i64 (-1), .int .i64 0]) (.slice XA n xcap) xs (xs.drop k) (L ++ [(1, -1)]) k (L ++ [(1, -1)]))) := Lib.hid (fun W h => pr_rend h HLL hk' (by rw [HXN.out]; omega))
                  clear HLL hk hk' hlt
                  go_wp2_with (first
                    | (go_at_call 16; (with_reducible refine (HG.out _ PR1.out).mono ?_); rintro e w6 ⟨rfl, hp⟩; have P6 := Lib.hid hp; clear hp)
                    | (go_at_call 17; (with_reducible refine (HR.out _ P6.out).mono ?_); rintro e w7 ⟨rfl, hp⟩; have P7 := Lib.hid hp; clear hp))
                  go_meet
                  case rel => exact ⟨k, _, by simp [hL2.out], P7⟩
              · have HPU : Hid (∀ W, Pr14 w W tb rb (.slice XA n xcap) xs (xs.drop k) L k L → Calls Tryd.prog 14 #[.pointer (some ⟨tb, 0, none⟩), .int .i64 z] W (PrDone w tb rb (.int .i64 0) (.slice XA n xcap) xs (xs.drop k) (L ++ [(2, z % 256)]) k L)) := Lib.hid (fun W h => pr_put h HLL z)
                have HRP : Hid (∀ W, Pr14 w W tb rb (.slice XA n xcap) xs (xs.drop k) (L ++ [(2, z % 256)]) k L → Calls Tryd.prog 15 #[.pointer (some ⟨rb, 0, none⟩), .int .i64 z] W (PrDone w tb rb (.int .i64 0) (.slice XA n xcap) xs (xs.drop k) (L ++ [(2, z % 256)]) k (L ++ [(2, z % 256)]))) := Lib.hid (fun W h => pr_rput h HLL z)
                have PR1 := Lib.hid (PR.out.grow (Below.refl _ _).drew)
                have CZ : Hid (∀ W, Below w.heap.size w W → W.cell? ⟨zb, zo + i, none⟩ = some (.int .i64 z)) := Lib.hid (fun W hb => (hb.cell (p := ⟨zb, zo + i, none⟩) hzb).trans (by rw [← cz]; exact ((PR.out.bel.cell (p := ⟨zb, zo + i, none⟩) hzb)).symm))
                clear HLL
                go_wp2
                go_region_held3 (fun W => W.cell? ⟨zb, zo + i, none⟩ = some (.int .i64 z))
                  (first | with_reducible exact CZ.out _ P7.out.bel | with_reducible exact CZ.out _ P6.out.bel | with_reducible exact CZ.out _ PR1.out.bel | go_keep)
                  (first
                    | (go_at_call 14; (with_reducible refine (HPU.out _ PR1.out).mono ?_); rintro e w6 ⟨rfl, hp⟩; have P6 := Lib.hid hp; clear hp)
                    | (go_at_call 15; (with_reducible refine (HRP.out _ P6.out).mono ?_); rintro e w7 ⟨rfl, hp⟩; have P7 := Lib.hid hp; clear hp))
                all_goals
                  go_wp2
                  go_meet
                  case rel => exact ⟨k, _, by simp [hL2.out], P7⟩
            case rest =>
              obtain ⟨j, N, hL', PR'⟩ := hcut
              clear PR cz hL2 hL HPV
              have hjl := PR'.out.le
              rw [HXN.out] at hjl
              have HDS : Hid (∀ W, Pr14 w W tb rb (.slice XA n xcap) xs (xs.drop j) N j N → Calls Tryd.prog 18 #[.pointer (some ⟨tb, 0, none⟩)] W (DeedsDone W N)) := Lib.hid (fun W h => pr_deeds h)
              obtain ⟨lf, hlf⟩ : ∃ lf, lf = (xs.drop j).length := ⟨_, rfl⟩
              have HLF : Hid (∀ W, Pr14 w W tb rb (.slice XA n xcap) xs (xs.drop j) N j N → Calls Tryd.prog 20 #[.pointer (some ⟨tb, 0, none⟩)] W fun e W' => e = .returned (.int .i64 lf) ∧ W = W') := Lib.hid (fun W h => by rw [hlf]; exact pr_left h)
              have hle : ((lf : Int) == IntKind.i64.wrap ((n : Int) - (j : Int))) = true := by
                have : lf = n - j := by rw [hlf, List.length_drop, HXN.out]
                rw [IntWalk.i64_in _ (by omega)]
                have h2 : (lf : Int) = (n : Int) - (j : Int) := by omega
                rw [h2]; simp
              clear hlf
              have j1 : (j : Int) ≤ (n : Int) := by omega
              have HNL := Lib.hid hL'
              clear hL'
              go_upto_region 21 with (go_at_call 18; (with_reducible refine (HDS.out _ PR'.out).mono ?_); rintro e w8 ⟨v, rfl, ho, hb⟩; obtain ⟨vA, vc, hve⟩ := owns_len14 ho; subst hve; have P8 := Lib.hid (PR'.out.grow hb); have O8 := Lib.hid ho; have B8 := Lib.hid hb; clear ho hb)
              obtain ⟨QA, qc, q0, q1, q2, hq⟩ := P8.out.cells
              have P8d := Lib.hid (P8.out.grow (Below.refl _ _).drew)
              have K8 : Hid (w8.drew.cell? ⟨rb, 0, none⟩ = some (.slice XA n xcap) ∧ w8.drew.cell? ⟨rb, 1, none⟩ = some (.int .i64 j) ∧ w8.drew.cell? ⟨rb, 2, none⟩ = some (.slice QA N.length qc)) := Lib.hid ⟨q0, q1, q2⟩
              have HSD : Hid (Calls Tryd.prog 19 #[.slice vA N.length vc, .slice QA N.length qc] w8.drew (Drew14 w8.drew (.bool true))) := Lib.hid (sameD_yes _ _ N _ _ _ ((IsDeeds.of_owns O8.out (Nat.le_refl _)).grow (Below.refl _ _).drew) (hq.grow (Below.refl _ _).drew))
              clear hq
              go_region_held3 (fun W => W.cell? ⟨rb, 0, none⟩ = some (.slice XA n xcap) ∧ W.cell? ⟨rb, 1, none⟩ = some (.int .i64 j) ∧ W.cell? ⟨rb, 2, none⟩ = some (.slice QA N.length qc))
                (first | with_reducible exact K9.out | with_reducible exact K8.out | go_keep)
                (first
                  | (go_at_call 19; (with_reducible refine HSD.out.mono ?_); rintro e w9 ⟨rfl, hw⟩; obtain ⟨qn, hw⟩ := hw; have B9 := Lib.hid ((show Below w8.heap.size w8 w8.drew from (Below.refl _ _).drew).trans (below_drewN14 hw)); have P9 := Lib.hid (P8.out.grow B9.out); have K9 : Hid (w9.cell? ⟨rb, 0, none⟩ = some (.slice XA n xcap) ∧ w9.cell? ⟨rb, 1, none⟩ = some (.int .i64 j) ∧ w9.cell? ⟨rb, 2, none⟩ = some (.slice QA N.length qc)) := Lib.hid (by subst hw; exact ⟨q0, q1, q2⟩); clear hw)
                  | (go_at_call 20; (with_reducible refine (HLF.out _ P9.out).mono ?_); rintro e w' ⟨rfl, rfl⟩))
              have O9 := Lib.hid (O8.out.but (But.of_below (R := NoBlock) B9.out) (fun _ _ h => h))
              try simp only [hle]
              clear q0 q1 q2 hle
              go_upto_region 23 with (go_at_call 21; (with_reducible refine (overD _ _ _ _ _ O9.out).mono ?_); rintro e w10 ⟨rfl, hb⟩; have P10 := Lib.hid (PR'.out.grow ((B8.out.trans (B9.out.mono B8.out.size)).trans hb)); clear hb)
              obtain ⟨QB, qd, q0, q1, q2, hq⟩ := P10.out.cells
              have P10d := Lib.hid (P10.out.grow (Below.refl _ _).drew)
              have K10 : Hid (w10.drew.cell? ⟨rb, 2, none⟩ = some (.slice QB N.length qd)) := Lib.hid q2
              have HQ := Lib.hid (hq.grow (Below.refl _ w10).drew)
              clear hq
              go_region_held3 (fun W => W.cell? ⟨rb, 2, none⟩ = some (.slice QB N.length qd))
                (first | with_reducible exact K12.out | with_reducible exact K11.out | with_reducible exact K10.out | go_keep)
                (first
                  | (go_at_call 18; (with_reducible refine (HDS.out _ P10d.out).mono ?_); rintro e w11 ⟨v, rfl, ho, hb⟩; obtain ⟨uA, uc, hve⟩ := owns_len14 ho; subst hve; have P11 := Lib.hid (P10d.out.grow hb); have O11 := Lib.hid (IsDeeds.of_owns ho (Nat.le_refl _)); have Q11 := Lib.hid (HQ.out.grow hb); have K11 : Hid (w11.cell? ⟨rb, 2, none⟩ = some (.slice QB N.length qd)) := Lib.hid ((hb.cell (p := ⟨rb, 2, none⟩) P10d.out.rlt).trans K10.out); clear ho hb)
                  | (go_at_call 19; (with_reducible refine (sameD_yes _ _ N _ _ _ O11.out Q11.out).mono ?_); rintro e w12 ⟨rfl, hw⟩; obtain ⟨qn, hw⟩ := hw; have P12 := Lib.hid (P11.out.grow (below_drewN14 hw)); have K12 : Hid (w12.cell? ⟨rb, 2, none⟩ = some (.slice QB N.length qd)) := Lib.hid (by subst hw; exact K11.out); clear hw))
              clear q0 q1 q2
              go_wp2
              go_roundw
              case rel => exact ⟨i + 1, j, N, by first | rfl | trivial | go_num, by have := HIM.out; omega, HNL.out, P12⟩
              case measure => have := HIM.out; simp [intOf]; omega
        · obtain rfl : i = m := by omega
          go_wp2_with (go_at_call 11; (with_reducible refine (HAW.out _ PR.out.bel).mono ?_); rintro e wz ⟨rfl, hb⟩; have PZ := Lib.hid (PR.out.grow hb); clear hb)
          go_ret
          exact ⟨rfl, PZ.out.bel⟩
    · have d2 : (200 : Int) < (m : Int) := by omega
      go_enter Tryd.func3, Tryd.ntmps3
      go_wp2_with (first
        | (go_at_call 9; (with_reducible refine HL.out.mono ?_); rintro e w1 ⟨g, he, hg, hl, hb1⟩; subst he; have G := Lib.hid hg; have LN := Lib.hid hl; have B1 := Lib.hid hb1; rw [HXN.out]; clear hg hl hb1)
        | (go_at_call 10; (with_reducible refine (HN.out _ _ LN.out).mono ?_); rintro e w2 ⟨tb, TX, TV, rfl, h1, hT, hb2⟩; have HS := Lib.hid (st_new14 (Y := .slice XA n xcap) B1.out G.out LN.out h1 hT hb2 rfl); clear h1 hT hb2)
        | (go_at_call 11; (with_reducible refine (HAW.out _ HS.out.bel).mono ?_); rintro e w3 ⟨rfl, hb⟩; have HS4 := Lib.hid (HS.out.grow hb); clear hb))
      go_ret
      exact ⟨rfl, HS4.out.bel⟩
  · have d1 : (2000 : Int) < (n : Int) := by omega
    go_enter Tryd.func3, Tryd.ntmps3
    go_wp2_with (first
      | (go_at_call 9; (with_reducible refine HL.out.mono ?_); rintro e w1 ⟨g, he, hg, hl, hb1⟩; subst he; have G := Lib.hid hg; have LN := Lib.hid hl; have B1 := Lib.hid hb1; rw [HXN.out]; clear hg hl hb1)
      | (go_at_call 10; (with_reducible refine (HN.out _ _ LN.out).mono ?_); rintro e w2 ⟨tb, TX, TV, rfl, h1, hT, hb2⟩; have HS := Lib.hid (st_new14 (Y := .slice XA n xcap) B1.out G.out LN.out h1 hT hb2 rfl); clear h1 hT hb2)
      | (go_at_call 11; (with_reducible refine (HAW.out _ HS.out.bel).mono ?_); rintro e w3 ⟨rfl, hb⟩; have HS4 := Lib.hid (HS.out.grow hb); clear hb))
    go_ret
    exact ⟨rfl, HS4.out.bel⟩
end Go.Proofs.YtecbpbkehdmmcaaDoor
