/- DeedsTape's call: what is got of a tape, in order; a tape and its copy. No condition but that what came in is as its types say, and that the library's variables hold what its text lays. -/
import Derived.Test.YtecbpbkehdmmcaaDoorTwin14
import Derived.Test.YtecbpbkehdmmcaaDoorLaws14B
import Derived.Test.YtecbpbkehdmmcaaDoorLaws14E
import Derived.Test.YtecbpbkehdmmcaaDoorTwo14
import Derived.Deep.CutRange
import Derived.Deep.RegionHeld3
namespace Go.Proofs.YtecbpbkehdmmcaaDoor
open Go.RowKit Go.Shelf
set_option linter.unusedVariables false
set_option linter.unusedSimpArgs false

def pickT (x n : Int) : Int := (x.tmod n + n).tmod n
theorem pickT_bd {x n : Int} (hn : 0 < n) : 0 ≤ pickT x n ∧ pickT x n < n := by
  unfold pickT
  have h1 : -n < x.tmod n := by
    have := Int.lt_tmod_of_pos x hn
    omega
  have h2 : 0 ≤ x.tmod n + n := by omega
  rw [Int.tmod_eq_emod_of_nonneg h2]
  exact ⟨Int.emod_nonneg _ (by omega), Int.emod_lt_of_pos _ hn⟩
theorem pickT_any (x n : Int) (w : World) (hn : 0 < n) (hn' : n ≤ 1000000) :
    Calls Tryd.prog 36 #[.int .i64 x, .int .i64 n] w fun e w' => e = .returned (.int .i64 (pickT x n)) ∧ w = w' := by
  have h1 : -n < x.tmod n := by
    have := Int.lt_tmod_of_pos x hn
    omega
  have h2 : x.tmod n < n := Int.tmod_lt_of_pos x hn
  have e : wrap64 (x.tmod n + n) = x.tmod n + n := by
    generalize x.tmod n = y at h1 h2
    unfold wrap64
    omega
  have E := Lib.hid e
  have n0 : (n == 0) = false := by simpa using (by omega : ¬ n = 0)
  clear e h1 h2
  go_enter Tryd.func36, Tryd.ntmps36
  go_wp2
  go_ret
  exact ⟨ret_int (by rw [E.out]; rfl), rfl⟩
theorem inv_start14 {xs : List Int} (h : ∀ x ∈ xs, 0 ≤ x ∧ x < 256) : InvT (xs, []) := ⟨rfl, h, fun _ x hx => by cases hx⟩
theorem inv_got14 {xs : List Int} {i : Nat} {L : List (Int × Int)} (h : InvT (xs.drop i, L)) (hk : i < xs.length) : InvT (xs.drop (i + 1), L ++ [(1, xs.getD i 0)]) := by
  have h2 := h.step (-1)
  unfold stepT at h2
  rw [if_pos (by decide), drop_cons14 hk] at h2
  exact h2
theorem inv_end14 {xs : List Int} {i : Nat} {L : List (Int × Int)} (h : InvT (xs.drop i, L)) (hk : ¬ i < xs.length) : InvT (xs.drop (i + 1), L ++ [(1, -1)]) := by
  have h2 := h.step (-1)
  unfold stepT at h2
  rw [if_pos (by decide), drop_nil14 hk] at h2
  rw [drop_nil14 (by omega)]
  exact h2
theorem fold_next14 {zs : List Int} {i : Nat} {s : List Int × List (Int × Int)} (h : i < zs.length) : (zs.take (i + 1)).foldl stepT s = stepT ((zs.take i).foldl stepT s) (zs.getD i 0) := by
  rw [List.take_succ_eq_append_getElem h, List.foldl_append, List.getD_eq_getElem?_getD, List.getElem?_eq_getElem h]; rfl
theorem fold_len14 : ∀ (zs : List Int) (s : List Int × List (Int × Int)), (zs.foldl stepT s).2.length = s.2.length + zs.length
  | [], s => rfl
  | z :: zs, s => by
    rw [List.foldl_cons, fold_len14 zs, stepT_len, List.length_cons]; omega
theorem fold_inv14 : ∀ (zs : List Int) (s : List Int × List (Int × Int)), InvT s → InvT (zs.foldl stepT s)
  | [], s, h => h
  | z :: zs, s, h => by
    rw [List.foldl_cons]; exact fold_inv14 zs _ (h.step z)
set_option maxRecDepth 100000 in
set_option maxHeartbeats 20000000 in
theorem tape14 (X : Value) (xs : List Int) (a : Int) (ZV : Value) (zs : List Int) (w : World) (hX : IsBytes w w.heap.size X xs) (hb : xs.length ≤ 140737488351232) (hZ : IsInts14 w w.heap.size ZV zs) (hE : Env14 w) :
    Calls Tryd.prog 7 #[X, .int .i64 a, ZV] w (Makes w (.bool true)) := by
  have HX := Lib.hid hX
  have HKN := Lib.hid (known14 w hE)
  have HN : Hid (∀ W, Below w.heap.size w W → Calls Tryd.prog 10 #[X] W (NewTape W xs [])) := Lib.hid (fun W hb => new14 X xs W ((hX.below hb (Nat.le_refl _)).more hb.size) (by omega))
  obtain ⟨ZA, zcap, rfl, hz⟩ := hZ.rows
  have HZ := Lib.hid hz
  have hzm := hZ.1
  unfold maxLen at hzm
  obtain ⟨XA, xcap, rfl⟩ := hX.len
  have hxc : ∀ i, i < xs.length → ∃ b o, XA = some ⟨b, o, none⟩ ∧ b < w.heap.size ∧ xs.length ≤ xcap ∧ w.cell? ⟨b, o + i, none⟩ = some (.int .u8 (xs.getD i 0)) ∧ 0 ≤ xs.getD i 0 ∧ xs.getD i 0 < 256 := by
    intro i hi
    obtain ⟨xg, xo, xc, hXe, hcp, hxb, hx⟩ := hX.plain (by omega)
    injection hXe with e1 e2 e3
    subst e1 e3
    exact ⟨xg, xo, rfl, hxb, hcp, hx i hi, (getD_bd hX.1 hi).1, (getD_bd hX.1 hi).2⟩
  have HXC := Lib.hid hxc
  have HI0 := Lib.hid (inv_start14 hX.1)
  clear hX hZ hE hz hxc
  generalize hn : xs.length = n at *
  generalize hm : zs.length = m at *
  have HXN := Lib.hid hn
  have HZM := Lib.hid hm
  clear hn hm
  by_cases hn2 : n ≤ 200
  · have d1 : ¬ (200 : Int) < (n : Int) := by omega
    by_cases hm2 : m ≤ 100
    · have d2 : ¬ (100 : Int) < (m : Int) := by omega
      have hpb := pickT_bd (x := a) (show (0 : Int) < (n : Int) + 3 by omega)
      obtain ⟨pk, hpk⟩ : ∃ pk : Nat, (pk : Int) = pickT a ((n : Int) + 3) := ⟨(pickT a ((n : Int) + 3)).toNat, by omega⟩
      have HPK : Hid (∀ W, Calls Tryd.prog 36 #[.int .i64 a, .int .i64 ((n : Int) + 3)] W fun e w' => e = .returned (.int .i64 (pk : Int)) ∧ W = w') := Lib.hid (fun W => by rw [hpk]; exact pickT_any a _ W (by omega) (by omega))
      have hpn : pk < n + 3 := by omega
      clear hpb hpk
      go_enter Tryd.func7, Tryd.ntmps7
      go_wp2_with (first
        | (go_at_call 6; (with_reducible refine HKN.out.mono ?_); rintro e w1 ⟨rfl, hb1⟩; have B1 := Lib.hid hb1; clear hb1)
        | (go_at_call 10; (with_reducible refine (HN.out _ B1.out).mono ?_); rintro e w2 ⟨tb, TX, TV, rfl, h1, hT, hb2⟩; have H2 := Lib.hid (Tp14.of_new B1.out h1 hT hb2); clear h1 hT hb2)
        | (go_at_call 36; (with_reducible refine (HPK.out _).mono ?_); rintro e w' ⟨rfl, rfl⟩))
      clear HKN HN HPK
      go_loopw [10, 11, 12] (fun v10 _ _ wr => ∃ (i : Nat) (L : List (Int × Int)), v10 = .int .i64 i ∧ i ≤ pk ∧ L.length = i ∧ Hid (Tp14 w wr tb (xs.drop i) L ∧ InvT (xs.drop i, L))) (fun v10 _ _ _ => pk - (intOf v10).toNat)
      case atStart => exact ⟨0, [], rfl, by omega, rfl, Lib.hid ⟨H2.out, HI0.out⟩⟩
      case round =>
        obtain ⟨i, L, rfl, hi, hL, HT⟩ := hrel
        clear H2
        by_cases hlt : i < pk
        · have HLL : L.length < 100000 := by omega
          have hL2 := Lib.hid hL
          have HIM := Lib.hid hlt
          have i0 : (0 : Int) ≤ (i : Int) := by omega
          have i1 : (i : Int) < (pk : Int) := by omega
          by_cases hk : i < n
          · have hk' : i < xs.length := by rw [HXN.out]; exact hk
            obtain ⟨xg, xo, hXe, hxb, hcp, hxl, x0, x1⟩ := HXC.out i hk
            subst hXe
            have HG : Hid (Calls Tryd.prog 16 #[.pointer (some ⟨tb, 0, none⟩)] wr (TpDone w tb (.tuple #[.int .i64 (xs.getD i 0), .int .i64 0]) (xs.drop (i + 1)) (L ++ [(1, xs.getD i 0)]))) := Lib.hid (by
              have h := HT.out.1
              rw [drop_cons14 hk'] at h
              exact tp_get h HLL)
            have HI := Lib.hid (inv_got14 HT.out.2 hk')
            have HXL := Lib.hid hxl
            clear HLL hL hk' hxl
            generalize xs.getD i 0 = x at *
            have xx : (x != x) = false := by simp
            have i2 : (i : Int) < (n : Int) := by omega
            have i3 : ¬ (n : Int) ≤ (i : Int) := by omega
            go_wp2_with (go_at_call 16; (with_reducible refine HG.out.mono ?_); rintro e w3 ⟨rfl, hp⟩; have H3 := Lib.hid hp; have cx : w3.cell? ⟨xg, xo + i, none⟩ = some (.int .u8 x) := (hp.bel.cell (p := ⟨xg, xo + i, none⟩) hxb).trans HXL.out; clear hp)
            go_roundw
            case rel => exact ⟨i + 1, _, by first | rfl | trivial | go_num, by have := HIM.out; omega, by simp [hL2.out], Lib.hid ⟨H3.out, HI.out⟩⟩
            case measure => have := HIM.out; simp [intOf]; omega
          · have hk' : ¬ i < xs.length := by rw [HXN.out]; exact hk
            have HG : Hid (Calls Tryd.prog 16 #[.pointer (some ⟨tb, 0, none⟩)] wr (TpDone w tb (.tuple #[.int .i64 (-1), .int .i64 0]) (xs.drop (i + 1)) (L ++ [(1, -1)]))) := Lib.hid (by
              have h := HT.out.1
              rw [drop_nil14 hk'] at h
              rw [drop_nil14 (show ¬ i + 1 < xs.length by omega)]
              exact tp_end h HLL)
            have HI := Lib.hid (inv_end14 HT.out.2 hk')
            clear HLL hL hk'
            have i2 : ¬ (i : Int) < (n : Int) := by omega
            have i3 : (n : Int) ≤ (i : Int) := by omega
            go_wp2_with (go_at_call 16; (with_reducible refine HG.out.mono ?_); rintro e w3 ⟨rfl, hp⟩; have H3 := Lib.hid hp; clear hp)
            go_roundw
            case rel => exact ⟨i + 1, _, by first | rfl | trivial | go_num, by have := HIM.out; omega, by simp [hL2.out], Lib.hid ⟨H3.out, HI.out⟩⟩
            case measure => have := HIM.out; simp [intOf]; omega
        · obtain rfl : i = pk := by omega
          have HC : Hid (Calls Tryd.prog 31 #[.pointer (some ⟨tb, 0, none⟩)] wr fun e W' => ∃ ub, e = .returned (.pointer (some ⟨ub, 0, none⟩)) ∧ Tw14 w W' tb ub (xs.drop i, L) (xs.drop i, L) (.slice none 0 0) []) := Lib.hid (tw_copy HT.out.1)
          have HIN := Lib.hid HT.out.2
          obtain ⟨s0, hs0⟩ : ∃ s0, s0 = (xs.drop i, L) := ⟨_, rfl⟩
          obtain ⟨lf, hlf⟩ : ∃ lf, lf = s0.1.length := ⟨_, rfl⟩
          have HDS : Hid (∀ W ub u r N, Tw14 w W tb ub s0 u r N → Calls Tryd.prog 18 #[.pointer (some ⟨tb, 0, none⟩)] W (DeedsDone W s0.2)) := Lib.hid (fun W ub u r N h => tw_deeds h)
          have HLF : Hid (∀ W ub u r N, Tw14 w W tb ub s0 u r N → Calls Tryd.prog 20 #[.pointer (some ⟨tb, 0, none⟩)] W fun e W' => e = .returned (.int .i64 lf) ∧ W = W') := Lib.hid (fun W ub u r N h => by rw [hlf]; exact tw_left h)
          have hmx : ((lf : Int) != max ((n : Int) - (i : Int)) 0) = false := by
            have h1 : lf = n - i := by rw [hlf, hs0, List.length_drop, HXN.out]
            have h2 : (lf : Int) = max ((n : Int) - (i : Int)) 0 := by omega
            rw [h2]; simp
          have HS2 := Lib.hid (show s0.2.length = i by rw [hs0]; exact hL)
          rw [← hs0] at HC HIN
          clear HT hs0 hlf hL HXN HXC HI0
          go_upto_region 13 with (go_at_call 31; (with_reducible refine HC.out.mono ?_); rintro e w3 ⟨ub, rfl, hp⟩; have H3 := Lib.hid hp; clear hp)
          clear HC
          go_wp2_with (first
            | (go_at_call 18; (with_reducible refine (HDS.out _ _ _ _ _ H3.out).mono ?_); rintro e w4 ⟨v, rfl, ho, hb⟩; rw [HS2.out] at ho; obtain ⟨vA, vc, hve⟩ := owns_len14 ho; subst hve; have H4 := Lib.hid (H3.out.grow hb); clear ho hb H3)
            | (go_at_call 20; (with_reducible refine (HLF.out _ _ _ _ _ H4.out).mono ?_); rintro e w' ⟨rfl, rfl⟩)
            | (go_at_call 18; (with_reducible refine (HDS.out _ _ _ _ _ H4.out).mono ?_); rintro e w5 ⟨v, rfl, ho, hb⟩; have H5 := Lib.hid (H4.out.row ho hb); obtain ⟨wA, wc, hve⟩ := owns_len14 ho; subst hve; clear ho hb H4))
          go_loopw [15] (fun v15 wr => ∃ (j : Nat), v15 = .int .i64 j ∧ j ≤ m ∧ Hid (Tw14 w wr tb ub s0 ((zs.take j).foldl stepT s0) (.slice wA s0.2.length wc) s0.2)) (fun v15 _ => m - (intOf v15).toNat)
          case atStart => exact ⟨0, rfl, by omega, H5⟩
          case round =>
            obtain ⟨j, rfl, hj, HT⟩ := hrel
            clear H5
            by_cases hlt : j < m
            · obtain ⟨zb, zo, hze, hzb, hzc, hzl⟩ := HZ.out j hlt
              subst hze
              have cz := (HT.out.bel.cell (p := ⟨zb, zo + j, none⟩) hzb).trans hzl
              have HFN : Hid ((zs.take (j + 1)).foldl stepT s0 = stepT ((zs.take j).foldl stepT s0) (zs.getD j 0)) := Lib.hid (fold_next14 (by rw [HZM.out]; exact hlt))
              have HFL : Hid (((zs.take j).foldl stepT s0).2.length < 100000) := Lib.hid (by rw [fold_len14, HS2.out, List.length_take]; omega)
              generalize zs.getD j 0 = z at *
              have j0 : (0 : Int) ≤ (j : Int) := by omega
              have j1 : (j : Int) < (m : Int) := by omega
              have HIM := Lib.hid hlt
              clear hzl
              by_cases hz0 : z < 0
              · go_wp2_with (go_at_call 16; (with_reducible refine (tw_get HT.out.swap HFL.out hz0).mono ?_); rintro e w6 ⟨⟨x, rfl⟩, hp⟩; have H6 := Lib.hid hp.swap; clear hp)
                go_roundw
                case rel => exact ⟨j + 1, by first | rfl | trivial | go_num, by have := HIM.out; omega, by rw [HFN.out]; exact H6⟩
                case measure => have := HIM.out; simp [intOf]; omega
              · have HZ0 := Lib.hid hz0
                go_wp2_with (go_at_call 14; (with_reducible refine (tw_put HT.out.swap HFL.out HZ0.out).mono ?_); rintro e w6 ⟨rfl, hp⟩; have H6 := Lib.hid hp.swap; clear hp)
                go_roundw
                case rel => exact ⟨j + 1, by first | rfl | trivial | go_num, by have := HIM.out; omega, by rw [HFN.out]; exact H6⟩
                case measure => have := HIM.out; simp [intOf]; omega
            · obtain rfl : m = j := by omega
              have HF : Hid (∃ F, F = zs.foldl stepT s0) := Lib.hid ⟨_, rfl⟩
              have hte : zs.take m = zs := List.take_of_length_le (by rw [HZM.out]; omega)
              have H7 := HT
              rw [hte] at H7
              clear HT hte
              obtain ⟨F, hF⟩ := HF.out
              rw [← hF] at H7
              have HFF := Lib.hid hF
              clear hF HF
              go_wp2_with (first
                | (go_at_call 18; (with_reducible refine (HDS.out _ _ _ _ _ H7.out).mono ?_); rintro e w8 ⟨v, rfl, ho, hb⟩; have H8 := Lib.hid (H7.out.grow hb); have O8 := Lib.hid (IsDeeds.of_owns ho (Nat.le_refl _)); obtain ⟨uA, uc, hve⟩ := owns_len14 ho; subst hve; clear ho hb)
                | (go_at_call 19; (with_reducible refine (sameD_yes _ _ s0.2 _ _ _ O8.out H8.out.told).mono ?_); rintro e w9 ⟨rfl, hw⟩; obtain ⟨qn, hw⟩ := hw; have H9 := Lib.hid (H8.out.grow (below_drewN14 hw)); clear hw)
                | (go_at_call 20; (with_reducible refine (HLF.out _ _ _ _ _ H9.out).mono ?_); rintro e w' ⟨rfl, rfl⟩))
              clear H7
              go_loopw [16] (fun v16 wr => ∃ (j : Nat), v16 = .int .i64 j ∧ j ≤ m ∧ Hid (Tw14 w wr tb ub ((zs.take j).foldl stepT s0) F (.slice wA s0.2.length wc) s0.2)) (fun v16 _ => m - (intOf v16).toNat)
              case atStart => exact ⟨0, rfl, by omega, H9⟩
              case round =>
                obtain ⟨j, rfl, hj, HT⟩ := hrel
                clear H8 H9 O8 hmx HDS HLF
                by_cases hlt : j < m
                · obtain ⟨zb, zo, hze, hzb, hzc, hzl⟩ := HZ.out j hlt
                  subst hze
                  have cz := (HT.out.bel.cell (p := ⟨zb, zo + j, none⟩) hzb).trans hzl
                  have HFN : Hid ((zs.take (j + 1)).foldl stepT s0 = stepT ((zs.take j).foldl stepT s0) (zs.getD j 0)) := Lib.hid (fold_next14 (by rw [HZM.out]; exact hlt))
                  have HFL : Hid (((zs.take j).foldl stepT s0).2.length < 100000) := Lib.hid (by rw [fold_len14, HS2.out, List.length_take]; omega)
                  generalize zs.getD j 0 = z at *
                  have j0 : (0 : Int) ≤ (j : Int) := by omega
                  have j1 : (j : Int) < (m : Int) := by omega
                  have HIM := Lib.hid hlt
                  clear hzl
                  by_cases hz0 : z < 0
                  · go_wp2_with (go_at_call 16; (with_reducible refine (tw_get HT.out HFL.out hz0).mono ?_); rintro e w6 ⟨⟨x, rfl⟩, hp⟩; have H6 := Lib.hid hp; clear hp)
                    go_roundw
                    case rel => exact ⟨j + 1, by first | rfl | trivial | go_num, by have := HIM.out; omega, by rw [HFN.out]; exact H6⟩
                    case measure => have := HIM.out; simp [intOf]; omega
                  · have HZ0 := Lib.hid hz0
                    go_wp2_with (go_at_call 14; (with_reducible refine (tw_put HT.out HFL.out HZ0.out).mono ?_); rintro e w6 ⟨rfl, hp⟩; have H6 := Lib.hid hp; clear hp)
                    go_roundw
                    case rel => exact ⟨j + 1, by first | rfl | trivial | go_num, by have := HIM.out; omega, by rw [HFN.out]; exact H6⟩
                    case measure => have := HIM.out; simp [intOf]; omega
                · obtain rfl : m = j := by omega
                  have hte : zs.take m = zs := List.take_of_length_le (by rw [HZM.out]; omega)
                  have H7 := HT
                  rw [hte, ← HFF.out] at H7
                  clear HT hte
                  have HFL : F.2.length ≤ 100000 := by rw [HFF.out, fold_len14, HS2.out, HZM.out]; omega
                  have HFI : InvT F := by rw [HFF.out]; exact fold_inv14 _ _ HIN.out
                  have HE0 := HFI.err HFL
                  have HD1 : Hid (∀ W, Tw14 w W tb ub F F (.slice wA s0.2.length wc) s0.2 → Calls Tryd.prog 18 #[.pointer (some ⟨tb, 0, none⟩)] W (DeedsDone W F.2)) := Lib.hid (fun W h => tw_deeds h)
                  have HD2 : Hid (∀ W, Tw14 w W tb ub F F (.slice wA s0.2.length wc) s0.2 → Calls Tryd.prog 18 #[.pointer (some ⟨ub, 0, none⟩)] W (DeedsDone W F.2)) := Lib.hid (fun W h => tw_deeds h.swap)
                  obtain ⟨lq, hlq⟩ : ∃ lq, lq = F.1.length := ⟨_, rfl⟩
                  have HL1 : Hid (∀ W, Tw14 w W tb ub F F (.slice wA s0.2.length wc) s0.2 → Calls Tryd.prog 20 #[.pointer (some ⟨tb, 0, none⟩)] W fun e W' => e = .returned (.int .i64 lq) ∧ W = W') := Lib.hid (fun W h => by rw [hlq]; exact tw_left h)
                  have HL2 : Hid (∀ W, Tw14 w W tb ub F F (.slice wA s0.2.length wc) s0.2 → Calls Tryd.prog 20 #[.pointer (some ⟨ub, 0, none⟩)] W fun e W' => e = .returned (.int .i64 lq) ∧ W = W') := Lib.hid (fun W h => by rw [hlq]; exact tw_left h.swap)
                  have HSM : Hid (∀ (W : World) (V V' : Value), IsDeeds W W.heap.size V F.2 → IsDeeds W W.heap.size V' F.2 → Calls Tryd.prog 27 #[.agg #[V, .int .i64 4, .int .i64 0], .agg #[V', .int .i64 4, .int .i64 0]] W (Makes W (.bool true))) := Lib.hid (fun W V V' h1 h2 => by
                    have h := same14 V V' F.2 F.2 4 0 4 0 W h1 h2
                    rw [sameO_refl14] at h
                    exact h)
                  have HCK : Hid (∀ (W : World) (V : Value), IsDeeds W W.heap.size V F.2 → Calls Tryd.prog 25 #[.agg #[V, .int .i64 4, .int .i64 0]] W (Makes W (.int .i64 0))) := Lib.hid (fun W V h1 => by
                    have h := check14 V F.2 4 0 W h1
                    rw [HE0] at h
                    exact h)
                  have gq : ((lq : Int) == (lq : Int)) = true := by simp
                  clear hlq HFL HFI HE0
                  go_upto_region 31 with fail
                  refine (show ∀ W, (W.cell? ⟨wr.heap.size, 0, none⟩ = some (.int .i64 4) ∧ W.cell? ⟨wr.heap.size, 1, none⟩ = some (.int .i64 0) ∧ wr.heap.size < W.heap.size ∧ Tw14 w W tb ub F F (.slice wA s0.2.length wc) s0.2) → Code.wp _ _ _ _ W from fun W9 h9 => ?_) _ ?_
                  rotate_left
                  · obtain ⟨c0, c1⟩ := cells2_14 (heap_alloc_new wr (.cells #[.int .i64 4, .int .i64 0] 45))
                    exact ⟨c0, c1, by simp, H7.out.grow (below_one14 wr _)⟩
                  generalize wr.heap.size = eb at *
                  obtain ⟨c0, c1, hel, hT9⟩ := h9
                  have HA := Lib.hid (hT9.grow (Below.refl _ _).drew)
                  have HEL := Lib.hid hel
                  have KA : Hid (W9.drew.cell? ⟨eb, 0, none⟩ = some (.int .i64 4) ∧ W9.drew.cell? ⟨eb, 1, none⟩ = some (.int .i64 0)) := Lib.hid ⟨c0, c1⟩
                  have KG : Hid (∀ W, Below W9.heap.size W9 W → W.cell? ⟨eb, 0, none⟩ = some (.int .i64 4) ∧ W.cell? ⟨eb, 1, none⟩ = some (.int .i64 0)) := Lib.hid (fun W hb => ⟨(hb.cell (p := ⟨eb, 0, none⟩) hel).trans c0, (hb.cell (p := ⟨eb, 1, none⟩) hel).trans c1⟩)
                  have BA := Lib.hid (show Below W9.heap.size W9 W9.drew from (Below.refl _ _).drew)
                  clear hel hT9 H7
                  go_region_held3 (fun W => W.cell? ⟨eb, 0, none⟩ = some (.int .i64 4) ∧ W.cell? ⟨eb, 1, none⟩ = some (.int .i64 0))
                    (first | with_reducible exact KG.out _ BF.out | with_reducible exact KG.out _ BE.out | with_reducible exact KG.out _ BD.out | with_reducible exact KG.out _ BC.out | with_reducible exact KG.out _ BB.out | with_reducible exact KA.out | go_keep)
                    (first
                      | (go_at_call 18; (with_reducible refine (HD1.out _ HA.out).mono ?_); rintro e wB ⟨v, rfl, ho, hb⟩; have HB := Lib.hid (HA.out.grow hb); have O1 := Lib.hid (IsDeeds.of_owns ho (Nat.le_refl _)); have BB := Lib.hid (BA.out.trans (hb.mono BA.out.size)); obtain ⟨uA, uc, hve⟩ := owns_len14 ho; subst hve; clear ho hb HA)
                      | (go_at_call 18; (with_reducible refine (HD2.out _ HB.out).mono ?_); rintro e wC ⟨v, rfl, ho, hb⟩; have HC := Lib.hid (HB.out.grow hb); have O1' := Lib.hid (O1.out.grow hb); have O2 := Lib.hid (IsDeeds.of_owns ho (Nat.le_refl _)); have BC := Lib.hid (BB.out.trans (hb.mono BB.out.size)); obtain ⟨tA, tc, hve⟩ := owns_len14 ho; subst hve; clear ho hb HB)
                      | (go_at_call 27; (with_reducible refine (HSM.out _ _ _ O1'.out O2.out).mono ?_); rintro e wD ⟨rfl, hb⟩; have HD := Lib.hid (HC.out.grow hb); have BD := Lib.hid (BC.out.trans (hb.mono BC.out.size)); clear hb HC)
                      | (go_at_call 20; (with_reducible refine (HL1.out _ HD.out).mono ?_); rintro e w' ⟨rfl, rfl⟩)
                      | (go_at_call 20; (with_reducible refine (HL2.out _ HD.out).mono ?_); rintro e w' ⟨rfl, rfl⟩)
                      | (go_at_call 18; (with_reducible refine (HD1.out _ HD.out).mono ?_); rintro e wE ⟨v, rfl, ho, hb⟩; have HE := Lib.hid (HD.out.grow hb); have O3 := Lib.hid (IsDeeds.of_owns ho (Nat.le_refl _)); have BE := Lib.hid (BD.out.trans (hb.mono BD.out.size)); obtain ⟨sA, sc, hve⟩ := owns_len14 ho; subst hve; clear ho hb)
                      | (go_at_call 25; (with_reducible refine (HCK.out _ _ O3.out).mono ?_); rintro e wF ⟨rfl, hb⟩; have HFF2 := Lib.hid (HE.out.grow hb); have BF := Lib.hid (BE.out.trans (hb.mono BE.out.size)); clear hb))
                  go_wp2
                  go_ret
                  exact ⟨by first | rfl | simp, HFF2.out.bel⟩
    · have d2 : (100 : Int) < (m : Int) := by omega
      go_enter Tryd.func7, Tryd.ntmps7
      go_wp2_with (first
        | (go_at_call 6; (with_reducible refine HKN.out.mono ?_); rintro e w1 ⟨rfl, hb1⟩; have B1 := Lib.hid hb1; clear hb1)
        | (go_at_call 10; (with_reducible refine (HN.out _ B1.out).mono ?_); rintro e w2 ⟨tb, TX, TV, rfl, h1, hT, hb2⟩; have H2 := Lib.hid (Tp14.of_new B1.out h1 hT hb2); clear h1 hT hb2))
      go_ret
      exact ⟨rfl, H2.out.bel⟩
  · have d1 : (200 : Int) < (n : Int) := by omega
    go_enter Tryd.func7, Tryd.ntmps7
    go_wp2_with (first
      | (go_at_call 6; (with_reducible refine HKN.out.mono ?_); rintro e w1 ⟨rfl, hb1⟩; have B1 := Lib.hid hb1; clear hb1)
      | (go_at_call 10; (with_reducible refine (HN.out _ B1.out).mono ?_); rintro e w2 ⟨tb, TX, TV, rfl, h1, hT, hb2⟩; have H2 := Lib.hid (Tp14.of_new B1.out h1 hT hb2); clear h1 hT hb2))
    go_ret
    exact ⟨rfl, H2.out.bel⟩
end Go.Proofs.YtecbpbkehdmmcaaDoor
