/- SureWalks: whoever goes a way has written all registers that are sure, said outright. Contract; the condition is what is named of the landed Masks and Unset (Sure11). -/
import Derived.Test.YtjoiocjnffaogaaLaws11C
import Derived.Test.YtjoiocjnffaogaaMath11D
import Derived.Test.YtjoiocjnffaogaaPick11
namespace Go.Proofs.Ytjoiocjnffaogaa
open Go.RowKit
set_option linter.unusedVariables false
set_option linter.unusedSimpArgs false

/-- A list of a row, as it is read later on. -/
theorem ls_cells11 {w : World} {g n k : Nat} {ll : Nat → List Int} (h : IsLs w w.heap.size (.slice (some ⟨g, 0, none⟩) n n) n ll) (hk : k < n) :
    ∃ XA Xc, ∀ W, Below w.heap.size w W → IsNums .i64 W W.heap.size (.slice XA (ll k).length Xc) (ll k) ∧ W.cell? ⟨g, k, none⟩ = some (.slice XA (ll k).length Xc) := by
  obtain ⟨g', o', c', hV, _, hgB, hl⟩ := h.plain (by omega)
  cases hV
  obtain ⟨X, hX, hc⟩ := hl k hk
  rw [Nat.zero_add] at hc
  obtain ⟨XA, Xc, hXe⟩ := hX.len
  subst hXe
  exact ⟨XA, Xc, fun W hb => ⟨(hX.below hb (Nat.le_refl _)).more hb.size, (hb.cell (p := ⟨g, k, none⟩) hgB).trans hc⟩⟩
set_option maxRecDepth 100000 in
set_option maxHeartbeats 32000000 in
theorem walks_law (S : Sure11) (V : Value) (l : List InsV) (p0 : Int) (Y : Value) (way : List Int) (w : World) (h : IsCode w w.heap.size V l) (hY : IsNums .i64 w w.heap.size Y way) : Calls Try.prog 4 #[V, .int .i64 p0, Y] w (Makes w (.bool true)) := by
  have HK := Lib.hid (fun W => known11_any S W)
  have HC := Lib.hid (fun W (hb : Below w.heap.size w W) => (h.below hb (Nat.le_refl _) (Nat.le_refl _)).more hb.size)
  have HY := Lib.hid (fun W (hb : Below w.heap.size w W) => (hY.below hb (Nat.le_refl _)).more hb.size)
  obtain ⟨A, cap, hV⟩ := h.len
  subst hV
  obtain ⟨yA, yc, hYe⟩ := hY.len
  have hml := hY.1
  unfold maxLen at hml
  obtain ⟨m, hm⟩ : ∃ m, m = way.length := ⟨_, rfl⟩
  have HM := Lib.hid hm
  rw [← hm] at hYe hml
  subst hYe
  have HLg := Lib.hid (fun W B hc => long11_any (.slice A l.length cap) l W B hc)
  have HPK := Lib.hid (fun W => pk_any p0 9 W (by decide) (by decide))
  have hpb := pk_bd p0 (n := 9) (by decide)
  obtain ⟨p, hp⟩ : ∃ p : Nat, pkV p0 9 = p := ⟨(pkV p0 9).toNat, by omega⟩
  rw [hp] at HPK hpb
  have hp8 : p ≤ 8 := by omega
  have pI0 : (0 : Int) ≤ (p : Int) := by omega
  have pI8 : (p : Int) ≤ 8 := by omega
  by_cases hlong : longW l = true ∨ 200 < m
  · obtain ⟨n, hn⟩ : ∃ n, n = l.length := ⟨_, rfl⟩
    rw [← hn] at HC HLg ⊢
    clear h hY hm hp hn
    cases hl : longW l with
    | true =>
      rw [hl] at HLg
      clear hlong hl
      go_enter Try.func4, Try.ntmps4
      go_wp2_with (first
        | (go_at_call 3; (with_reducible refine (HK.out w).mono ?_); rintro e w1 ⟨rfl, hb⟩; have HB1 := Lib.hid hb; have HC1 := Lib.hid (HC.out w1 hb); clear hb)
        | (go_at_call 10; (with_reducible refine (HPK.out _).mono ?_); rintro e w2 ⟨rfl, hw⟩; subst hw)
        | (go_at_call 11; (with_reducible refine (HLg.out w1 _ HC1.out).mono ?_); rintro e w2 ⟨rfl, hw⟩; subst hw))
      go_ret
      exact ⟨rfl, HB1.out⟩
    | false =>
      have hm2 : 200 < m := hlong.resolve_left (by rw [hl]; simp)
      have hmI : (200 : Int) < (m : Int) := by omega
      rw [hl] at HLg
      clear hlong hl
      go_enter Try.func4, Try.ntmps4
      go_wp2_with (first
        | (go_at_call 3; (with_reducible refine (HK.out w).mono ?_); rintro e w1 ⟨rfl, hb⟩; have HB1 := Lib.hid hb; have HC1 := Lib.hid (HC.out w1 hb); clear hb)
        | (go_at_call 10; (with_reducible refine (HPK.out _).mono ?_); rintro e w2 ⟨rfl, hw⟩; subst hw)
        | (go_at_call 11; (with_reducible refine (HLg.out w1 _ HC1.out).mono ?_); rintro e w2 ⟨rfl, hw⟩; subst hw))
      go_ret
      exact ⟨rfl, HB1.out⟩
  · have hlg : longW l = false := by
      cases hl : longW l with
      | true => exact absurd (.inl hl) hlong
      | false => rfl
    have hm200 : m ≤ 200 := by
      rcases Nat.lt_or_ge 200 m with h1 | h1
      · exact absurd (.inr h1) hlong
      · exact h1
    have hmI : (m : Int) ≤ 200 := by omega
    have hl60 := (longW_no hlg).1
    rw [hlg] at HLg
    have HNX := Lib.hid (fun W hc => next_any (.slice A l.length cap) l W hc)
    have HMK := Lib.hid (fun W hc => S.masks (.slice A l.length cap) l p W hc (by unfold InI; omega))
    have hnb : ¬ badP p := not_bad (by omega) (by omega)
    by_cases h0 : check10 l = 0
    case neg =>
      have HN2 : Hid (∀ W, IsCode W W.heap.size (.slice A l.length cap) l → Calls Try.prog 12 #[.slice A l.length cap] W fun e w' => e = .returned (.tuple #[.slice none 0 0, .int .i64 (check10 l)]) ∧ Below W.heap.size W w') := Lib.hid (fun W hc => (HNX.out W hc).mono fun e w' hh => ⟨(hh.2.resolve_right (fun h => h0 h.1)).2, hh.1⟩)
      have HM2 : Hid (∀ W, IsCode W W.heap.size (.slice A l.length cap) l → Calls Try.prog 6 #[.slice A l.length cap, .int .i64 p] W fun e w' => e = .returned (.tuple #[.slice none 0 0, .int .i64 (check10 l)]) ∧ Below W.heap.size W w') := Lib.hid (fun W hc => (HMK.out W hc).mono fun e w' hh => ⟨((hh.2.resolve_left (fun h => hnb h.1)).resolve_right (fun h => h0 h.2.1)).2.2, hh.1⟩)
      have hne : (check10 l != 0) = true := by simpa using h0
      generalize check10 l = z at *
      have hzz : (z == z) = true := by simp
      obtain ⟨n, hn⟩ : ∃ n, n = l.length := ⟨_, rfl⟩
      rw [← hn] at HC HLg HN2 HM2 ⊢
      clear h hY hm hp hn hlong hlg h0 HNX HMK hnb hl60 S
      go_enter Try.func4, Try.ntmps4
      go_wp2_with (first
        | (go_at_call 3; (with_reducible refine (HK.out w).mono ?_); rintro e w1 ⟨rfl, hb⟩; have HB1 := Lib.hid hb; have HC1 := Lib.hid (HC.out w1 hb); clear hb)
        | (go_at_call 10; (with_reducible refine (HPK.out _).mono ?_); rintro e w2 ⟨rfl, hw⟩; subst hw)
        | (go_at_call 11; (with_reducible refine (HLg.out w1 _ HC1.out).mono ?_); rintro e w2 ⟨rfl, hw⟩; subst hw)
        | (go_at_call 6; (with_reducible refine (HM2.out w1 HC1.out).mono ?_); rintro e w2 ⟨rfl, hb⟩; have HB2 := Lib.hid (HB1.out.trans (hb.mono HB1.out.size)); have HC2 := Lib.hid (HC.out w2 HB2.out); clear hb)
        | (go_at_call 12; (with_reducible refine (HN2.out w2 HC2.out).mono ?_); rintro e w3 ⟨rfl, hb⟩; have HB3 := Lib.hid (HB2.out.trans (hb.mono HB2.out.size)); clear hb))
      go_ret
      exact ⟨by first | rfl | simp, HB3.out⟩
    case pos =>
      have hg := good10 h0
      have HG := Lib.hid hg
      have HN2 : Hid (∀ W, IsCode W W.heap.size (.slice A l.length cap) l → Calls Try.prog 12 #[.slice A l.length cap] W fun e w' => Below W.heap.size W w' ∧ ∃ g, e = .returned (.tuple #[.slice (some ⟨g, 0, none⟩) l.length l.length, .int .i64 0]) ∧ IsLs w' w'.heap.size (.slice (some ⟨g, 0, none⟩) l.length l.length) l.length (nextV l)) := Lib.hid (fun W hc => (HNX.out W hc).mono fun e w' hh => by
        obtain ⟨_, g, Xs, he, hl⟩ := hh.2.resolve_left (fun h => h.1 h0)
        exact ⟨hh.1, g, he, hl.ls (by unfold maxLen; omega)⟩)
      have HM2 := Lib.hid (fun W hc => (HMK.out W hc).mono fun e w' hh => masks_fine ⟨hnb, h0⟩ hh)
      rw [Int.toNat_natCast] at HM2
      have HWS := Lib.hid (WkInv.start (p := p) hg hp8)
      obtain ⟨n, hn⟩ : ∃ n, n = l.length := ⟨_, rfl⟩
      have HN := Lib.hid hn
      have hnI : (n : Int) ≤ 60 := by omega
      have hnp : 0 < n := by have := hg.pos; omega
      have hnpI : (0 : Int) < (n : Int) := by omega
      have hnz : (n == 0) = false := by simp; omega
      have hnn : (n != n) = false := by simp
      obtain ⟨wz, hwz⟩ : ∃ wz, wz = 2 ^ p - 1 := ⟨_, rfl⟩
      rw [← hwz] at HWS
      have f1 : IntKind.u64.wrap (2 ^ p) = ((wz + 1 : Nat) : Int) := by
        have h1 : 2 ^ p ≤ 2 ^ 8 := Nat.pow_le_pow_right (by decide) hp8
        have h2 : 0 < 2 ^ p := Nat.two_pow_pos p
        have h3 : ((2 ^ p : Nat) : Int) = (2 : Int) ^ p := by simp
        rw [IntKind.wrap_u64, ← h3]
        omega
      have hwz8 : wz ≤ 256 := by
        have h1 : 2 ^ p ≤ 2 ^ 8 := Nat.pow_le_pow_right (by decide) hp8
        omega
      rw [← hn] at HC HLg HN2 HM2 ⊢
      clear h hY hm hp hn hlong hlg h0 HNX HMK hnb hl60 S hg hwz
      go_enter Try.func4, Try.ntmps4
      go_wp2_with (first
        | (go_at_call 3; (with_reducible refine (HK.out w).mono ?_); rintro e w1 ⟨rfl, hb⟩; have HB1 := Lib.hid hb; have HC1 := Lib.hid (HC.out w1 hb); clear hb)
        | (go_at_call 10; (with_reducible refine (HPK.out _).mono ?_); rintro e w2 ⟨rfl, hw⟩; subst hw)
        | (go_at_call 11; (with_reducible refine (HLg.out w1 _ HC1.out).mono ?_); rintro e w2 ⟨rfl, hw⟩; subst hw)
        | (go_at_call 6; (with_reducible refine (HM2.out w1 HC1.out).mono ?_); rintro e w2 ⟨hb, gb, rfl, hge, hrow⟩; have HB2 := Lib.hid (HB1.out.trans (hb.mono HB1.out.size)); have HC2 := Lib.hid (HC.out w2 HB2.out); have HRW := Lib.hid hrow; clear hb hge hrow)
        | (go_at_call 12; (with_reducible refine (HN2.out w2 HC2.out).mono ?_); rintro e w3 ⟨hb, g, rfl, hl⟩; have HB3 := Lib.hid (HB2.out.trans (hb.mono HB2.out.size)); have HLS := Lib.hid hl; have HR3 := Lib.hid (HRW.out.below hb HRW.out.lt); clear hb hl))
      have HNP : ((n : Nat) : Int) ≠ 0 := by have := HWS.out.lt; have := HN.out; omega
      have HNZ : (((n : Nat) : Int) == 0) = false := by simp; omega
      simp only [HNZ]
      go_loopw [12, 13, 14] (fun v12 v13 v14 wr => ∃ (wv at' i : Nat), i ≤ m ∧ v14 = .int .i64 i ∧ v13 = .int .i64 at' ∧ v12 = .int .u64 wv ∧ Hid (Below w3.heap.size w3 wr ∧ WkInv l p at' wv)) (fun _ _ v14 _ => m - (intOf v14).toNat)
      case atStart => exact ⟨wz, 0, 0, by omega, rfl, rfl, rfl, Below.refl _ _, HWS.out⟩
      case round =>
        obtain ⟨wv, at', i, hi, rfl, rfl, rfl, HR⟩ := hrel
        have HB := Lib.hid HR.out.1
        have HKI := Lib.hid HR.out.2
        have HBW := Lib.hid (HB3.out.trans (HR.out.1.mono HB3.out.size))
        clear HR
        have hat : at' < n := by rw [HN.out]; exact HKI.out.lt
        have hwd := HKI.out.wd
        have z1 : wr.cell? ⟨gb, at', none⟩ = some (.int .u64 ((maskV l p at' : Nat) : Int)) := (HR3.out.below HB.out HR3.out.lt).cell hat
        have fA : bits .andNot .u64 ((maskV l p at' : Nat) : Int) ((wv : Nat) : Int) = 0 := by rw [u64_andNot_nat _ _ (maskV_lt l p at') hwd, HKI.out.none HG.out]; rfl
        generalize maskV l p at' = mk at *
        obtain ⟨cb, co, op, ca, b1, c, n1, args, YA, Yc, hA, hy, hin, hcc⟩ := code_cells (HC.out w (Below.refl _ _)) HN.out hat
        cases hA
        have HCC := Lib.hid hcc
        obtain ⟨hXr, c0, c1, c2, c3, c4, c5⟩ := hcc wr HBW.out
        have HXr := Lib.hid hXr
        have HWT : Hid (∀ W, IsNums .i64 W W.heap.size (.slice YA args.length Yc) args → Calls Try.prog 13 #[.agg (insCells op ca b1 c n1 (.slice YA args.length Yc))] W (Makes W (.int .i64 (wrtV (l.getD at' .zero))))) := Lib.hid (fun W hX => by rw [hy]; exact writes_any op ca b1 c n1 (.slice YA args.length Yc) args W hX)
        have hwb := wrt_bd (good_chk HG.out HKI.out.lt)
        obtain ⟨xw, hxw⟩ : ∃ xw, xw = wrtV (l.getD at' .zero) := ⟨_, rfl⟩
        have HXW := Lib.hid hxw.symm
        rw [← hxw] at HWT hwb
        obtain ⟨LA, Lc, hls⟩ := ls_cells11 HLS.out hat
        have xl2 := nextV_two l at'
        obtain ⟨xl, hxl⟩ : ∃ xl, xl = (nextV l at').length := ⟨_, rfl⟩
        have HXL := Lib.hid hxl
        rw [← hxl] at hls xl2
        have HLQ := Lib.hid hls
        have xl3 : (xl : Int) ≤ 2 := by omega
        have a0 : (0 : Int) ≤ (at' : Int) := by omega
        have a1 : (at' : Int) < (n : Int) := by omega
        have i0 : (0 : Int) ≤ (i : Int) := by omega
        have hiI : (i : Int) ≤ (m : Int) := by omega
        have wv0 : (0 : Int) ≤ (wv : Int) := by omega
        have HWD := Lib.hid hwd
        clear hcc hXr hy hin hat hxw hls hxl hwd
        by_cases hw : 0 ≤ xw
        · obtain ⟨xn, rfl⟩ : ∃ xn : Nat, xw = xn := ⟨xw.toNat, by omega⟩
          obtain ⟨e, he⟩ : ∃ e, e = 2 ^ xn := ⟨_, rfl⟩
          have he64 : e < 18446744073709551616 := by rw [he]; exact (show 2 ^ xn < 2 ^ 64 from Nat.pow_lt_pow_right (by decide) (by omega))
          have f2 : IntKind.u64.wrap (2 ^ xn) = ((e : Nat) : Int) := by
            have h3 : ((2 ^ xn : Nat) : Int) = (2 : Int) ^ xn := by simp
            rw [IntKind.wrap_u64, ← h3, ← he]
            omega
          have fO : bits .or .u64 ((wv : Nat) : Int) ((e : Nat) : Int) = ((wv ||| e : Nat) : Int) := u64_or_nat wv e HWD.out he64
          have HWV : Hid (wroteV wv ((xn : Nat) : Int) = wv ||| e) := Lib.hid (by unfold wroteV; rw [if_pos hw, Int.toNat_natCast, he])
          have x0n : (0 : Int) ≤ (xn : Int) := by omega
          have x64 : (xn : Int) < 64 := by omega
          clear he he64 hwb hw
          by_cases him : i = m
          · have hie : i = m := by omega
            subst hie
            have e3 : (i == i) = true := by simp
            have e4 : (((i : Nat) : Int) == ((i : Nat) : Int)) = true := by simp
            go_wp2_with (first
              | (go_at_call 13; (with_reducible refine (HWT.out wr HXr.out).mono ?_); rintro e w5 ⟨rfl, hb⟩; have HB5 := Lib.hid (HB.out.trans (hb.mono HB.out.size)); have HBW5 := Lib.hid (HBW.out.trans (hb.mono HBW.out.size)); obtain ⟨hX5, d0, d1, d2, d3, d4, d5⟩ := HCC.out w5 HBW5.out; have HX5 := Lib.hid hX5; clear hX5; clear hb)
              | (go_at_call 13; (with_reducible refine (HWT.out w5 HX5.out).mono ?_); rintro e w6 ⟨rfl, hb⟩; have HB6 := Lib.hid (HB5.out.trans (hb.mono HB5.out.size)); have HBW6 := Lib.hid (HBW5.out.trans (hb.mono HBW5.out.size)); obtain ⟨-, x0⟩ := HLQ.out w6 HB6.out; clear hb))
            go_ret
            exact ⟨by first | rfl | simp, HBW6.out⟩
          · by_cases hx0 : xl = 0
            · have i1 : (i : Int) < (m : Int) := by omega
              have e3 : (i == m) = false := by simp; omega
              have e4 : (((i : Nat) : Int) == ((m : Nat) : Int)) = false := by simp; omega
              obtain rfl : xl = 0 := by omega
              go_wp2_with (first
                | (go_at_call 13; (with_reducible refine (HWT.out wr HXr.out).mono ?_); rintro e w5 ⟨rfl, hb⟩; have HB5 := Lib.hid (HB.out.trans (hb.mono HB.out.size)); have HBW5 := Lib.hid (HBW.out.trans (hb.mono HBW.out.size)); obtain ⟨hX5, d0, d1, d2, d3, d4, d5⟩ := HCC.out w5 HBW5.out; have HX5 := Lib.hid hX5; clear hX5; clear hb)
                | (go_at_call 13; (with_reducible refine (HWT.out w5 HX5.out).mono ?_); rintro e w6 ⟨rfl, hb⟩; have HB6 := Lib.hid (HB5.out.trans (hb.mono HB5.out.size)); have HBW6 := Lib.hid (HBW5.out.trans (hb.mono HBW5.out.size)); obtain ⟨-, x0⟩ := HLQ.out w6 HB6.out; clear hb))
              go_ret
              exact ⟨by first | rfl | simp, HBW6.out⟩
            · have i1 : (i : Int) < (m : Int) := by omega
              have e3 : (i == m) = false := by simp; omega
              have e4 : (((i : Nat) : Int) == ((m : Nat) : Int)) = false := by simp; omega
              have xl1 : (0 : Int) < (xl : Int) := by omega
              have e5 : (xl == 0) = false := by simp; omega
              have e6 : (((xl : Nat) : Int) == 0) = false := by simp; omega
              go_wp2_with (first
                | (go_at_call 13; (with_reducible refine (HWT.out wr HXr.out).mono ?_); rintro e w5 ⟨rfl, hb⟩; have HB5 := Lib.hid (HB.out.trans (hb.mono HB.out.size)); have HBW5 := Lib.hid (HBW.out.trans (hb.mono HBW.out.size)); obtain ⟨hX5, d0, d1, d2, d3, d4, d5⟩ := HCC.out w5 HBW5.out; have HX5 := Lib.hid hX5; clear hX5; clear hb)
                | (go_at_call 13; (with_reducible refine (HWT.out w5 HX5.out).mono ?_); rintro e w6 ⟨rfl, hb⟩; have HB6 := Lib.hid (HB5.out.trans (hb.mono HB5.out.size)); have HBW6 := Lib.hid (HBW5.out.trans (hb.mono HBW5.out.size)); obtain ⟨-, x0⟩ := HLQ.out w6 HB6.out; clear hb))
              obtain ⟨hNN, -⟩ := HLQ.out w6 HB6.out
              obtain ⟨nb, no, nc, hV, _, _, hnc⟩ := hNN.plain (by rw [← HXL.out]; omega)
              rw [← HXL.out] at hV
              cases hV
              obtain ⟨yb, yo, yc2, hV, _, _, hyc⟩ := (HY.out w6 HBW6.out).plain (by rw [← HM.out]; omega)
              rw [← HM.out] at hV
              cases hV
              have y1 := hyc i (by rw [← HM.out]; omega)
              generalize way.getD i 0 = wi at *
              have hpk := pk_bd wi (n := (xl : Int)) (by omega)
              have HPQ := Lib.hid (fun q => quiet_same (w := w6) (n := q) (pk_any wi (xl : Int) (w6.drewN q) (by omega) (by omega)))
              obtain ⟨k, hk⟩ : ∃ k : Nat, pkV wi (xl : Int) = k := ⟨(pkV wi (xl : Int)).toNat, by omega⟩
              rw [hk] at hpk HPQ
              have hkl : k < (nextV l at').length := by rw [← HXL.out]; omega
              have hx1 := hnc k hkl
              have hmem : (nextV l at').getD k 0 ∈ nextV l at' := by simp [List.getD, List.getElem?_eq_getElem hkl]
              have hbd := HG.out.next HKI.out.lt _ hmem
              generalize (nextV l at').getD k 0 = x at *
              obtain ⟨b', rfl⟩ : ∃ b' : Nat, x = b' := ⟨x.toNat, by omega⟩
              have HNI := Lib.hid (HKI.out.step HG.out hmem)
              rw [HXW.out, HWV.out] at HNI
              have k0 : (0 : Int) ≤ (k : Int) := by omega
              have k1 : (k : Int) < (xl : Int) := hpk.2
              clear hNN hnc hyc hpk hk hkl hmem hbd
              go_quiet ((go_at_call 10; with_reducible exact HPQ.out _))
              go_wp2
              go_roundw
              case rel => exact ⟨_, b', i + 1, by omega, by go_num, rfl, rfl, Lib.hid ⟨below_drewN HB6.out _, HNI.out⟩⟩
              case measure => simp [intOf]; omega
        · have HWV : Hid (wroteV wv xw = wv) := Lib.hid (by unfold wroteV; rw [if_neg hw])
          clear hwb
          by_cases him : i = m
          · have hie : i = m := by omega
            subst hie
            have e3 : (i == i) = true := by simp
            have e4 : (((i : Nat) : Int) == ((i : Nat) : Int)) = true := by simp
            go_wp2_with (go_at_call 13; (with_reducible refine (HWT.out wr HXr.out).mono ?_); rintro e w5 ⟨rfl, hb⟩; have HB5 := Lib.hid (HB.out.trans (hb.mono HB.out.size)); have HBW5 := Lib.hid (HBW.out.trans (hb.mono HBW.out.size)); obtain ⟨-, x0⟩ := HLQ.out w5 HB5.out; clear hb)
            go_ret
            exact ⟨by first | rfl | simp, HBW5.out⟩
          · by_cases hx0 : xl = 0
            · have i1 : (i : Int) < (m : Int) := by omega
              have e3 : (i == m) = false := by simp; omega
              have e4 : (((i : Nat) : Int) == ((m : Nat) : Int)) = false := by simp; omega
              obtain rfl : xl = 0 := by omega
              go_wp2_with (go_at_call 13; (with_reducible refine (HWT.out wr HXr.out).mono ?_); rintro e w5 ⟨rfl, hb⟩; have HB5 := Lib.hid (HB.out.trans (hb.mono HB.out.size)); have HBW5 := Lib.hid (HBW.out.trans (hb.mono HBW.out.size)); obtain ⟨-, x0⟩ := HLQ.out w5 HB5.out; clear hb)
              go_ret
              exact ⟨by first | rfl | simp, HBW5.out⟩
            · have i1 : (i : Int) < (m : Int) := by omega
              have e3 : (i == m) = false := by simp; omega
              have e4 : (((i : Nat) : Int) == ((m : Nat) : Int)) = false := by simp; omega
              have xl1 : (0 : Int) < (xl : Int) := by omega
              have e5 : (xl == 0) = false := by simp; omega
              have e6 : (((xl : Nat) : Int) == 0) = false := by simp; omega
              go_wp2_with (go_at_call 13; (with_reducible refine (HWT.out wr HXr.out).mono ?_); rintro e w5 ⟨rfl, hb⟩; have HB5 := Lib.hid (HB.out.trans (hb.mono HB.out.size)); have HBW5 := Lib.hid (HBW.out.trans (hb.mono HBW.out.size)); obtain ⟨-, x0⟩ := HLQ.out w5 HB5.out; clear hb)
              obtain ⟨hNN, -⟩ := HLQ.out w5 HB5.out
              obtain ⟨nb, no, nc, hV, _, _, hnc⟩ := hNN.plain (by rw [← HXL.out]; omega)
              rw [← HXL.out] at hV
              cases hV
              obtain ⟨yb, yo, yc2, hV, _, _, hyc⟩ := (HY.out w5 HBW5.out).plain (by rw [← HM.out]; omega)
              rw [← HM.out] at hV
              cases hV
              have y1 := hyc i (by rw [← HM.out]; omega)
              generalize way.getD i 0 = wi at *
              have hpk := pk_bd wi (n := (xl : Int)) (by omega)
              have HPQ := Lib.hid (fun q => quiet_same (w := w5) (n := q) (pk_any wi (xl : Int) (w5.drewN q) (by omega) (by omega)))
              obtain ⟨k, hk⟩ : ∃ k : Nat, pkV wi (xl : Int) = k := ⟨(pkV wi (xl : Int)).toNat, by omega⟩
              rw [hk] at hpk HPQ
              have hkl : k < (nextV l at').length := by rw [← HXL.out]; omega
              have hx1 := hnc k hkl
              have hmem : (nextV l at').getD k 0 ∈ nextV l at' := by simp [List.getD, List.getElem?_eq_getElem hkl]
              have hbd := HG.out.next HKI.out.lt _ hmem
              generalize (nextV l at').getD k 0 = x at *
              obtain ⟨b', rfl⟩ : ∃ b' : Nat, x = b' := ⟨x.toNat, by omega⟩
              have HNI := Lib.hid (HKI.out.step HG.out hmem)
              rw [HXW.out, HWV.out] at HNI
              have k0 : (0 : Int) ≤ (k : Int) := by omega
              have k1 : (k : Int) < (xl : Int) := hpk.2
              clear hNN hnc hyc hpk hk hkl hmem hbd
              go_quiet ((go_at_call 10; with_reducible exact HPQ.out _))
              go_wp2
              go_roundw
              case rel => exact ⟨_, b', i + 1, by omega, by go_num, rfl, rfl, Lib.hid ⟨below_drewN HB5.out _, HNI.out⟩⟩
              case measure => simp [intOf]; omega
end Go.Proofs.Ytjoiocjnffaogaa
