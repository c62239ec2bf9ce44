/- FlowClosed: what is reached is closed, and the least such set, said outright. Contract; no condition but that the instructions and the bools lie in rows. -/
import Derived.Test.YtgoedemibdkpdaaLaws10D
import Derived.Test.YtgoedemibdkpdaaMath10C
import Derived.Test.YtgoedemibdkpdaaOpen10
namespace Go.Proofs.Ytgoedemibdkpdaa
open Go.RowKit
set_option linter.unusedVariables false
set_option linter.unusedSimpArgs false

/-- What the statement keeps in memory while it goes through. -/
structure ClAt (w W : World) (g gb n sn : Nat) (U : Value) (r s : Nat → Bool) (l : List InsV) : Prop where
  bel : Below w.heap.size w W
  lists : IsLs W W.heap.size (.slice (some ⟨g, 0, none⟩) n n) n (nextV l)
  rch : IsBools W W.heap.size (.slice (some ⟨gb, 0, none⟩) n n) n r
  set : IsBools W W.heap.size U sn s
/-- The set that grows. -/
structure MnAt (W wr : World) (n : Nat) (m : Nat → Bool) : Prop where
  bel : Below W.heap.size W wr
  row : RowAt wr W.heap.size n 4 (boolsV m)
theorem MnAt.set {W wr : World} {n : Nat} {m : Nat → Bool} (h : MnAt W wr n m) (x : Nat) (b : Bool) : MnAt W (wr.setCell ⟨W.heap.size, x, none⟩ (.bool b)) n (fun i => if i = x then b else m i) :=
  ⟨h.bel.setCell (p := ⟨W.heap.size, x, none⟩) (Nat.le_refl _) _, (h.row.set x _).congr fun i hi => by unfold boolsV; by_cases e : i = x <;> simp [e]⟩
theorem MnAt.drew {W wr : World} {n : Nat} {m : Nat → Bool} (h : MnAt W wr n m) : MnAt W wr.drew n m := ⟨h.bel.drew, h.row.heap rfl⟩
theorem MnAt.congr {W wr : World} {n : Nat} {m m' : Nat → Bool} (h : MnAt W wr n m) (he : ∀ i, i < n → m i = m' i) : MnAt W wr n m' := ⟨h.bel, h.row.congr fun i hi => by unfold boolsV; rw [he i hi]⟩
def mineV (sn : Nat) (s : Nat → Bool) (i : Nat) : Bool := decide (i = 0) || (decide (i < sn) && s i)
set_option maxRecDepth 100000 in
set_option maxHeartbeats 32000000 in
theorem closed_law (V U : Value) (l : List InsV) (sn : Nat) (s : Nat → Bool) (w : World) (h : IsCode w w.heap.size V l) (hU : IsBools w w.heap.size U sn s) : Calls Try.prog 7 #[V, U] w (Makes w (.bool true)) := by
  obtain ⟨A, cap, rfl⟩ := h.len
  obtain ⟨UA, Uc, rfl⟩ := hU.len
  have HC := Lib.hid h
  have HU := Lib.hid hU
  have HK := Lib.hid (awake10_any w)
  have HLg := Lib.hid (fun W B hc => long10_any (.slice A l.length cap) l W B hc)
  by_cases hlong : longV l 60 = true
  · rw [hlong] at HLg
    generalize l.length = n at *
    clear h hlong hU
    go_enter Try.func7, Try.ntmps7
    go_wp2_with (first
      | (go_at_call 9; (with_reducible refine HK.out.mono ?_); rintro e w1 ⟨rfl, hb⟩; have HB1 := Lib.hid hb; have HC1 := Lib.hid (HC.out.below hb (Nat.le_refl _) (Nat.le_refl _)); clear hb)
      | (go_at_call 8; (with_reducible refine (HLg.out w1 _ HC1.out).mono ?_); rintro e w2 ⟨rfl, hw⟩; subst hw))
    go_ret
    exact ⟨rfl, HB1.out⟩
  · have hlong : longV l 60 = false := by simpa using hlong
    have hl60 := long_no hlong
    rw [hlong] at HLg
    have HNX := Lib.hid (fun W hc => next_any (.slice A l.length cap) l W hc)
    have HRC := Lib.hid (fun W hc => reached10_any (.slice A l.length cap) l W hc)
    by_cases h0 : check10 l = 0
    case neg =>
      have HN2 : Hid (∀ W, IsCode W W.heap.size (.slice A l.length cap) l → Calls Try.prog 11 #[.slice A l.length cap] W fun e w' => e = .returned (.tuple #[.slice none 0 0, .int .i64 (check10 l)]) ∧ Below W.heap.size W w') := Lib.hid (fun W hc => (HNX.out W hc).mono fun e w' hh => ⟨(hh.2.resolve_right (fun h => h0 h.1)).2, hh.1⟩)
      have HR2 : Hid (∀ W, IsCode W W.heap.size (.slice A l.length cap) l → Calls Try.prog 13 #[.slice A l.length cap] W fun e w' => e = .returned (.tuple #[.slice none 0 0, .int .i64 (check10 l)]) ∧ Below W.heap.size W w') := Lib.hid (fun W hc => (HRC.out W hc).mono fun e w' hh => ⟨(hh.2.resolve_right (fun h => h0 h.1)).2, hh.1⟩)
      have hne : (check10 l != 0) = true := by simpa using h0
      generalize check10 l = z at *
      have hzz : (z != z) = false := by simp
      generalize l.length = n at *
      clear h hlong h0 hl60 HNX HRC hU
      go_enter Try.func7, Try.ntmps7
      go_wp2_with (first
        | (go_at_call 9; (with_reducible refine HK.out.mono ?_); rintro e w1 ⟨rfl, hb⟩; have HB1 := Lib.hid hb; have HC1 := Lib.hid ((HC.out.below hb (Nat.le_refl _) (Nat.le_refl _)).more hb.size); clear hb)
        | (go_at_call 8; (with_reducible refine (HLg.out w1 _ HC1.out).mono ?_); rintro e w2 ⟨rfl, hw⟩; subst hw)
        | (go_at_call 13; (with_reducible refine (HR2.out w1 HC1.out).mono ?_); rintro e w2 ⟨rfl, hb⟩; have HB2 := Lib.hid (HB1.out.trans (hb.mono HB1.out.size)); have HC2 := Lib.hid ((HC1.out.below hb (Nat.le_refl _) (Nat.le_refl _)).more hb.size); clear hb)
        | (go_at_call 11; (with_reducible refine (HN2.out w2 HC2.out).mono ?_); rintro e w3 ⟨rfl, hb⟩; have HB3 := Lib.hid (HB2.out.trans (hb.mono HB2.out.size)); clear hb))
      go_ret
      exact ⟨by first | rfl | simp, HB3.out⟩
    case pos =>
      have hg := good10 h0
      have HN2 : Hid (∀ W, IsCode W W.heap.size (.slice A l.length cap) l → Calls Try.prog 11 #[.slice A l.length cap] W fun e w' => Below W.heap.size W w' ∧ ∃ g, e = .returned (.tuple #[.slice (some ⟨g, 0, none⟩) l.length l.length, .int .i64 0]) ∧ IsLs w' w'.heap.size (.slice (some ⟨g, 0, none⟩) l.length l.length) l.length (nextV l)) := Lib.hid (fun W hc => (HNX.out W hc).mono fun e w' hh => by
        obtain ⟨_, g, Xs, he, hl⟩ := hh.2.resolve_left (fun h => h.1 h0)
        exact ⟨hh.1, g, he, hl.ls (by have := hl60.1; unfold maxLen; omega)⟩)
      have HR2 : Hid (∀ W, IsCode W W.heap.size (.slice A l.length cap) l → Calls Try.prog 13 #[.slice A l.length cap] W fun e w' => Below W.heap.size W w' ∧ ∃ gb r, e = .returned (.tuple #[.slice (some ⟨gb, 0, none⟩) l.length l.length, .int .i64 0]) ∧ IsReach l.length (nextV l) r ∧ IsBools w' w'.heap.size (.slice (some ⟨gb, 0, none⟩) l.length l.length) l.length (fun i => r.getD i false)) := Lib.hid (fun W hc => (HRC.out W hc).mono fun e w' hh => by
        obtain ⟨_, gb, r, he, _, hr, hrow⟩ := hh.2.resolve_left (fun h => h.1 h0)
        exact ⟨hh.1, gb, r, he, hr, hrow.bools (by have := hl60.1; unfold maxLen; omega)⟩)
      have HNB : Hid (∀ i, i < l.length → ∀ x ∈ nextV l i, 0 ≤ x ∧ x < (l.length : Int)) := Lib.hid (fun i hi => hg.next hi)
      obtain ⟨n, hn⟩ : ∃ n, n = l.length := ⟨_, rfl⟩
      have hn60 : (n : Int) ≤ 60 := by have := hl60.1; omega
      have hnp : 0 < n := by have := hg.pos; omega
      have hnpI : (0 : Int) < (n : Int) := by omega
      have hmk := make_bools n (by omega)
      have HMB : Hid (∀ W : World, MnAt W (W.alloc (.cells (madeCells (Value.bool false).cells (n * 1)) 4)) n (fun _ => false)) := Lib.hid (fun W => ⟨(Below.refl _ _).alloc (Nat.le_refl _) _, bools_made n W⟩)
      generalize madeCells (Value.bool false).cells (n * 1) = mb at *
      have HNP := Lib.hid hnp
      have hsn := hU.1
      unfold maxLen at hsn
      rw [← hn] at HC HLg HN2 HR2 HNB ⊢
      clear h hlong h0 hl60 HNX HRC hU hg hn
      go_enter Try.func7, Try.ntmps7
      go_wp2_with (first
        | (go_at_call 9; (with_reducible refine HK.out.mono ?_); rintro e w1 ⟨rfl, hb⟩; have HB1 := Lib.hid hb; have HC1 := Lib.hid ((HC.out.below hb (Nat.le_refl _) (Nat.le_refl _)).more hb.size); clear hb)
        | (go_at_call 8; (with_reducible refine (HLg.out w1 _ HC1.out).mono ?_); rintro e w2 ⟨rfl, hw⟩; subst hw)
        | (go_at_call 13; (with_reducible refine (HR2.out w1 HC1.out).mono ?_); rintro e w2 ⟨hb, gb, r, rfl, hr, hrow⟩; have HB2 := Lib.hid (HB1.out.trans (hb.mono HB1.out.size)); have HC2 := Lib.hid ((HC1.out.below hb (Nat.le_refl _) (Nat.le_refl _)).more hb.size); have HRR := Lib.hid hr; have HRW := Lib.hid hrow; clear hb hr hrow)
        | (go_at_call 11; (with_reducible refine (HN2.out w2 HC2.out).mono ?_); rintro e w3 ⟨hb, g, rfl, hl⟩; have HB3 := HB2.out.trans (hb.mono HB2.out.size); have CA := Lib.hid (show ClAt w w3 g gb n sn (.slice UA sn Uc) (fun i => r.getD i false) s l from ⟨HB3, hl, (HRW.out.below hb (Nat.le_refl _)).more hb.size, (HU.out.below HB3 (Nat.le_refl _)).more HB3.size⟩); have rc0 : w3.cell? ⟨gb, 0, none⟩ = some (.bool true) := (by obtain ⟨_, _, _, hV, _, _, hc⟩ := CA.out.rch.plain HNP.out; cases hV; have := hc 0 HNP.out; rw [(HRR.out.2 0 HNP.out).2 .zero] at this; exact this); clear hb hl HB3))
      go_loopw [11] (fun i wr => ∃ k : Nat, k ≤ n ∧ i = .int .i64 k ∧ Hid (MnAt w3 wr n (fun i => if i < k then mineV sn s i else false))) (fun i _ => n - (intOf i).toNat)
      case atStart => exact ⟨0, by omega, rfl, (HMB.out w3).congr fun i hi => by simp⟩
      case round =>
        obtain ⟨k, hk, rfl, HM⟩ := hrel
        by_cases hlt : k < n
        · have k0 : (0 : Int) ≤ (k : Int) := by omega
          have k1 : (k : Int) < (n : Int) := by omega
          have fz := HM.out.row.frozen k
          have ex := HM.out.row.cell hlt
          unfold boolsV at ex
          by_cases hz : k = 0
          · subst hz
            have HVAL : Hid (mineV sn s 0 = true) := Lib.hid rfl
            go_wp2
            go_roundw
            case rel => exact ⟨0 + 1, by omega, by go_num, (HM.out.set 0 true).congr fun i hi => by
                by_cases e : i = 0
                · subst e; rw [if_pos rfl, if_pos (by omega)]; exact HVAL.out.symm
                · rw [if_neg e]
                  by_cases e2 : i < 0
                  · rw [if_pos e2, if_pos (by omega)]
                  · rw [if_neg e2, if_neg (by omega)]⟩
            case measure => simp [intOf]; omega
          · have e0 : ((k : Int) == 0) = false := by simpa using hz
            by_cases hks : k < sn
            · obtain ⟨ub, uo, uc, hV, _, hub, huc⟩ := CA.out.set.plain (by omega)
              cases hV
              have u0 : wr.cell? ⟨ub, uo + k, none⟩ = some (.bool (s k)) := (HM.out.bel.cell (p := ⟨ub, uo + k, none⟩) hub).trans (huc k hks)
              have HVAL : Hid (mineV sn s k = s k) := Lib.hid (by unfold mineV; simp [hz, hks])
              have ks1 : (k : Int) < (sn : Int) := by omega
              generalize s k = sk at *
              clear hub huc hz hks
              go_wp2
              go_roundw
              case rel => exact ⟨k + 1, by omega, by go_num, (HM.out.set k sk).congr fun i hi => by
                  by_cases e : i = k
                  · subst e; rw [if_pos rfl, if_pos (by omega)]; exact HVAL.out.symm
                  · rw [if_neg e]
                    by_cases e2 : i < k
                    · rw [if_pos e2, if_pos (by omega)]
                    · rw [if_neg e2, if_neg (by omega)]⟩
              case measure => simp [intOf]; omega
            · have HVAL : Hid (mineV sn s k = false) := Lib.hid (by unfold mineV; simp [hz, hks])
              have ks1 : ¬ (k : Int) < (sn : Int) := by omega
              clear hz hks
              go_wp2
              go_roundw
              case rel => exact ⟨k + 1, by omega, by go_num, (HM.out.set k false).congr fun i hi => by
                  by_cases e : i = k
                  · subst e; rw [if_pos rfl, if_pos (by omega)]; exact HVAL.out.symm
                  · rw [if_neg e]
                    by_cases e2 : i < k
                    · rw [if_pos e2, if_pos (by omega)]
                    · rw [if_neg e2, if_neg (by omega)]⟩
              case measure => simp [intOf]; omega
        · obtain rfl : k = n := by omega
          have HM0 : Hid (MnAt w3 wr k (mineV sn s)) := Lib.hid (HM.out.congr fun i hi => by rw [if_pos hi])
          obtain ⟨wa, rfl⟩ : ∃ wa, wa = wr := ⟨_, rfl⟩
          clear HM
          go_wp2
          go_loopw [12] (fun t wr => ∃ q : Nat, q ≤ k ∧ t = .int .i64 q ∧ Hid (∃ m, MnAt w3 wr k m ∧ Clo k (nextV l) q m)) (fun t _ => k - (intOf t).toNat)
          case atStart => exact ⟨0, by omega, rfl, ⟨_, HM0.out, Clo.start HNP.out (by simp [mineV])⟩⟩
          case round =>
            obtain ⟨t, ht, rfl, HT⟩ := hrel
            obtain ⟨m0, hm0, hc0⟩ := HT.out
            have HM1 := Lib.hid hm0
            have HCL := Lib.hid hc0
            clear HT hm0 hc0
            obtain ⟨wb, rfl⟩ : ∃ wb, wb = wr := ⟨_, rfl⟩
            by_cases hlt2 : t < k
            · have t0 : (0 : Int) ≤ (t : Int) := by omega
              have t1 : (t : Int) < (k : Int) := by omega
              go_wp2
              go_loopw [13] (fun a wr => ∃ p : Nat, p ≤ k ∧ a = .int .i64 p ∧ Hid (∃ m, MnAt w3 wr k m ∧ Swp k (nextV l) m0 m p 0)) (fun a _ => k - (intOf a).toNat)
              case atStart => exact ⟨0, by omega, rfl, ⟨_, HM1.out, Swp.start⟩⟩
              case round =>
                obtain ⟨p, hp, rfl, HP⟩ := hrel
                obtain ⟨m1, hm1, hs1⟩ := HP.out
                have HM2 := Lib.hid hm1
                have HSW := Lib.hid hs1
                clear HP hm1 hs1
                obtain ⟨wc, rfl⟩ : ∃ wc, wc = wr := ⟨_, rfl⟩
                by_cases hlt3 : p < k
                · have p0 : (0 : Int) ≤ (p : Int) := by omega
                  have p1 : (p : Int) < (k : Int) := by omega
                  obtain ⟨g', off', gc, hV, _, hgB, hgl⟩ := CA.out.lists.plain HNP.out
                  cases hV
                  obtain ⟨X, hX, hxc⟩ := hgl p hlt3
                  rw [Nat.zero_add] at hxc
                  obtain ⟨XA, Xc, hXe⟩ := hX.len
                  obtain ⟨xl, hxl⟩ : ∃ xl, xl = (nextV l p).length := ⟨_, rfl⟩
                  rw [← hxl] at hXe
                  subst hXe
                  have HXL := Lib.hid hxl
                  have xl2 : (xl : Int) ≤ 2 := by have := nextV_two l p; omega
                  have HLST : Hid (∀ W, Below w3.heap.size w3 W → W.cell? ⟨g, p, none⟩ = some (.slice XA xl Xc)) := Lib.hid (fun W hb => (hb.cell (p := ⟨g, p, none⟩) hgB).trans hxc)
                  have HNUM : Hid (∀ W, Below w3.heap.size w3 W → IsNums .i64 W W.heap.size (.slice XA xl Xc) (nextV l p)) := Lib.hid (fun W hb => (hX.below hb (Nat.le_refl _)).more hb.size)
                  have HNB2 := Lib.hid (HNB.out p hlt3)
                  clear hgl hX hxc hxl hgB
                  have x0 := HLST.out wc HM2.out.bel
                  go_wp2
                  go_loopw [14] (fun a wr => ∃ q : Nat, q ≤ xl ∧ a = .int .i64 q ∧ Hid (∃ m, MnAt w3 wr k m ∧ Swp k (nextV l) m0 m p q)) (fun a _ => xl - (intOf a).toNat)
                  case atStart => exact ⟨0, by omega, rfl, ⟨_, HM2.out, HSW.out⟩⟩
                  case round =>
                    obtain ⟨q, hq, rfl, HQ⟩ := hrel
                    obtain ⟨m, hm, hs⟩ := HQ.out
                    clear x0
                    have x0 := HLST.out wr hm.bel
                    have q0 : (0 : Int) ≤ (q : Int) := by omega
                    by_cases hql : q < xl
                    · have q1 : (q : Int) < (xl : Int) := by omega
                      have xl0 : 0 < xl := by omega
                      obtain ⟨nb, no, nc2, hV, _, hnB, hnc⟩ := (HNUM.out wr hm.bel).plain (by rw [← HXL.out]; exact xl0)
                      rw [← HXL.out] at hV
                      cases hV
                      have hql2 : q < (nextV l p).length := by rw [← HXL.out]; exact hql
                      have hx1 := hnc q hql2
                      have hmem : (nextV l p).getD q 0 ∈ nextV l p := by simp [List.getD, List.getElem?_eq_getElem hql2]
                      have hxb := HNB2.out _ hmem
                      have hst := hs.step hlt3 hql2
                      generalize (nextV l p).getD q 0 = x at *
                      obtain ⟨xn, rfl⟩ : ∃ xn : Nat, x = xn := ⟨x.toNat, by omega⟩
                      rw [Int.toNat_natCast] at hst
                      have y0 : (0 : Int) ≤ (xn : Int) := by omega
                      have y1 : (xn : Int) < (k : Int) := hxb.2
                      have hxk : xn < k := by omega
                      have b1 := hm.row.cell hxk
                      have b2 := hm.row.cell hlt3
                      have fz := hm.row.frozen xn
                      unfold boolsV at b1 b2
                      have HST := Lib.hid hst
                      have HSE := Lib.hid (hm.drew.set xn (m xn || m p))
                      clear HQ hm hs hnc hmem hxb hst hql2 hnB
                      cases hmx : m xn with
                      | true =>
                        rw [hmx] at b1 HST HSE
                        rw [Bool.true_or] at HST HSE
                        clear hmx b2
                        go_wp2
                        go_still_tail 25, (by kernel_rfl)
                        go_wp2
                        go_roundw
                        case rel => exact ⟨q + 1, by omega, by go_num, ⟨_, HSE.out, HST.out⟩⟩
                        case measure => simp [intOf]; omega
                      | false =>
                        rw [hmx] at b1 HST HSE
                        rw [Bool.false_or] at HST HSE
                        clear hmx
                        generalize m p = mp at *
                        go_wp2
                        go_still_tail 25, (by kernel_rfl)
                        go_wp2
                        go_roundw
                        case rel => exact ⟨q + 1, by omega, by go_num, ⟨_, HSE.out, HST.out⟩⟩
                        case measure => simp [intOf]; omega
                    · obtain rfl : q = xl := by omega
                      have HM9 := Lib.hid hm
                      have HS9 := Lib.hid (Swp.row (by rw [← HXL.out]; exact hs))
                      clear HQ hm hs
                      go_wp2
                      go_roundw
                      case rel => exact ⟨p + 1, by omega, by go_num, ⟨_, HM9.out, HS9.out⟩⟩
                      case measure => simp [intOf]; omega
                · obtain rfl : p = k := by omega
                  have HC9 := Lib.hid (HCL.out.next HSW.out HNB.out)
                  go_wp2
                  go_roundw
                  case rel => exact ⟨t + 1, by omega, by go_num, ⟨_, HM2.out, HC9.out⟩⟩
                  case measure => simp [intOf]; omega
            · obtain rfl : t = k := by omega
              have HDN := Lib.hid HCL.out.done
              have HZR := Lib.hid HCL.out.zero
              clear HM0 HCL
              have HSUB : Hid (∀ i, i < t → r.getD i false = true → m0 i = true) := Lib.hid (fun i hi hr => (Rch.within HNP.out HNB.out HZR.out HDN.out ((HRR.out.2 i hi).1 hr)).2)
              have HRN0 : Hid (∀ i, i < t → r.getD i false = true → ∀ x ∈ nextV l i, (0 ≤ x ∧ x < (t : Int)) → r.getD x.toNat false = true) := Lib.hid (fun i hi hr x hx hxb => (HRR.out.2 x.toNat (by omega)).2 (.step ((HRR.out.2 i hi).1 hr) (by rw [Int.toNat_of_nonneg hxb.1]; exact hx)))
              have HRL : Hid (∀ W, Below w3.heap.size w3 W → ∀ i, i < t → W.cell? ⟨gb, i, none⟩ = some (.bool (r.getD i false))) := Lib.hid (fun W hb i hi => by
                obtain ⟨_, _, _, hV, _, hgB, hc⟩ := CA.out.rch.plain HNP.out
                cases hV
                have := hc i hi
                rw [Nat.zero_add] at this
                exact (hb.cell (p := ⟨gb, i, none⟩) hgB).trans this)
              clear HZR HDN
              go_wp2
              go_loopw [15] (fun a wr => ∃ q : Nat, q ≤ t ∧ a = .int .i64 q ∧ wr = wb) (fun a _ => t - (intOf a).toNat)
              case atStart => exact ⟨0, by omega, rfl, by first | rfl | trivial⟩
              case round =>
                obtain ⟨i, hi, rfl, rfl⟩ := hrel
                obtain ⟨wd, hwd⟩ : ∃ wd, wd = wr := ⟨_, rfl⟩
                subst hwd
                by_cases hlt4 : i < t
                · have i0 : (0 : Int) ≤ (i : Int) := by omega
                  have i1 : (i : Int) < (t : Int) := by omega
                  obtain ⟨g', off', gc, hV, _, hgB, hgl⟩ := CA.out.lists.plain HNP.out
                  cases hV
                  obtain ⟨X, hX, hxc⟩ := hgl i hlt4
                  rw [Nat.zero_add] at hxc
                  obtain ⟨XA, Xc, hXe⟩ := hX.len
                  obtain ⟨xl, hxl⟩ : ∃ xl, xl = (nextV l i).length := ⟨_, rfl⟩
                  rw [← hxl] at hXe
                  subst hXe
                  have HXL := Lib.hid hxl
                  have xl2 : (xl : Int) ≤ 2 := by have := nextV_two l i; omega
                  have HNUM : Hid (∀ W, Below w3.heap.size w3 W → IsNums .i64 W W.heap.size (.slice XA xl Xc) (nextV l i)) := Lib.hid (fun W hb => (hX.below hb (Nat.le_refl _)).more hb.size)
                  have HNB2 := Lib.hid (HNB.out i hlt4)
                  have HRN := Lib.hid (HRN0.out i hlt4)
                  have x0 := (HM1.out.bel.cell (p := ⟨g, i, none⟩) hgB).trans hxc
                  have b1 := HRL.out _ HM1.out.bel i hlt4
                  have b2 := HM1.out.row.cell hlt4
                  unfold boolsV at b2
                  clear hgl hX hxc hxl hgB
                  cases hri : r.getD i false with
                  | true =>
                    have hmi : m0 i = true := HSUB.out i hlt4 hri
                    rw [hmi] at b2
                    clear hmi
                    rw [hri] at b1
                    clear hlt4
                    go_wp2
                    go_loopw [16] (fun a wr => ∃ q : Nat, q ≤ xl ∧ a = .int .i64 q ∧ wr = wd) (fun a _ => xl - (intOf a).toNat)
                    case atStart => exact ⟨0, by omega, rfl, by first | rfl | trivial⟩
                    case round =>
                      obtain ⟨q, hq, rfl, rfl⟩ := hrel
                      have q0 : (0 : Int) ≤ (q : Int) := by omega
                      by_cases hql : q < xl
                      · have q1 : (q : Int) < (xl : Int) := by omega
                        have xl0 : 0 < xl := by omega
                        obtain ⟨nb, no, nc2, hV, _, hnB, hnc⟩ := (HNUM.out wr HM1.out.bel).plain (by rw [← HXL.out]; exact xl0)
                        rw [← HXL.out] at hV
                        cases hV
                        have hql2 : q < (nextV l i).length := by rw [← HXL.out]; exact hql
                        have hx1 := hnc q hql2
                        have hmem : (nextV l i).getD q 0 ∈ nextV l i := by simp [List.getD, List.getElem?_eq_getElem hql2]
                        have hxb := HNB2.out _ hmem
                        have hxr := HRN.out hri _ hmem hxb
                        generalize (nextV l i).getD q 0 = x at *
                        obtain ⟨xn, rfl⟩ : ∃ xn : Nat, x = xn := ⟨x.toNat, by omega⟩
                        rw [Int.toNat_natCast] at hxr
                        have y0 : (0 : Int) ≤ (xn : Int) := by omega
                        have y1 : (xn : Int) < (t : Int) := hxb.2
                        have hxk : xn < t := by omega
                        have b3 := HRL.out wr HM1.out.bel xn hxk
                        rw [hxr] at b3
                        clear hnc hmem hxb hql2 hnB hxr hxk
                        go_wp2
                        go_roundw
                        case rel => exact ⟨q + 1, by omega, by go_num, by first | rfl | trivial⟩
                        case measure => simp [intOf]; omega
                      · obtain rfl : q = xl := by omega
                        go_wp2
                        go_roundw
                        case rel => exact ⟨i + 1, by omega, by go_num, by first | rfl | trivial⟩
                        case measure => simp [intOf]; omega
                  | false =>
                    rw [hri] at b1
                    clear hlt4
                    go_wp2
                    go_loopw [16] (fun a wr => ∃ q : Nat, q ≤ xl ∧ a = .int .i64 q ∧ wr = wd) (fun a _ => xl - (intOf a).toNat)
                    case atStart => exact ⟨0, by omega, rfl, by first | rfl | trivial⟩
                    case round =>
                      obtain ⟨q, hq, rfl, rfl⟩ := hrel
                      have q0 : (0 : Int) ≤ (q : Int) := by omega
                      by_cases hql : q < xl
                      · have q1 : (q : Int) < (xl : Int) := by omega
                        go_wp2
                        go_roundw
                        case rel => exact ⟨q + 1, by omega, by go_num, by first | rfl | trivial⟩
                        case measure => simp [intOf]; omega
                      · obtain rfl : q = xl := by omega
                        go_wp2
                        go_roundw
                        case rel => exact ⟨i + 1, by omega, by go_num, by first | rfl | trivial⟩
                        case measure => simp [intOf]; omega
                · obtain rfl : i = t := by omega
                  go_wp2
                  go_ret
                  exact ⟨rfl, CA.out.bel.trans (HM1.out.bel.mono CA.out.bel.size)⟩
end Go.Proofs.Ytgoedemibdkpdaa
