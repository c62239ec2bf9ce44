/- FlowParts: blocks are all instructions, one behind the other, said outright. Contract; no condition but that the instructions lie in a row. -/
import Derived.Test.YtgoedemibdkpdaaLaws10D
import Derived.Test.YtgoedemibdkpdaaMath10D
namespace Go.Proofs.Ytgoedemibdkpdaa
open Go.RowKit
set_option linter.unusedVariables false
set_option linter.unusedSimpArgs false

/-- A list of a row, as it is read later on. -/
theorem ls_cells {w : World} {g n k : Nat} {ll : Nat → List Int} (h : IsLs w w.heap.size (.slice (some ⟨g, 0, none⟩) n n) n ll) (hk : k < n) :
    ∃ XA Xc, ∀ W, Below w.heap.size w W → IsNums .i64 W W.heap.size (.slice XA (ll k).length Xc) (ll k) ∧ W.cell? ⟨g, k, none⟩ = some (.slice XA (ll k).length Xc) := by
  obtain ⟨g', o', c', hV, _, hgB, hl⟩ := h.plain (by omega)
  cases hV
  obtain ⟨X, hX, hc⟩ := hl k hk
  rw [Nat.zero_add] at hc
  obtain ⟨XA, Xc, hXe⟩ := hX.len
  subst hXe
  exact ⟨XA, Xc, fun W hb => ⟨(hX.below hb (Nat.le_refl _)).more hb.size, (hb.cell (p := ⟨g, k, none⟩) hgB).trans hc⟩⟩
/-- A block of a row, as it is read later on. -/
theorem blk_cells {w : World} {A : Option Addr} {m cap k : Nat} {l : List BlkV} (h : IsBlks w w.heap.size (.slice A m cap) l) (hm : m = l.length) (hk : k < m) :
    ∃ b off XA Xc, A = some ⟨b, off, none⟩ ∧ ∀ W, Below w.heap.size w W → IsNums .i64 W W.heap.size (.slice XA (l.getD k .zero).nx.length Xc) (l.getD k .zero).nx ∧
      W.cell? ⟨b, off + k * 3, none⟩ = some (.int .i64 (l.getD k .zero).fr) ∧ W.cell? ⟨b, off + k * 3 + 1, none⟩ = some (.int .i64 (l.getD k .zero).to) ∧ W.cell? ⟨b, off + k * 3 + 2, none⟩ = some (.slice XA (l.getD k .zero).nx.length Xc) := by
  obtain ⟨b, off, cap', hV, _, hbB, hcl⟩ := h.plain (by omega)
  obtain ⟨X, hX, hc⟩ := hcl k (by omega)
  obtain ⟨XA, Xc, hXe⟩ := hX.len
  subst hXe
  refine ⟨b, off, XA, Xc, by injection hV, fun W hb => ?_⟩
  have hc' : ∀ j, j < 3 → W.cell? ⟨b, off + k * 3 + j, none⟩ = some (blkCell (l.getD k .zero) (.slice XA (l.getD k .zero).nx.length Xc) j) := fun j hj => (hb.cell (p := ⟨b, off + k * 3 + j, none⟩) hbB).trans (hc j hj)
  exact ⟨(hX.below hb (Nat.le_refl _)).more hb.size, hc' 0 (by omega), hc' 1 (by omega), hc' 2 (by omega)⟩
/-- Where the blocks ahead of k end. -/
def posV (l : List InsV) (k : Nat) : Int := if k = 0 then 0 else toV l (k - 1)
theorem pos_from {l : List InsV} (hl : 0 < l.length) {k : Nat} (hk : k < (leadI l).length) : posV l k = fromV l k := by
  unfold posV
  by_cases h0 : k = 0
  · subst h0
    rw [if_pos rfl, from_zero hl]
  · rw [if_neg h0, to_from hl (by omega), show k - 1 + 1 = k by omega]
theorem pos_succ (l : List InsV) (k : Nat) : posV l (k + 1) = toV l k := by
  unfold posV
  rw [if_neg (by omega), Nat.add_sub_cancel]
theorem pos_last {l : List InsV} (hl : 0 < l.length) : posV l (leadI l).length = l.length := by
  obtain ⟨r, hr⟩ := leadI_cons hl
  unfold posV
  rw [if_neg (by rw [hr]; simp), to_last hl]
set_option maxRecDepth 100000 in
set_option maxHeartbeats 32000000 in
theorem parts_law (V : Value) (l : List InsV) (w : World) (h : IsCode w w.heap.size V l) : Calls Try.prog 6 #[V] w (Makes w (.bool true)) := by
  obtain ⟨A, cap, rfl⟩ := h.len
  have HC := Lib.hid h
  have HK := Lib.hid (awake10_any w)
  have HLg := Lib.hid (fun W B hc => long10_any (.slice A l.length cap) l W B hc)
  by_cases hlong : longV l 60 = true
  · rw [hlong] at HLg
    generalize l.length = n at *
    clear h hlong
    go_enter Try.func6, Try.ntmps6
    go_wp2_with (first
      | (go_at_call 9; (with_reducible refine HK.out.mono ?_); rintro e w1 ⟨rfl, hb⟩; have HB1 := Lib.hid hb; have HC1 := Lib.hid (HC.out.below hb (Nat.le_refl _) (Nat.le_refl _)); clear hb)
      | (go_at_call 8; (with_reducible refine (HLg.out w1 _ HC1.out).mono ?_); rintro e w2 ⟨rfl, hw⟩; subst hw))
    go_ret
    exact ⟨rfl, HB1.out⟩
  · have hlong : longV l 60 = false := by simpa using hlong
    have hl60 := long_no hlong
    rw [hlong] at HLg
    have HNX := Lib.hid (fun W hc => next_any (.slice A l.length cap) l W hc)
    have HBK := Lib.hid (fun W hc => blocks10_any (.slice A l.length cap) l W hc)
    by_cases h0 : check10 l = 0
    case neg =>
      have HN2 : Hid (∀ W, IsCode W W.heap.size (.slice A l.length cap) l → Calls Try.prog 11 #[.slice A l.length cap] W fun e w' => e = .returned (.tuple #[.slice none 0 0, .int .i64 (check10 l)]) ∧ Below W.heap.size W w') := Lib.hid (fun W hc => (HNX.out W hc).mono fun e w' hh => ⟨(hh.2.resolve_right (fun h => h0 h.1)).2, hh.1⟩)
      have HB2 : Hid (∀ W, IsCode W W.heap.size (.slice A l.length cap) l → Calls Try.prog 21 #[.slice A l.length cap] W fun e w' => e = .returned (.tuple #[.slice none 0 0, .int .i64 (check10 l)]) ∧ Below W.heap.size W w') := Lib.hid (fun W hc => (HBK.out W hc).mono fun e w' hh => ⟨(hh.2.resolve_right (fun h => h0 h.1)).2, hh.1⟩)
      have hne : (check10 l != 0) = true := by simpa using h0
      generalize check10 l = z at *
      have hzz : (z != z) = false := by simp
      generalize l.length = n at *
      clear h hlong h0 hl60 HNX HBK
      go_enter Try.func6, Try.ntmps6
      go_wp2_with (first
        | (go_at_call 9; (with_reducible refine HK.out.mono ?_); rintro e w1 ⟨rfl, hb⟩; have HBa := Lib.hid hb; have HC1 := Lib.hid ((HC.out.below hb (Nat.le_refl _) (Nat.le_refl _)).more hb.size); clear hb)
        | (go_at_call 8; (with_reducible refine (HLg.out w1 _ HC1.out).mono ?_); rintro e w2 ⟨rfl, hw⟩; subst hw)
        | (go_at_call 21; (with_reducible refine (HB2.out w1 HC1.out).mono ?_); rintro e w2 ⟨rfl, hb⟩; have HBb := Lib.hid (HBa.out.trans (hb.mono HBa.out.size)); have HC2 := Lib.hid ((HC1.out.below hb (Nat.le_refl _) (Nat.le_refl _)).more hb.size); clear hb)
        | (go_at_call 11; (with_reducible refine (HN2.out w2 HC2.out).mono ?_); rintro e w3 ⟨rfl, hb⟩; have HBc := Lib.hid (HBb.out.trans (hb.mono HBb.out.size)); clear hb))
      go_ret
      exact ⟨by first | rfl | simp, HBc.out⟩
    case pos =>
      have hg := good10 h0
      have HN2 : Hid (∀ W, IsCode W W.heap.size (.slice A l.length cap) l → Calls Try.prog 11 #[.slice A l.length cap] W fun e w' => Below W.heap.size W w' ∧ ∃ g, e = .returned (.tuple #[.slice (some ⟨g, 0, none⟩) l.length l.length, .int .i64 0]) ∧ IsLs w' w'.heap.size (.slice (some ⟨g, 0, none⟩) l.length l.length) l.length (nextV l)) := Lib.hid (fun W hc => (HNX.out W hc).mono fun e w' hh => by
        obtain ⟨_, g, Xs, he, hl⟩ := hh.2.resolve_left (fun h => h.1 h0)
        exact ⟨hh.1, g, he, hl.ls (by have := hl60.1; unfold maxLen; omega)⟩)
      have HB2 : Hid (∀ W, IsCode W W.heap.size (.slice A l.length cap) l → Calls Try.prog 21 #[.slice A l.length cap] W fun e w' => Below W.heap.size W w' ∧ ∃ BA bc, e = .returned (.tuple #[.slice BA (leadI l).length bc, .int .i64 0]) ∧ IsBlks w' w'.heap.size (.slice BA (leadI l).length bc) (blksV l)) := Lib.hid (fun W hc => (HBK.out W hc).mono fun e w' hh => by
        obtain ⟨_, U, Xs, he, hk⟩ := hh.2.resolve_left (fun h => h.1 h0)
        have hk2 := hk.blks (by have := hl60.1; have := leadI_length l; rw [blksV_length]; omega)
        obtain ⟨BA, bc, rfl⟩ := hk2.len
        rw [blksV_length] at he hk2
        exact ⟨hh.1, BA, bc, he, hk2⟩)
      have HG := Lib.hid hg
      have HPL := Lib.hid (pos_last hg.pos)
      have hml := leadI_length l
      have HML := Lib.hid (blksV_length l).symm
      obtain ⟨n, hn⟩ : ∃ n, n = l.length := ⟨_, rfl⟩
      have HN := Lib.hid hn
      have hn60 : (n : Int) ≤ 60 := by have := hl60.1; omega
      obtain ⟨m, hm⟩ : ∃ m, m = (leadI l).length := ⟨_, rfl⟩
      have HM := Lib.hid hm
      have hmn : m ≤ n := by omega
      have hmI : (m : Int) ≤ 60 := by omega
      have hp0 : posV l 0 = 0 := rfl
      have HP0 := Lib.hid hp0
      rw [← hn] at HC HLg HN2 HB2 HPL ⊢
      rw [← hm] at HB2 HPL HML
      clear h hlong h0 hl60 HNX HBK hg hn hm hml hp0
      go_enter Try.func6, Try.ntmps6
      go_wp2_with (first
        | (go_at_call 9; (with_reducible refine HK.out.mono ?_); rintro e w1 ⟨rfl, hb⟩; have HBa := Lib.hid hb; have HC1 := Lib.hid ((HC.out.below hb (Nat.le_refl _) (Nat.le_refl _)).more hb.size); clear hb)
        | (go_at_call 8; (with_reducible refine (HLg.out w1 _ HC1.out).mono ?_); rintro e w2 ⟨rfl, hw⟩; subst hw)
        | (go_at_call 21; (with_reducible refine (HB2.out w1 HC1.out).mono ?_); rintro e w2 ⟨hb, BA, bc, rfl, hbl⟩; have HBb := Lib.hid (HBa.out.trans (hb.mono HBa.out.size)); have HC2 := Lib.hid ((HC1.out.below hb (Nat.le_refl _) (Nat.le_refl _)).more hb.size); have HBL := Lib.hid hbl; clear hb hbl)
        | (go_at_call 11; (with_reducible refine (HN2.out w2 HC2.out).mono ?_); rintro e w3 ⟨hb, g, rfl, hl⟩; have HBc := Lib.hid (HBb.out.trans (hb.mono HBb.out.size)); have HLS := Lib.hid hl; have HBM := Lib.hid ((HBL.out.below hb (Nat.le_refl _)).more hb.size); clear hb hl))
      go_loopw [8, 9] (fun at' i wr => ∃ k : Nat, k ≤ m ∧ i = .int .i64 k ∧ at' = .int .i64 (posV l k) ∧ Hid (Below w3.heap.size w3 wr)) (fun _ i _ => m - (intOf i).toNat)
      case atStart => exact ⟨0, by omega, rfl, by rw [HP0.out], Below.refl _ _⟩
      case round =>
        obtain ⟨k, hk, rfl, rfl, HB⟩ := hrel
        by_cases hlt : k < m
        · have hkm : k < (leadI l).length := by rw [← HM.out]; exact hlt
          have hpf := pos_from HG.out.pos hkm
          have hbd := to_bd HG.out.pos hkm
          have HPS := Lib.hid (pos_succ l k)
          have HIN := Lib.hid (fun q h1 h2 => block_in HG.out hkm (k := q) h1 h2)
          have HLA := Lib.hid (block_last HG.out hkm)
          have HBH : Hid (behindV l k = (nextV l ((toV l k).toNat - 1)).map (idxV l)) := Lib.hid rfl
          obtain ⟨b, off, XA, Xc, hA, hbc⟩ := blk_cells HBM.out HML.out hlt
          rw [blksV_at hkm] at hbc
          have HBC : Hid (∀ W, Below w3.heap.size w3 W → IsNums .i64 W W.heap.size (.slice XA (behindV l k).length Xc) (behindV l k) ∧ W.cell? ⟨b, off + k * 3, none⟩ = some (.int .i64 (fromV l k)) ∧ W.cell? ⟨b, off + k * 3 + 1, none⟩ = some (.int .i64 (toV l k)) ∧ W.cell? ⟨b, off + k * 3 + 2, none⟩ = some (.slice XA (behindV l k).length Xc)) := Lib.hid hbc
          cases hA
          obtain ⟨fn, hfn⟩ : ∃ fn : Nat, fromV l k = fn := ⟨(fromV l k).toNat, by omega⟩
          obtain ⟨pn, hpn⟩ : ∃ pn : Nat, toV l k = (pn : Int) + 1 := ⟨(toV l k).toNat - 1, by omega⟩
          rw [hpf, hfn]
          rw [hfn] at HIN HBC
          rw [hpn] at HPS HIN HLA HBC HBH
          rw [show ((pn : Int) + 1).toNat - 1 = pn by omega] at HLA HBH
          have hpn1 : pn < n := by rw [HN.out]; omega
          have hfp : fn ≤ pn := by omega
          obtain ⟨-, y0, y1, y2⟩ := HBC.out wr HB.out
          have k0 : (0 : Int) ≤ (k : Int) := by omega
          have k1 : (k : Int) < (m : Int) := by omega
          have e0 : ((fn : Int) != (fn : Int)) = false := by simp
          have e1 : ¬ (pn : Int) + 1 ≤ (fn : Int) := by omega
          have e2 : ¬ (n : Int) < (pn : Int) + 1 := by omega
          clear hpf hbd hbc hfn hpn y2
          obtain ⟨wo, rfl⟩ : ∃ wo, wo = wr := ⟨_, rfl⟩
          go_wp2
          go_loopw [10] (fun v wi => ∃ q : Nat, fn ≤ q ∧ q ≤ pn ∧ v = .int .i64 q ∧ Hid (Below w3.heap.size w3 wi)) (fun v _ => pn - (intOf v).toNat)
          case atStart => exact ⟨fn, Nat.le_refl _, hfp, rfl, HB.out⟩
          case round =>
            obtain ⟨q, hq1, hq2, rfl, HI⟩ := hrel
            clear y0 y1
            obtain ⟨-, y0, y1, -⟩ := HBC.out wr HI.out
            have hw1 : wrap64 ((pn : Int) + 1 - 1) = (pn : Int) := by unfold wrap64; omega
            have q0 : (0 : Int) ≤ (q : Int) := by omega
            by_cases hql : q < pn
            · have q1 : (q : Int) < (pn : Int) := by omega
              have q2 : (q : Int) < (n : Int) := by omega
              obtain ⟨LA, Lc, hls⟩ := ls_cells HLS.out (show q < n by omega)
              rw [HIN.out q (by omega) (by omega)] at hls
              obtain ⟨hX, x0⟩ := hls wr HI.out
              have x1 : wr.cell? ⟨g, q, none⟩ = some (.slice LA 1 Lc) := x0
              have HS := Lib.hid (sameInts_any (.slice LA 1 Lc) (.slice (some ⟨wr.heap.size, 0, none⟩) 1 1) [(q : Int) + 1] [(q : Int) + 1] (wr.alloc (.cells #[.int .i64 ((q : Int) + 1)] 3)) wr.heap.size (wr.heap.size + 1) (hX.below ((Below.refl wr.heap.size wr).alloc (Nat.le_refl _) _) (Nat.le_refl _)) (num_one_at (w := wr) ((q : Int) + 1) (heap_alloc_new wr _) (by omega)))
              rw [same_refl] at HS
              clear hls hX x0
              go_wp2_with (go_at_call 29; (with_reducible refine HS.out.mono ?_); rintro e w5 ⟨rfl, d5, rfl⟩)
              go_roundw
              case rel => exact ⟨q + 1, by omega, by omega, by go_num, below_drewN (HI.out.alloc HI.out.size _) d5⟩
              case measure => simp [intOf]; omega
            · obtain rfl : pn = q := by omega
              obtain ⟨LA, Lc, hls⟩ := ls_cells HLS.out hpn1
              have HLQ := Lib.hid hls
              have hbl : (behindV l k).length = (nextV l pn).length := by rw [HBH.out, List.length_map]
              rw [hbl] at HBC
              obtain ⟨xl, hxl⟩ : ∃ xl, xl = (nextV l pn).length := ⟨_, rfl⟩
              have HXL := Lib.hid hxl
              have xl2 : (xl : Int) ≤ 2 := by have := nextV_two l pn; omega
              rw [← hxl] at HBC HLQ
              obtain ⟨-, x0⟩ := HLQ.out wr HI.out
              clear y0 y1
              obtain ⟨-, y0, y1, y2⟩ := HBC.out wr HI.out
              have p0 : (0 : Int) ≤ (pn : Int) := by omega
              have p1 : (pn : Int) < (n : Int) := by omega
              clear hls hbl hxl
              have e6 : ((xl : Int) != (xl : Int)) = false := by simp
              have e7 : (xl != xl) = false := by simp
              obtain ⟨wa, rfl⟩ : ∃ wa, wa = wr := ⟨_, rfl⟩
              go_wp2
              go_loopw [12] (fun v wi => ∃ q : Nat, q ≤ xl ∧ v = .int .i64 q ∧ Hid (Below w3.heap.size w3 wi)) (fun v _ => xl - (intOf v).toNat)
              case atStart => exact ⟨0, by omega, rfl, HI.out⟩
              case round =>
                obtain ⟨t, ht, rfl, HJ⟩ := hrel
                clear y0 y1 y2 x0
                obtain ⟨hBN, y0, y1, y2⟩ := HBC.out wr HJ.out
                obtain ⟨hLN, x0⟩ := HLQ.out wr HJ.out
                have t0 : (0 : Int) ≤ (t : Int) := by omega
                by_cases htl : t < xl
                · have t1 : (t : Int) < (xl : Int) := by omega
                  have htl2 : t < (nextV l pn).length := by rw [← HXL.out]; exact htl
                  have hmem : (nextV l pn).getD t 0 ∈ nextV l pn := by simp [List.getD, List.getElem?_eq_getElem htl2]
                  obtain ⟨j, hj1, hj2, hj3⟩ := idx_from (HLA.out _ hmem)
                  obtain ⟨nb, no, nc, hV, _, _, hnc⟩ := hLN.plain (by rw [← HXL.out]; omega)
                  rw [← HXL.out] at hV
                  cases hV
                  have hx1 := hnc t htl2
                  have hbl : (behindV l k).length = xl := by rw [HBH.out, List.length_map, HXL.out]
                  obtain ⟨mb, mo, mc, hV, _, _, hmc⟩ := hBN.plain (by rw [hbl]; omega)
                  rw [hbl] at hV
                  cases hV
                  have hx2 := hmc t (by rw [hbl]; exact htl)
                  have hbe : (behindV l k).getD t 0 = (j : Int) := by
                    rw [HBH.out, List.getD, List.getElem?_map, List.getElem?_eq_getElem htl2]
                    rw [List.getD, List.getElem?_eq_getElem htl2] at hj1
                    exact hj1
                  rw [hbe] at hx2
                  have hjm : j < m := by rw [HM.out]; exact hj2
                  obtain ⟨b', off', XA', Xc', hA, hbc⟩ := blk_cells HBM.out HML.out hjm
                  cases hA
                  rw [blksV_at hj2] at hbc
                  obtain ⟨-, z0, -⟩ := hbc wr HJ.out
                  have z1 : wr.cell? ⟨b, off + j * 3, none⟩ = some (.int .i64 (fromV l j)) := z0
                  rw [hj3] at z1
                  generalize (nextV l pn).getD t 0 = x at *
                  have e5 : (x != x) = false := by simp
                  have j0 : (0 : Int) ≤ (j : Int) := by omega
                  have j1 : (j : Int) < (m : Int) := by omega
                  have j2 : ¬ (j : Int) < 0 := by omega
                  have j3 : ¬ (m : Int) ≤ (j : Int) := by omega
                  have j4 : decide ((m : Int) ≤ (j : Int)) = false := decide_eq_false j3
                  have j5 : decide (m ≤ j) = false := decide_eq_false (by omega)
                  have j6 : decide ((j : Int) < 0) = false := decide_eq_false j2
                  clear hmem hj1 hj2 hj3 hnc hbl hmc hbe hjm hbc z0 hBN hLN htl2
                  go_wp2
                  go_quiet (fail)
                  go_wp2
                  go_roundw
                  case rel => exact ⟨t + 1, by omega, by go_num, below_drewN HJ.out _⟩
                  case measure => simp [intOf]; omega
                · obtain rfl : t = xl := by omega
                  go_wp2
                  go_roundw
                  case rel => exact ⟨k + 1, by omega, by go_num, by rw [HPS.out], HJ.out⟩
                  case measure => simp [intOf]; omega
        · obtain rfl : k = m := by omega
          rw [HPL.out]
          go_wp2
          go_ret
          exact ⟨by first | rfl | simp, HBc.out.trans (HB.out.mono HBc.out.size)⟩
end Go.Proofs.Ytgoedemibdkpdaa
