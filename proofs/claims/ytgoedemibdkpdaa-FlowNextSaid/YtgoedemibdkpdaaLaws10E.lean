/- FlowNext: what comes behind an instruction, said outright. Contract; no condition but that the instructions lie in a row. -/
import Derived.Test.YtgoedemibdkpdaaLaws10D
namespace Go.Proofs.Ytgoedemibdkpdaa
open Go.RowKit
set_option linter.unusedVariables false
set_option linter.unusedSimpArgs false

theorem nextV_rise (l : List InsV) (i : Nat) {k : Nat} (hk : k + 1 < (nextV l i).length) : (nextV l i).getD k 0 < (nextV l i).getD (k + 1) 0 := by
  have h := List.pairwise_iff_getElem.1 (nxV_rise (flsV (l.getD i .zero)) (goalV (placesV l 0) (l.getD i .zero)) i) k (k + 1) (by have : (nextV l i).length = (nxV (flsV (l.getD i .zero)) (goalV (placesV l 0) (l.getD i .zero)) i).length := rfl; omega) hk (by omega)
  have e1 : (nextV l i).getD k 0 = (nextV l i)[k] := by simp [List.getD, List.getElem?_eq_getElem (show k < (nextV l i).length by omega)]
  have e2 : (nextV l i).getD (k + 1) 0 = (nextV l i)[k + 1] := by simp [List.getD, List.getElem?_eq_getElem hk]
  rw [e1, e2]
  exact h
/-- What the statement keeps in memory while it goes through. -/
structure NxAt (w W : World) (g n : Nat) (Xs : Nat → Value) (V P : Value) (l : List InsV) : Prop where
  bel : Below w.heap.size w W
  code : IsCode W W.heap.size V l
  lists : IsLs W W.heap.size (.slice (some ⟨g, 0, none⟩) n n) n (nextV l)
  pls : IsNums .i64 W W.heap.size P (placesV l 0)
theorem NxAt.grow {w W W' : World} {g n : Nat} {Xs : Nat → Value} {V P : Value} {l : List InsV} (h : NxAt w W g n Xs V P l) (hb : Below W.heap.size W W') : NxAt w W' g n Xs V P l :=
  ⟨h.bel.trans (hb.mono h.bel.size), (h.code.below hb (Nat.le_refl _) (Nat.le_refl _)).more hb.size, (h.lists.below hb (Nat.le_refl _)).more hb.size, (h.pls.below hb (Nat.le_refl _)).more hb.size⟩
set_option maxRecDepth 100000 in
set_option maxHeartbeats 32000000 in
theorem next_law (V : Value) (l : List InsV) (w : World) (h : IsCode w w.heap.size V l) : Calls Try.prog 5 #[V] w (Makes w (.bool true)) := by
  obtain ⟨A, cap, rfl⟩ := h.len
  have HC := Lib.hid h
  have HK := Lib.hid (known10_any w)
  have HLg := Lib.hid (fun W B hc => long10_any (.slice A l.length cap) l W B hc)
  by_cases hlong : longV l 60 = true
  · rw [hlong] at HLg
    generalize l.length = n at *
    clear h hlong
    go_enter Try.func5, Try.ntmps5
    go_wp2_with (first
      | (go_at_call 4; (with_reducible refine HK.out.mono ?_); rintro e w1 ⟨rfl, hb⟩; have HB1 := Lib.hid hb; have HC1 := Lib.hid (HC.out.below hb (Nat.le_refl _) (Nat.le_refl _)); clear hb)
      | (go_at_call 8; (with_reducible refine (HLg.out w1 _ HC1.out).mono ?_); rintro e w2 ⟨rfl, hw⟩; subst hw))
    go_ret
    exact ⟨rfl, HB1.out⟩
  · have hlong : longV l 60 = false := by simpa using hlong
    have hl60 := long_no hlong
    rw [hlong] at HLg
    have HNX := Lib.hid (fun W hc => next_any (.slice A l.length cap) l W hc)
    by_cases h0 : check10 l = 0
    case neg =>
      have HN2 : Hid (∀ W, IsCode W W.heap.size (.slice A l.length cap) l → Calls Try.prog 11 #[.slice A l.length cap] W fun e w' => e = .returned (.tuple #[.slice none 0 0, .int .i64 (check10 l)]) ∧ Below W.heap.size W w') := Lib.hid (fun W hc => (HNX.out W hc).mono fun e w' hh => ⟨(hh.2.resolve_right (fun h => h0 h.1)).2, hh.1⟩)
      have HCK := Lib.hid (fun W hc => check10_any (.slice A l.length cap) l W hc)
      have hne : (check10 l != 0) = true := by simpa using h0
      generalize check10 l = z at *
      have hzz : (z == z) = true := by simp
      generalize l.length = n at *
      clear h hlong h0 hl60 HNX
      go_enter Try.func5, Try.ntmps5
      go_wp2_with (first
        | (go_at_call 4; (with_reducible refine HK.out.mono ?_); rintro e w1 ⟨rfl, hb⟩; have HB1 := Lib.hid hb; have HC1 := Lib.hid ((HC.out.below hb (Nat.le_refl _) (Nat.le_refl _)).more hb.size); clear hb)
        | (go_at_call 8; (with_reducible refine (HLg.out w1 _ HC1.out).mono ?_); rintro e w2 ⟨rfl, hw⟩; subst hw)
        | (go_at_call 11; (with_reducible refine (HN2.out w1 HC1.out).mono ?_); rintro e w2 ⟨rfl, hb⟩; have HB2 := Lib.hid (HB1.out.trans (hb.mono HB1.out.size)); have HC2 := Lib.hid ((HC1.out.below hb (Nat.le_refl _) (Nat.le_refl _)).more hb.size); clear hb)
        | (go_at_call 17; (with_reducible refine (HCK.out w2 HC2.out).mono ?_); rintro e w3 ⟨rfl, hb⟩; have HB3 := Lib.hid (HB2.out.trans (hb.mono HB2.out.size)); clear hb))
      go_ret
      exact ⟨by first | rfl | simp, HB3.out⟩
    case pos =>
      have hg := good10 h0
      have HN2 : Hid (∀ W, IsCode W W.heap.size (.slice A l.length cap) l → Calls Try.prog 11 #[.slice A l.length cap] W fun e w' => Below W.heap.size W w' ∧ ∃ g, e = .returned (.tuple #[.slice (some ⟨g, 0, none⟩) l.length l.length, .int .i64 0]) ∧ IsLs w' w'.heap.size (.slice (some ⟨g, 0, none⟩) l.length l.length) l.length (nextV l)) := Lib.hid (fun W hc => (HNX.out W hc).mono fun e w' hh => by
        obtain ⟨_, g, Xs, he, hl⟩ := hh.2.resolve_left (fun h => h.1 h0)
        exact ⟨hh.1, g, he, hl.ls (by have := hl60.1; unfold maxLen; omega)⟩)
      have HJ : Hid (∀ W, IsCode W W.heap.size (.slice A l.length cap) l → Calls Try.prog 24 #[.slice A l.length cap] W fun e w' => ∃ v, e = .returned (.tuple #[v, .int .i64 0]) ∧ OutB W w' v (allB l)) := Lib.hid (fun W hc => (join7_any _ l W hc).mono fun e w' hh => (hh.resolve_left (fun h => h.1 hg.join)).2)
      have HSJ := Lib.hid (split_join hg.join)
      have HG := Lib.hid hg
      have hbd : ∀ x ∈ allB l, 0 ≤ x ∧ x < 256 := by
        intro x hx
        obtain ⟨y, _, hy⟩ := List.mem_flatMap.1 hx
        exact y.bytes_bd x hy
      have HBD := Lib.hid hbd
      have HPL := Lib.hid (placesV_length l 0)
      obtain ⟨n, hn⟩ : ∃ n, n = l.length := ⟨_, rfl⟩
      have HN := Lib.hid hn
      have hn60 : (n : Int) ≤ 60 := by have := hl60.1; omega
      have HB60 : Hid (n ≤ 60) := Lib.hid (by have := hl60.1; omega)
      rw [← hn] at HC HLg HN2 HJ HPL ⊢
      clear h hlong h0 hl60 HNX hg hbd hn
      go_enter Try.func5, Try.ntmps5
      go_wp2_with (first
        | (go_at_call 4; (with_reducible refine HK.out.mono ?_); rintro e w1 ⟨rfl, hb⟩; have HB1 := Lib.hid hb; have HC1 := Lib.hid ((HC.out.below hb (Nat.le_refl _) (Nat.le_refl _)).more hb.size); clear hb)
        | (go_at_call 8; (with_reducible refine (HLg.out w1 _ HC1.out).mono ?_); rintro e w2 ⟨rfl, hw⟩; subst hw)
        | (go_at_call 11; (with_reducible refine (HN2.out w1 HC1.out).mono ?_); rintro e w2 ⟨hb, g, rfl, hl⟩; have HB2 := Lib.hid (HB1.out.trans (hb.mono HB1.out.size)); have HC2 := Lib.hid ((HC1.out.below hb (Nat.le_refl _) (Nat.le_refl _)).more hb.size); have HL2 := Lib.hid hl; clear hb hl)
        | (go_at_call 24; (with_reducible refine (HJ.out w2 HC2.out).mono ?_); rintro e w3 ⟨vb, rfl, ho⟩; obtain ⟨bA, bc, hvb⟩ := owns_len ho.own; subst hvb; have HX3 := Lib.hid (ho.bytes HBD.out (Nat.le_refl _)); have HB3 := Lib.hid (HB2.out.trans (ho.bel.mono HB2.out.size)); have HC3 := Lib.hid ((HC2.out.below ho.bel (Nat.le_refl _) (Nat.le_refl _)).more ho.bel.size); have HL3 := Lib.hid ((HL2.out.below ho.bel (Nat.le_refl _)).more ho.bel.size); have hs := split7_any _ (allB l) w3 HX3.out; rw [HSJ.out] at hs; have HS := Lib.hid hs; clear ho hs)
        | (go_at_call 25; ((with_reducible refine HS.out.mono ?_); rintro e w4 ⟨hb, ⟨hbad, _⟩ | ⟨_, V1, P1, Xs1, rfl, hc, hp⟩⟩; exact absurd rfl hbad; dsimp only at hc hp; obtain ⟨pA, pc, hpe⟩ := owns_len hp; rw [HPL.out] at hpe; have hp1 := IsNums.of_owns hp (Nat.le_refl _); rw [hpe] at hp1; subst hpe; have hb2 := hb.alloc hb.size (.cells #[.int .i64 0, .int .i64 0] 52); have NX := Lib.hid (show NxAt w (w4.alloc (.cells #[.int .i64 0, .int .i64 0] 52)) g n (fun _ => .slice none 0 0) (.slice A n cap) (.slice pA n pc) l from ⟨HB3.out.trans (hb2.mono HB3.out.size), (HC3.out.below hb2 (Nat.le_refl _) (Nat.le_refl _)).more hb2.size, (HL3.out.below hb2 (Nat.le_refl _)).more hb2.size, (hp1.below ((Below.refl w4.heap.size w4).alloc (Nat.le_refl _) _) (Nat.le_refl _)).more (by simp)⟩); clear hb hc hp hp1 hb2)))
      obtain ⟨W0, hW0⟩ : ∃ W0, W0 = w4.alloc (.cells #[.int .i64 0, .int .i64 0] 52) := ⟨_, rfl⟩
      rw [← hW0] at NX
      go_loopw [11] (fun i wr => ∃ k : Nat, k ≤ n ∧ i = .int .i64 k ∧ Hid (Below W0.heap.size W0 wr)) (fun i _ => n - (intOf i).toNat)
      case atStart => exact ⟨0, by omega, rfl, by rw [← hW0]; exact Below.refl _ _⟩
      case round =>
        clear hW0
        obtain ⟨wo, rfl⟩ : ∃ wo, wo = wr := ⟨_, rfl⟩
        obtain ⟨k, hk, rfl, HB⟩ := hrel
        by_cases hlt : k < n
        · have hadd : wrap64 ((k : Int) + 1) = (k : Int) + 1 := by unfold wrap64; omega
          have k0 : (0 : Int) ≤ (k : Int) := by omega
          have k1 : (k : Int) < (n : Int) := by omega
          have hkl : k < l.length := by rw [← HN.out]; exact hlt
          have hn0 : 0 < n := by omega
          obtain ⟨b, off, cap', hV, _, hbB, hcl⟩ := NX.out.code.plain (by rw [← HN.out]; exact hn0)
          rw [← HN.out] at hV
          cases hV
          obtain ⟨Y, hY, hyc⟩ := hcl k hkl
          have hyin := code_getD NX.out.code hkl
          obtain ⟨g', off', gc, hV, _, hgB, hgl⟩ := NX.out.lists.plain hn0
          cases hV
          obtain ⟨X, hX, hxc⟩ := hgl k hlt
          obtain ⟨pb, po, pc', hV, _, hpB, hpl⟩ := NX.out.pls.plain (by rw [HPL.out]; exact hn0)
          rw [HPL.out] at hV
          cases hV
          obtain ⟨XA, Xc, hXe⟩ := hX.len
          obtain ⟨xl, hxl⟩ : ∃ xl, xl = (nextV l k).length := ⟨_, rfl⟩
          rw [← hxl] at hXe
          subst hXe
          have HXL := Lib.hid hxl
          have HX2 : Hid (xl ≤ 2) := Lib.hid (by rw [hxl]; exact nextV_two l k)
          clear hxl
          obtain ⟨⟨op, a, b1, c, n1, args⟩, hy⟩ : ∃ y, y = l.getD k .zero := ⟨_, rfl⟩
          have HY := Lib.hid hy
          rw [← hy] at hY hyc hyin
          obtain ⟨YA, Yc, hYe⟩ := hY.len
          subst hYe
          have HCODE : Hid (∀ W, Below W0.heap.size W0 W → ∀ j, j < 6 → W.cell? ⟨b, off + k * 6 + j, none⟩ = some (insCell ⟨op, a, b1, c, n1, args⟩ (.slice YA args.length Yc) j)) := Lib.hid (fun W hb j hj => (hb.cell (p := ⟨b, off + k * 6 + j, none⟩) hbB).trans (hyc j hj))
          have HARG : Hid (∀ W, Below W0.heap.size W0 W → IsNums .i64 W W.heap.size (.slice YA args.length Yc) args) := Lib.hid (fun W hb => (hY.below hb (Nat.le_refl _)).more hb.size)
          have HLST : Hid (∀ W, Below W0.heap.size W0 W → W.cell? ⟨g, k, none⟩ = some (.slice XA xl Xc)) := Lib.hid (fun W hb => (hb.cell (p := ⟨g, k, none⟩) hgB).trans (by rw [Nat.zero_add] at hxc; exact hxc))
          have HNUM : Hid (∀ W, Below W0.heap.size W0 W → IsNums .i64 W W.heap.size (.slice XA xl Xc) (nextV l k)) := Lib.hid (fun W hb => (hX.below hb (Nat.le_refl _)).more hb.size)
          have HPS : Hid (∀ W, Below W0.heap.size W0 W → ∀ q, q < n → W.cell? ⟨pb, po + q, none⟩ = some (.int .i64 ((placesV l 0).getD q 0))) := Lib.hid (fun W hb q hq => (hb.cell (p := ⟨pb, po + q, none⟩) hpB).trans (hpl q (by rw [HPL.out]; exact hq)))
          have HTG : Hid (firstV 116 (itemsOf (shapeI op) a b1 c n1 args) = tgtV (l.getD k .zero)) := Lib.hid (by rw [← HY.out]; rfl)
          have HFL : Hid (fallsV op = flsV (l.getD k .zero)) := Lib.hid (by rw [← HY.out]; rfl)
          have HBO := Lib.hid HB.out
          have HKL := Lib.hid hkl
          have HT := Lib.hid (target_any op a b1 c n1 (.slice YA args.length Yc) args wo (HARG.out wo HB.out))
          rw [HTG.out] at HT
          have HFa := Lib.hid (fun W => falls_any op a b1 c n1 (.slice YA args.length Yc) W)
          rw [HFL.out] at HFa
          have HTK : Hid (∀ q, q < n → (tgtV (l.getD k .zero) = (placesV l 0).getD q 0 ↔ goalV (placesV l 0) (l.getD k .zero) = (q : Int))) := Lib.hid (fun q hq => HG.out.tgt hkl (by rw [← HN.out]; exact hq))
          have HMEM : Hid (∀ x, x ∈ nextV l k ↔ (flsV (l.getD k .zero) = true ∧ x = (k : Int) + 1) ∨ (0 ≤ goalV (placesV l 0) (l.getD k .zero) ∧ x = goalV (placesV l 0) (l.getD k .zero))) := Lib.hid (fun x => nxV_mem)
          have HNB : Hid (∀ x ∈ nextV l k, 0 ≤ x ∧ x < (n : Int)) := Lib.hid (fun x hx => by have := HG.out.next hkl x hx; rw [HN.out]; exact this)
          have hcd := HCODE.out wo HB.out
          have c0 : World.cell? wo ⟨b, off + k * 6, none⟩ = some (.int .i64 op) := hcd 0 (by omega)
          have c1 : World.cell? wo ⟨b, off + k * 6 + 1, none⟩ = some (.int .i64 a) := hcd 1 (by omega)
          have c2 : World.cell? wo ⟨b, off + k * 6 + 2, none⟩ = some (.int .i64 b1) := hcd 2 (by omega)
          have c3 : World.cell? wo ⟨b, off + k * 6 + 3, none⟩ = some (.int .i64 c) := hcd 3 (by omega)
          have c4 : World.cell? wo ⟨b, off + k * 6 + 4, none⟩ = some (.int .i64 n1) := hcd 4 (by omega)
          have c5 : World.cell? wo ⟨b, off + k * 6 + 5, none⟩ = some (.slice YA args.length Yc) := hcd 5 (by omega)
          clear hcd
          clear hcl hY hyc hyin hgl hX hxc hpl hy hbB hgB hpB HTG HFL hkl
          generalize tgtV (l.getD k .zero) = t at *
          generalize flsV (l.getD k .zero) = fl at *
          generalize goalV (placesV l 0) (l.getD k .zero) = gv at *
          go_wp2_with (go_at_call 26; (with_reducible refine HT.out.mono ?_); rintro e w5 ⟨rfl, hb⟩; have HB5 := Lib.hid (HBO.out.trans (hb.mono HBO.out.size)); clear hb)
          go_loopw [13] (fun j wi => ∃ q : Nat, q ≤ xl ∧ j = .int .i64 q ∧ Hid (Below W0.heap.size W0 wi)) (fun j _ => xl - (intOf j).toNat)
          case atStart => exact ⟨0, by omega, rfl, HB5⟩
          case round =>
            obtain ⟨q, hq, rfl, HI⟩ := hrel
            have x0 := HLST.out wr HI.out
            have xl1 : (xl : Int) ≤ 2 := Int.ofNat_le.2 HX2.out
            have q0 : (0 : Int) ≤ (q : Int) := by omega
            by_cases hql : q < xl
            · have q1 : (q : Int) < (xl : Int) := by omega
              have xl0 : 0 < xl := by omega
              obtain ⟨nb, no, nc2, hV, _, hnB, hnc⟩ := (HNUM.out wr HI.out).plain (by rw [← HXL.out]; exact xl0)
              rw [← HXL.out] at hV
              cases hV
              have hx1 := hnc q (by rw [← HXL.out]; exact hql)
              have hmem : (nextV l k).getD q 0 ∈ nextV l k := by simp [List.getD, List.getElem?_eq_getElem (show q < (nextV l k).length by rw [← HXL.out]; exact hql)]
              have hxb := HNB.out _ hmem
              have hxm := (HMEM.out _).1 hmem
              have hprev : ∀ q', q' + 1 = q → q' < xl → wr.cell? ⟨nb, no + q', none⟩ = some (.int .i64 ((nextV l k).getD q' 0)) ∧ (nextV l k).getD q' 0 < (nextV l k).getD q 0 := fun q' he hlt' => ⟨hnc q' (by rw [← HXL.out]; exact hlt'), by subst he; exact nextV_rise l k (by rw [← HXL.out]; exact hql)⟩
              have HPV := Lib.hid hprev
              clear hprev hnc hmem hnB
              generalize (nextV l k).getD q 0 = x at *
              obtain ⟨xn, rfl⟩ : ∃ xn : Nat, x = xn := ⟨x.toNat, by omega⟩
              have y0 : (0 : Int) ≤ (xn : Int) := by omega
              have y1 : (xn : Int) < (n : Int) := hxb.2
              have hp := HPS.out wr HI.out xn (Int.ofNat_lt.1 y1)
              have HTX := Lib.hid (HTK.out xn (Int.ofNat_lt.1 y1))
              obtain ⟨pl, hplx⟩ : ∃ pl, pl = (placesV l 0).getD xn 0 := ⟨_, rfl⟩
              have HPX := Lib.hid hplx.symm
              rw [← hplx] at hp HTX
              clear hplx
              have hcd := HCODE.out wr HI.out
              have d0 : World.cell? wr ⟨b, off + k * 6, none⟩ = some (.int .i64 op) := hcd 0 (by omega)
              have d1 : World.cell? wr ⟨b, off + k * 6 + 1, none⟩ = some (.int .i64 a) := hcd 1 (by omega)
              have d2 : World.cell? wr ⟨b, off + k * 6 + 2, none⟩ = some (.int .i64 b1) := hcd 2 (by omega)
              have d3 : World.cell? wr ⟨b, off + k * 6 + 3, none⟩ = some (.int .i64 c) := hcd 3 (by omega)
              have d4 : World.cell? wr ⟨b, off + k * 6 + 4, none⟩ = some (.int .i64 n1) := hcd 4 (by omega)
              have d5 : World.cell? wr ⟨b, off + k * 6 + 5, none⟩ = some (.slice YA args.length Yc) := hcd 5 (by omega)
              clear hcd
              rcases Nat.eq_zero_or_pos q with hq0 | hqp
              · have z4 : ¬ (0 : Int) < (q : Int) := by omega
                clear hq0 HPV
                by_cases hxk : (xn : Int) = (k : Int) + 1
                · have e1 : ((xn : Int) == (k : Int) + 1) = true := by simpa using hxk
                  cases hfl : fl with
                  | true =>
                    rw [hfl] at HFa
                    clear hxm hxk hfl
                    go_wp2_with (go_at_call 27; (with_reducible refine (HFa.out wr).mono ?_); rintro e w6 ⟨rfl, hb⟩; have HI6 := Lib.hid (HI.out.trans (hb.mono HI.out.size)); have hp6 := HPS.out w6 HI6.out xn (Int.ofNat_lt.1 y1); rw [HPX.out] at hp6; clear hb)
                    go_roundw
                    case rel => exact ⟨q + 1, by omega, by go_num, HI6⟩
                    case measure => simp [intOf]; omega
                  | false =>
                    rw [hfl] at HFa
                    have ep : pl = t := (HTX.out.2 (by rcases hxm with ⟨h1, _⟩ | ⟨_, h2⟩; rw [hfl] at h1; cases h1; exact h2.symm)).symm
                    subst ep
                    have e2 : (pl == pl) = true := by simp
                    clear hxm hxk hfl
                    go_wp2_with (go_at_call 27; (with_reducible refine (HFa.out wr).mono ?_); rintro e w6 ⟨rfl, hb⟩; have HI6 := Lib.hid (HI.out.trans (hb.mono HI.out.size)); have hp6 := HPS.out w6 HI6.out xn (Int.ofNat_lt.1 y1); rw [HPX.out] at hp6; clear hb)
                    go_roundw
                    case rel => exact ⟨q + 1, by omega, by go_num, HI6⟩
                    case measure => simp [intOf]; omega
                · have e1 : ((xn : Int) == (k : Int) + 1) = false := by simpa using hxk
                  have ep : pl = t := (HTX.out.2 (by rcases hxm with ⟨_, h1⟩ | ⟨_, h2⟩; exact absurd h1 hxk; exact h2.symm)).symm
                  subst ep
                  have e2 : (pl == pl) = true := by simp
                  clear hxm hxk
                  go_wp2
                  go_roundw
                  case rel => exact ⟨q + 1, by omega, by go_num, HI⟩
                  case measure => simp [intOf]; omega
              · obtain ⟨q', hq'⟩ : ∃ q', q' + 1 = q := ⟨q - 1, by omega⟩
                have hq'' : q' < xl := by omega
                obtain ⟨z0, z1⟩ := HPV.out q' hq' hq''
                have zs : (q : Int) - 1 = (q' : Int) := by omega
                have zw : wrap64 ((q : Int) - 1) = (q' : Int) := by rw [zs]; unfold wrap64; omega
                have z2 : (0 : Int) ≤ (q' : Int) := by omega
                have z3 : (q' : Int) < (xl : Int) := by omega
                have z4 : (0 : Int) < (q : Int) := by omega
                generalize (nextV l k).getD q' 0 = xp at *
                have z5 : ¬ (xn : Int) ≤ xp := by omega
                clear hq' HPV
                by_cases hxk : (xn : Int) = (k : Int) + 1
                · have e1 : ((xn : Int) == (k : Int) + 1) = true := by simpa using hxk
                  cases hfl : fl with
                  | true =>
                    rw [hfl] at HFa
                    clear hxm hxk hfl
                    go_wp2_with (go_at_call 27; (with_reducible refine (HFa.out wr).mono ?_); rintro e w6 ⟨rfl, hb⟩; have HI6 := Lib.hid (HI.out.trans (hb.mono HI.out.size)); have hp6 := HPS.out w6 HI6.out xn (Int.ofNat_lt.1 y1); rw [HPX.out] at hp6; clear hb)
                    go_roundw
                    case rel => exact ⟨q + 1, by omega, by go_num, HI6⟩
                    case measure => simp [intOf]; omega
                  | false =>
                    rw [hfl] at HFa
                    have ep : pl = t := (HTX.out.2 (by rcases hxm with ⟨h1, _⟩ | ⟨_, h2⟩; rw [hfl] at h1; cases h1; exact h2.symm)).symm
                    subst ep
                    have e2 : (pl == pl) = true := by simp
                    clear hxm hxk hfl
                    go_wp2_with (go_at_call 27; (with_reducible refine (HFa.out wr).mono ?_); rintro e w6 ⟨rfl, hb⟩; have HI6 := Lib.hid (HI.out.trans (hb.mono HI.out.size)); have hp6 := HPS.out w6 HI6.out xn (Int.ofNat_lt.1 y1); rw [HPX.out] at hp6; clear hb)
                    go_roundw
                    case rel => exact ⟨q + 1, by omega, by go_num, HI6⟩
                    case measure => simp [intOf]; omega
                · have e1 : ((xn : Int) == (k : Int) + 1) = false := by simpa using hxk
                  have ep : pl = t := (HTX.out.2 (by rcases hxm with ⟨_, h1⟩ | ⟨_, h2⟩; exact absurd h1 hxk; exact h2.symm)).symm
                  subst ep
                  have e2 : (pl == pl) = true := by simp
                  clear hxm hxk
                  go_wp2
                  go_roundw
                  case rel => exact ⟨q + 1, by omega, by go_num, HI⟩
                  case measure => simp [intOf]; omega
            · obtain rfl : q = xl := by omega
              have hcd := HCODE.out wr HI.out
              have d0 : World.cell? wr ⟨b, off + k * 6, none⟩ = some (.int .i64 op) := hcd 0 (by omega)
              have d1 : World.cell? wr ⟨b, off + k * 6 + 1, none⟩ = some (.int .i64 a) := hcd 1 (by omega)
              have d2 : World.cell? wr ⟨b, off + k * 6 + 2, none⟩ = some (.int .i64 b1) := hcd 2 (by omega)
              have d3 : World.cell? wr ⟨b, off + k * 6 + 3, none⟩ = some (.int .i64 c) := hcd 3 (by omega)
              have d4 : World.cell? wr ⟨b, off + k * 6 + 4, none⟩ = some (.int .i64 n1) := hcd 4 (by omega)
              have d5 : World.cell? wr ⟨b, off + k * 6 + 5, none⟩ = some (.slice YA args.length Yc) := hcd 5 (by omega)
              clear hcd
              cases hfl : fl with
              | true =>
                rw [hfl] at HFa
                have hm1 : decide (((k : Int) + 1) ∈ nextV l k) = true := decide_eq_true ((HMEM.out _).2 (.inl ⟨hfl, rfl⟩))
                have HM1 := Lib.hid hm1
                clear hm1
                go_wp2_with (first
                  | (go_at_call 27; (with_reducible refine (HFa.out wr).mono ?_); rintro e w6 ⟨rfl, hb⟩; have HI6 := Lib.hid (HI.out.trans (hb.mono HI.out.size)); have x6 := HLST.out w6 HI6.out; have hs6 := has10_any _ _ ((k : Int) + 1) w6 _ (HNUM.out w6 HI6.out); rw [HM1.out] at hs6; have HS6 := Lib.hid hs6; clear hb hs6)
                  | (go_at_call 28; (with_reducible refine HS6.out.mono ?_); rintro e w7 ⟨rfl, hw⟩; subst hw))
                go_loopw [15] (fun j wi => ∃ q : Nat, q ≤ n ∧ j = .int .i64 q ∧ wi = w6) (fun j _ => n - (intOf j).toNat)
                case atStart => exact ⟨0, by omega, rfl, rfl⟩
                case round =>
                  obtain ⟨q3, hq3, rfl, rfl⟩ := hrel
                  by_cases hql3 : q3 < n
                  · have q30 : (0 : Int) ≤ (q3 : Int) := by omega
                    have q31 : (q3 : Int) < (n : Int) := by omega
                    have hp3 := HPS.out wr HI6.out q3 hql3
                    have x7 := HLST.out wr HI6.out
                    have HT3 := Lib.hid (HTK.out q3 hql3)
                    generalize (placesV l 0).getD q3 0 = pl at *
                    by_cases hpt : pl = t
                    · have hm3 : decide ((q3 : Int) ∈ nextV l k) = true := decide_eq_true ((HMEM.out _).2 (.inr (by have := HT3.out.1 hpt.symm; omega)))
                      have hs3 := has10_any _ _ (q3 : Int) wr _ (HNUM.out wr HI6.out)
                      rw [hm3] at hs3
                      have HS3 := Lib.hid hs3
                      subst hpt
                      have e3 : (pl == pl) = true := by simp
                      clear hm3 hs3
                      go_wp2_with (go_at_call 28; (with_reducible refine HS3.out.mono ?_); rintro e w7 ⟨rfl, hw⟩; subst hw)
                      go_roundw
                      case rel => exact ⟨q3 + 1, by omega, by go_num, (by first | rfl | trivial)⟩
                      case measure => simp [intOf]; omega
                    · have e3 : (pl == t) = false := by simpa using hpt
                      clear hpt
                      go_wp2
                      go_roundw
                      case rel => exact ⟨q3 + 1, by omega, by go_num, (by first | rfl | trivial)⟩
                      case measure => simp [intOf]; omega
                  · obtain rfl : q3 = n := by omega
                    go_wp2
                    go_roundw
                    case rel => exact ⟨k + 1, by omega, by go_num, HI6⟩
                    case measure => simp [intOf]; omega
              | false =>
                rw [hfl] at HFa
                go_wp2_with (go_at_call 27; (with_reducible refine (HFa.out wr).mono ?_); rintro e w6 ⟨rfl, hb⟩; have HI6 := Lib.hid (HI.out.trans (hb.mono HI.out.size)); clear hb)
                go_loopw [15] (fun j wi => ∃ q : Nat, q ≤ n ∧ j = .int .i64 q ∧ wi = w6) (fun j _ => n - (intOf j).toNat)
                case atStart => exact ⟨0, by omega, rfl, rfl⟩
                case round =>
                  obtain ⟨q3, hq3, rfl, rfl⟩ := hrel
                  by_cases hql3 : q3 < n
                  · have q30 : (0 : Int) ≤ (q3 : Int) := by omega
                    have q31 : (q3 : Int) < (n : Int) := by omega
                    have hp3 := HPS.out wr HI6.out q3 hql3
                    have x7 := HLST.out wr HI6.out
                    have HT3 := Lib.hid (HTK.out q3 hql3)
                    generalize (placesV l 0).getD q3 0 = pl at *
                    by_cases hpt : pl = t
                    · have hm3 : decide ((q3 : Int) ∈ nextV l k) = true := decide_eq_true ((HMEM.out _).2 (.inr (by have := HT3.out.1 hpt.symm; omega)))
                      have hs3 := has10_any _ _ (q3 : Int) wr _ (HNUM.out wr HI6.out)
                      rw [hm3] at hs3
                      have HS3 := Lib.hid hs3
                      subst hpt
                      have e3 : (pl == pl) = true := by simp
                      clear hm3 hs3
                      go_wp2_with (go_at_call 28; (with_reducible refine HS3.out.mono ?_); rintro e w7 ⟨rfl, hw⟩; subst hw)
                      go_roundw
                      case rel => exact ⟨q3 + 1, by omega, by go_num, (by first | rfl | trivial)⟩
                      case measure => simp [intOf]; omega
                    · have e3 : (pl == t) = false := by simpa using hpt
                      clear hpt
                      go_wp2
                      go_roundw
                      case rel => exact ⟨q3 + 1, by omega, by go_num, (by first | rfl | trivial)⟩
                      case measure => simp [intOf]; omega
                  · obtain rfl : q3 = n := by omega
                    go_wp2
                    go_roundw
                    case rel => exact ⟨k + 1, by omega, by go_num, HI6⟩
                    case measure => simp [intOf]; omega
        · obtain rfl : k = n := by omega
          go_wp2
          go_ret
          exact ⟨rfl, NX.out.bel.trans (HB.out.mono NX.out.bel.size)⟩
end Go.Proofs.Ytgoedemibdkpdaa
