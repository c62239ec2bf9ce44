/- CodeAgain: what bytes are split into is joined as these bytes; cut anywhere but at a place, they are not split. Contract; no condition but that the bytes lie in memory. -/
import Derived.Test.YtobbjphpngckgaaMath07C
namespace Go.Proofs.Ytobbjphpngckgaa
open Go.RowKit Go.Shelf
set_option linter.unusedVariables false
set_option linter.unusedSimpArgs false

theorem take_bytesA {W : World} {B cap n : Nat} {A : Option Addr} {xs : List Int} (h : IsBytes W B (.slice A xs.length cap) xs) (hn : n ≤ xs.length) : IsBytes W B (.slice A n cap) (xs.take n) := by
  have hl : (xs.take n).length = n := by simp; omega
  refine ⟨fun x hx => h.1 x (List.mem_of_mem_take hx), by have := h.2.1; omega, ?_⟩
  rcases h.2.2 with ⟨e, e2⟩ | ⟨ad', cap', e, h1, h2, h3⟩
  · subst e2
    simp at hn
    subst hn
    exact .inl ⟨e, rfl⟩
  · cases e
    refine .inr ⟨ad', cap, by rw [hl], by omega, fun hp => h2 (by omega), fun i hi => ?_⟩
    rw [hl] at hi
    rw [h3 i (by omega)]
    simp [List.getD, hi]
theorem bytes_cap {W : World} {B cap n : Nat} {A : Option Addr} {xs : List Int} (h : IsBytes W B (.slice A n cap) xs) : xs.length ≤ cap := by
  rcases h.2.2 with ⟨e, e2⟩ | ⟨ad', cap', e, h1, _⟩
  · subst e2; simp
  · cases e; exact h1
theorem code_takeA {w : World} {B cap j : Nat} {A : Option Addr} {l : List InsV} (h : IsCode w B (.slice A l.length cap) l) (hj : j ≤ l.length) : IsCode w B (.slice A j cap) (l.take j) := by
  have hl : (l.take j).length = j := by simp; omega
  refine ⟨by have := h.1; omega, fun y hy => h.2.1 y (List.mem_of_mem_take hy), ?_⟩
  rcases h.2.2 with ⟨e, a, c, e2⟩ | ⟨b', off', cap', e, h1, h2, h3⟩
  · subst e
    simp at hj
    subst hj
    exact .inl ⟨rfl, _, _, rfl⟩
  · cases e
    refine .inr ⟨b', off', cap, by rw [hl], by omega, h2, fun i hi => ?_⟩
    rw [hl] at hi
    obtain ⟨X, hX, hc⟩ := h3 i (by omega)
    have e : (l.take j).getD i .zero = l.getD i .zero := by simp [List.getD, hi]
    rw [e]
    exact ⟨X, hX, hc⟩
theorem code_cap {w : World} {base : Nat} {A : Option Addr} {n cap : Nat} {l : List InsV} {Xs : List Value} (h : OwnC base w (.slice A n cap) l Xs) : l.length ≤ cap := by
  rcases h.own.1.2 with ⟨e, h0⟩ | ⟨g, cap', cur, e, _, _, h3, _⟩
  · omega
  · cases e; exact h3
theorem add_zero (A : Option Addr) : Option.map (fun x : Addr => x.add 0) A = A := by
  cases A
  · rfl
  · simp [Addr.add]
theorem any_snoc {ps : List Int} {k : Nat} (h : k < ps.length) (f : Int → Bool) : (ps.take (k + 1)).any f = ((ps.take k).any f || f (ps.getD k 0)) := by
  rw [take_snoc' h, List.any_append]
  simp
def wvV (n : Nat) (ps : List Int) (c : Int) (k : Nat) : Bool := (c == (n : Int)) || (ps.take k).any (fun p => p == c)
theorem wv_next {n : Nat} {ps : List Int} {c : Int} {k : Nat} (h : k < ps.length) : wvV n ps c (k + 1) = (wvV n ps c k || (ps.getD k 0 == c)) := by
  unfold wvV
  rw [any_snoc h, Bool.or_assoc]
theorem wv_all {n : Nat} {ps : List Int} {c : Int} {k : Nat} (h : ps.length ≤ k) : wvV n ps c k = wholeV n ps c := by
  unfold wvV wholeV
  rw [List.take_of_length_le h]
  congr 1
set_option maxRecDepth 100000 in
set_option maxHeartbeats 16000000 in
theorem again_law (X : Value) (b : List Int) (cut : Int) (w : World) (hX : IsBytes w w.heap.size X b) (hcut : InI cut) : Calls Try.prog 7 #[X, .int .i64 cut] w (Makes w (.bool true)) := by
  have HA := Lib.hid (fun W => awake7_any W)
  have HX := Lib.hid (fun W (hb : Below w.heap.size w W) => (hX.below hb (Nat.le_refl _)).more hb.size)
  have HS := Lib.hid (fun W hb => split7_any X b W (HX.out W hb))
  have HBD := Lib.hid hX.1
  obtain ⟨A, cap, hXe⟩ := hX.len
  have hm := hX.2.1
  unfold maxLen at hm
  have HX0 := Lib.hid hX
  subst hXe
  clear hX
  by_cases hl : 600 < b.length
  · have hlI : (600 : Int) < (b.length : Int) := by omega
    clear hl
    go_enter Try.func7, Try.ntmps7
    go_wp2_with (go_at_call 10; (with_reducible refine (HA.out _).mono ?_); rintro e w1 ⟨rfl, hb⟩; have B1 := Lib.hid hb; clear hb)
    go_ret
    exact ⟨rfl, B1.out⟩
  have hlI : ¬ (600 : Int) < (b.length : Int) := by omega
  by_cases he : (splitV b).err = 0
  · obtain ⟨hs, h0, hall⟩ := splitV_ok HBD.out he
    obtain ⟨l, hle⟩ : ∃ l, l = (splitV b).l := ⟨_, rfl⟩
    rw [← hle] at hs h0 hall
    rw [hs] at HS
    have HJE := Lib.hid (join_ok h0 (by rw [hall]; omega))
    have HAL := Lib.hid hall
    have HSP := Lib.hid (placesV_length l 0)
    obtain ⟨c, hc⟩ : ∃ c, c = pickV cut ((b.length : Int) + 1) := ⟨_, rfl⟩
    have hpb := pick_bd (x := cut) (n := (b.length : Int) + 1) (by omega)
    rw [← hc] at hpb
    obtain ⟨cn, hcn⟩ : ∃ cn : Nat, c = cn := ⟨c.toNat, by omega⟩
    have HPk := Lib.hid (fun W => pick_any cut ((b.length : Int) + 1) W (by omega) (by omega) hcut.1 hcut.2)
    rw [← hc, hcn] at HPk
    have hcl : cn ≤ b.length := by omega
    have HW1 := Lib.hid (cut_whole h0 hall (show b.length ≤ 4096 by omega) hcl)
    have HW0 := Lib.hid (cut_not HBD.out h0 hall (show b.length ≤ 4096 by omega) hcl)
    have hll : l.length ≤ 600 := by have := all_length l; rw [hall] at this; omega
    have hclI : (cn : Int) ≤ (b.length : Int) := by omega
    have hbc := bytes_cap HX0.out
    have hcc : (cn : Int) ≤ (cap : Int) := by omega
    have haz := add_zero
    clear hs h0 hall hc hpb hcn he hle hl hbc
    go_enter Try.func7, Try.ntmps7
    go_wp2_with (first
      | (go_at_call 10; (with_reducible refine (HA.out _).mono ?_); rintro e w1 ⟨rfl, hb⟩; have B1 := Lib.hid hb; clear hb)
      | (go_at_call 24; (with_reducible refine (HS.out _ B1.out).mono ?_); rintro e w2 ⟨hb, ⟨hbad, _⟩ | ⟨_, VM, P, Xs, rfl, hc, hp⟩⟩; exact absurd rfl hbad; dsimp only at hc hp; obtain ⟨pA, pc, hpe⟩ := owns_len hp; obtain ⟨mA, mc, hme⟩ := owns_len hc.own; rw [HSP.out] at hpe; subst hpe hme; have hC3 := hc.code (by omega); have hP3 := IsNums.of_owns hp (Nat.le_refl _); have ha := (Below.refl w2.heap.size w2).alloc (Nat.le_refl _) (.cells #[.int .i64 0, .int .i64 0] 41); have B2 := Lib.hid (B1.out.trans ((hb.trans (ha.mono hb.size)).mono B1.out.size)); have C2 := Lib.hid ((hC3.below ha (Nat.le_refl _) (Nat.le_refl _)).more ha.size); have P2 := Lib.hid ((hP3.below ha (Nat.le_refl _)).more ha.size); have D2 := Lib.hid hc; have HJ := Lib.hid ((join7_any _ l _ C2.out).mono fun e w' hh => (hh.resolve_left (fun h => h.1 HJE.out)).2); clear hb ha hc hp hC3 hP3)
      | (go_at_call 12; (with_reducible refine HJ.out.mono ?_); rintro e w3 ⟨vb, rfl, ho⟩; have B3 := Lib.hid (B2.out.trans (ho.bel.mono B2.out.size)); have C3 := Lib.hid ((C2.out.below ho.bel (Nat.le_refl _) (Nat.le_refl _)).more ho.bel.size); have P3 := Lib.hid ((P2.out.below ho.bel (Nat.le_refl _)).more ho.bel.size); have HSB := Lib.hid (sameBytes_yes _ _ b _ _ _ (by have h := ho.bytes (by rw [HAL.out]; exact HBD.out) (Nat.le_refl _); rw [HAL.out] at h; exact h) (HX.out _ B3.out)); clear ho)
      | (go_at_call 14; (with_reducible refine HSB.out.mono ?_); rintro e w4 ⟨rfl, rfl⟩)
      | (go_at_call 33; (with_reducible refine (HPk.out _).mono ?_); rintro e w5 ⟨rfl, rfl⟩))
    go_loop [11, 12] (fun u i => ∃ k : Nat, k ≤ l.length ∧ i = .int .i64 k ∧ u = .bool (wvV b.length (placesV l 0) cn k)) (fun _ i => l.length - (intOf i).toNat)
    case atStart => exact ⟨0, by omega, rfl, by simp [wvV]⟩
    case round =>
      obtain ⟨k, hk, rfl, rfl⟩ := hrel
      by_cases hlt : k < l.length
      · have hlt' : k < (placesV l 0).length := by rw [placesV_length]; exact hlt
        obtain ⟨gp, op, cp, hPe, _, hgp, hpc⟩ := P3.out.plain (by omega)
        rw [HSP.out] at hPe
        cases hPe
        have hpk := hpc k hlt'
        have hnx := wv_next (n := b.length) (c := cn) hlt'
        have hltI : (k : Int) < (l.length : Int) := by omega
        generalize (placesV l 0).getD k 0 = q at *
        cases hv : wvV b.length (placesV l 0) cn k
        · rw [hv, Bool.false_or] at hnx
          have HNX := Lib.hid hnx
          clear hnx hpc hlt' hv
          go_wp2
          go_round
          case rel => exact ⟨k + 1, by omega, by go_num, by rw [HNX.out]⟩
          case measure => simp [intOf]; omega
        · rw [hv, Bool.true_or] at hnx
          have HNX := Lib.hid hnx
          clear hnx hpc hlt' hv
          go_wp2
          go_round
          case rel => exact ⟨k + 1, by omega, by go_num, by rw [HNX.out]⟩
          case measure => simp [intOf]; omega
      · obtain rfl : k = l.length := by omega
        have hwa := wv_all (n := b.length) (ps := placesV l 0) (c := cn) (k := l.length) (by rw [placesV_length]; exact Nat.le_refl _)
        cases hv : wholeV b.length (placesV l 0) cn
        · rw [hv] at hwa
          rw [hwa]
          have HWE := Lib.hid (HW0.out hv)
          have HS3 := Lib.hid (fun W hb => split7_any _ (b.take cn) W (take_bytesA (HX.out W hb) hcl))
          have HS4 := Lib.hid (fun W hb => (HS3.out W hb).mono fun e w' hh => And.intro hh.1 (hh.2.resolve_right (fun h => HWE.out h.1)).2)
          generalize splitV (b.take cn) = sp at HS4 HWE
          obtain ⟨z, ka, sl, sps⟩ := sp
          dsimp only at HS4 HWE
          have hz0 : (z == 0) = false := by simpa using HWE.out
          clear hwa hv HS3
          go_wp2_with (go_at_call 24; (with_reducible refine (HS4.out _ B3.out).mono ?_); rintro e w6 ⟨hb, rfl⟩; have B6 := Lib.hid (B3.out.trans (hb.mono B3.out.size)); clear hb)
          go_ret
          exact ⟨by first | rfl | simp, B6.out.alloc B6.out.size _⟩
        · rw [hv] at hwa
          rw [hwa]
          obtain ⟨j, hsj, hjl⟩ := HW1.out hv
          have HS3 := Lib.hid (fun W hb => split7_any _ (b.take cn) W (take_bytesA (HX.out W hb) hcl))
          rw [hsj] at HS3
          have hjt : (l.take j).length = j := by simp; omega
          have HJT := Lib.hid hjt
          have hmcap := code_cap D2.out
          have hjI : (j : Int) ≤ (mc : Int) := by omega
          clear hwa hv hsj hjt
          go_wp2_with (first
            | (go_at_call 24; (with_reducible refine (HS3.out _ B3.out).mono ?_); rintro e w6 ⟨hb, ⟨hbad, _⟩ | ⟨_, VM, P, Xs, rfl, hc, hp⟩⟩; exact absurd rfl hbad; dsimp only at hc hp; obtain ⟨qA, qc, hpe⟩ := owns_len hp; obtain ⟨nA, nc, hme⟩ := owns_len hc.own; rw [placesV_length, HJT.out] at hpe; rw [HJT.out] at hme; subst hpe hme; have hC6 := hc.code (by rw [HJT.out]; omega); have ha := (Below.refl w6.heap.size w6).alloc (Nat.le_refl _) (.cells #[.int .i64 0, .int .i64 0] 41); have B6 := Lib.hid (B3.out.trans ((hb.trans (ha.mono hb.size)).mono B3.out.size)); have HSC := Lib.hid (sameCode_any _ _ (l.take j) (l.take j) _ ((hC6.below ha (Nat.le_refl _) (Nat.le_refl _)).more ha.size) (code_takeA ((C3.out.below (hb.trans (ha.mono hb.size)) (Nat.le_refl _) (Nat.le_refl _)).more (Nat.le_trans hb.size ha.size)) hjl)); rw [(sameCV_iff (l.take j) (l.take j)).2 rfl] at HSC; clear hb ha hc hp hC6)
            | (go_at_call 20; (with_reducible refine HSC.out.mono ?_); rintro e w7 ⟨rfl, hb⟩; have B7 := Lib.hid (B6.out.trans (hb.mono B6.out.size)); clear hb))
          go_ret
          exact ⟨by first | rfl | simp, B7.out⟩
  · have hat := splitV_err HBD.out (by omega) he
    obtain ⟨z, hz⟩ : ∃ z, z = (splitV b).err := ⟨_, rfl⟩
    obtain ⟨k, hk⟩ : ∃ k, k = (splitV b).at_ := ⟨_, rfl⟩
    have HS2 := Lib.hid (fun W hb => (HS.out W hb).mono fun e w' hh => And.intro hh.1 (hh.2.resolve_right (fun h => he h.1)).2)
    rw [← hz, ← hk] at HS2
    rw [← hk] at hat
    rw [← hz] at he
    have hne : (z != 0) = true := by simpa using he
    obtain ⟨hk0, hk1⟩ := hat
    clear HS hz hk he hl
    go_enter Try.func7, Try.ntmps7
    go_wp2_with (first
      | (go_at_call 10; (with_reducible refine (HA.out _).mono ?_); rintro e w1 ⟨rfl, hb⟩; have B1 := Lib.hid hb; clear hb)
      | (go_at_call 24; (with_reducible refine (HS2.out _ B1.out).mono ?_); rintro e w2 ⟨hb, rfl⟩; have B2 := Lib.hid (B1.out.trans (hb.mono B1.out.size)); clear hb))
    go_ret
    exact ⟨by first | rfl | simp, B2.out.alloc B2.out.size _⟩
end Go.Proofs.Ytobbjphpngckgaa
