/- The document's own leader, block and Blocks of layer 10. Contracts; no condition but that the instructions are few. -/
import Derived.Test.YtgoedemibdkpdaaGreatRef10B
namespace Go.Proofs.YtgoedemibdkpdaaGreat
open Go.RowKit Go.Shelf
set_option linter.unusedVariables false
set_option linter.unusedSimpArgs false

set_option maxHeartbeats 4000000 in
theorem rblock_any (X : Value) (l : List BlkV) (z : Int) (w : World) (B : Nat) (h : IsBlks w B X l) : Calls Tryz.prog 26 #[X, .int .i64 z] w fun e w' => e = .returned (.int .i64 (atV (l.map BlkV.fr) z)) ∧ w = w' := by
  obtain ⟨A, cap, rfl⟩ := h.len
  have hl := h.1
  unfold maxLen at hl
  have hgl : ∀ j, j < l.length → (l.map BlkV.fr).getD j 0 = (l.getD j .zero).fr := fun j hj => by simp [List.getD, List.getElem?_eq_getElem hj]
  have HGL := Lib.hid hgl
  have HML : Hid ((l.map BlkV.fr).length = l.length) := Lib.hid (by simp)
  obtain ⟨n, hn⟩ : ∃ n, n = l.length := ⟨_, rfl⟩
  have HN := Lib.hid hn
  have HX := Lib.hid h
  rw [← hn] at HX hl ⊢
  clear h hn hgl
  go_enter Tryz.func26, Tryz.ntmps26
  go_wp2
  go_loop [5] (fun i => ∃ k : Nat, k ≤ n ∧ i = .int .i64 k ∧ Hid (∀ j, j < k → (l.map BlkV.fr).getD j 0 ≠ z)) (fun i => n - (intOf i).toNat)
  case atStart => exact ⟨0, by omega, rfl, fun j hj => by omega⟩
  case round =>
    obtain ⟨k, hk, rfl, HA⟩ := hrel
    by_cases hlt : k < n
    · have hkl : k < l.length := by rw [← HN.out]; exact hlt
      obtain ⟨b, off, cap', hV, _, _, hc⟩ := HX.out.plain (by rw [← HN.out]; omega)
      rw [← HN.out] at hV
      cases hV
      obtain ⟨Y, _, hc2⟩ := hc k hkl
      have d1 : w.cell? ⟨b, off + k * 3, none⟩ = some (.int .i64 (l.getD k .zero).fr) := hc2 0 (by omega)
      have k0 : (0 : Int) ≤ (k : Int) := by omega
      have k1 : (k : Int) < (n : Int) := by omega
      rw [← HGL.out k hkl] at d1
      clear hc hc2
      by_cases he : (l.map BlkV.fr).getD k 0 = z
      · have HE : Hid (atV (l.map BlkV.fr) z = (k : Int)) := Lib.hid (at_first (by rw [HML.out]; exact hkl) he HA.out)
        rw [he] at d1
        clear he
        go_wp2
        go_ret
        exact ⟨by rw [HE.out]; rfl, rfl⟩
      · have HE := Lib.hid he
        obtain ⟨x, hx⟩ : ∃ x, x = (l.map BlkV.fr).getD k 0 := ⟨_, rfl⟩
        rw [← hx] at d1 he
        have e1 : (x == z) = false := by simpa using he
        clear he hx
        go_wp2
        go_round
        case rel => exact ⟨k + 1, by omega, by go_num, fun j hj => by
          by_cases e : j = k
          · subst e; exact HE.out
          · exact HA.out j (by omega)⟩
        case measure => simp [intOf]; omega
    · obtain rfl : k = n := by omega
      have HE : Hid (atV (l.map BlkV.fr) z = -1) := Lib.hid (at_never (fun j hj => HA.out j (by rw [HN.out, ← HML.out]; exact hj)))
      go_wp2
      go_ret
      exact ⟨by rw [HE.out]; rfl, rfl⟩
theorem led_yes {l : List InsV} {i : Nat} (h : i = 0 ∨ 0 ≤ tgtV (l.getD (i - 1) .zero) ∨ flsV (l.getD (i - 1) .zero) = false ∨ ∃ k, k < l.length ∧ tgtV (l.getD k .zero) = (placesV l 0).getD i 0) : ledB l i = true := by
  unfold ledB
  simp only [Bool.or_eq_true, decide_eq_true_eq, Bool.not_eq_true', List.any_eq_true, List.mem_range]
  rcases h with h | h | h | ⟨k, h⟩
  · exact .inl (.inl (.inl h))
  · exact .inl (.inl (.inr h))
  · exact .inl (.inr h)
  · exact .inr ⟨k, h⟩
theorem led_no {l : List InsV} {i : Nat} (h0 : i ≠ 0) (h1 : ¬ 0 ≤ tgtV (l.getD (i - 1) .zero)) (h2 : flsV (l.getD (i - 1) .zero) = true) (h3 : ∀ k, k < l.length → tgtV (l.getD k .zero) ≠ (placesV l 0).getD i 0) : ledB l i = false := by
  cases hb : ledB l i with
  | false => rfl
  | true =>
    unfold ledB at hb
    simp only [Bool.or_eq_true, decide_eq_true_eq, Bool.not_eq_true', List.any_eq_true, List.mem_range] at hb
    rcases hb with ((h | h) | h) | ⟨k, hk, h⟩
    · exact absurd h h0
    · exact absurd h h1
    · rw [h2] at h; cases h
    · exact absurd h (h3 k hk)
set_option maxRecDepth 100000 in
set_option maxHeartbeats 8000000 in
theorem rleader_any (A : Option Addr) (n cap : Nat) (P : Value) (l : List InsV) (i : Nat) (w : World) (hn : n = l.length) (h : IsCode w w.heap.size (.slice A n cap) l) (hP : IsNums .i64 w w.heap.size P (placesV l 0)) (hi : i < n) (hs : n ≤ 4096) :
    Calls Tryz.prog 24 #[.slice A n cap, P, .int .i64 i] w (Makes w (.bool (ledB l i))) := by
  have HC := Lib.hid h
  have HN := Lib.hid hn
  have hsI : (n : Int) ≤ 4096 := by omega
  have i0 : (0 : Int) ≤ (i : Int) := by omega
  have i1 : (i : Int) < (n : Int) := by omega
  obtain ⟨pb, po, pc, hV, _, hpB, hpc⟩ := hP.plain (by rw [placesV_length]; omega)
  rw [placesV_length, ← hn] at hV
  subst hV
  have HPI : Hid (∀ W, Below w.heap.size w W → W.cell? ⟨pb, po + i, none⟩ = some (.int .i64 ((placesV l 0).getD i 0))) := Lib.hid (fun W hb => (hb.cell (p := ⟨pb, po + i, none⟩) hpB).trans (hpc i (by rw [placesV_length]; omega)))
  clear hP hpB hpc
  by_cases hz : i = 0
  · have HE := Lib.hid (led_yes (l := l) (i := i) (.inl hz))
    subst hz
    clear h hn HPI
    go_enter Tryz.func24, Tryz.ntmps24
    go_wp2
    go_ret
    rw [HE.out]
    exact ⟨rfl, Below.refl _ _⟩
  · obtain ⟨j, hj⟩ : ∃ j, i = j + 1 := ⟨i - 1, by omega⟩
    have hji : i - 1 = j := by omega
    obtain ⟨b, off, op, a, b1, c, n1, args, YA, Yc, hA, hy, hin, hcc⟩ := code_cells h hn (show j < n by omega)
    cases hA
    have HCC := Lib.hid hcc
    obtain ⟨hX, c0, c1, c2, c3, c4, c5⟩ := hcc w (Below.refl _ _)
    have HFL := Lib.hid (fun W => rfalls_any op a b1 c n1 (.slice YA args.length Yc) W)
    have HTG := Lib.hid (fun W => rtarget_any op a b1 c n1 (.slice YA args.length Yc) args W)
    rw [← hy] at HTG
    have hfe : fallsV op = flsV (l.getD j .zero) := by rw [hy]; rfl
    rw [hfe] at HFL
    have e0 : ((i : Int) == 0) = false := by simpa using hz
    have hw1 : wrap64 ((i : Int) - 1) = (j : Int) := by unfold wrap64; omega
    have hw2 : (i : Int) - 1 = (j : Int) := by omega
    have j0 : (0 : Int) ≤ (j : Int) := by omega
    have j1 : (j : Int) < (n : Int) := by omega
    have HZ := Lib.hid hz
    have HJ := Lib.hid hji
    by_cases ht : 0 ≤ tgtV (l.getD j .zero)
    · have HE := Lib.hid (led_yes (l := l) (i := i) (.inr (.inl (by rw [hji]; exact ht))))
      generalize tgtV (l.getD j .zero) = t at *
      clear h hn hz hj hji hcc hX hin hy hfe HPI
      go_enter Tryz.func24, Tryz.ntmps24
      go_wp2_with (go_at_call 39; (with_reducible refine (HTG.out w).mono ?_); rintro e w5 ⟨rfl, hb⟩; have HB5 := Lib.hid hb; clear hb)
      go_ret
      rw [HE.out]
      exact ⟨rfl, HB5.out⟩
    · cases hf : flsV (l.getD j .zero) with
      | false =>
        have HE := Lib.hid (led_yes (l := l) (i := i) (.inr (.inr (.inl (by rw [hji]; exact hf)))))
        rw [hf] at HFL
        generalize tgtV (l.getD j .zero) = t at *
        clear h hn hz hj hji hcc hX hin hy hfe hf HPI
        go_enter Tryz.func24, Tryz.ntmps24
        go_wp2_with (first
          | (go_at_call 39; (with_reducible refine (HTG.out w).mono ?_); rintro e w5 ⟨rfl, hb⟩; have HB5 := Lib.hid hb; obtain ⟨hX5, d0, d1, d2, d3, d4, d5⟩ := HCC.out w5 hb; clear hb hX5)
          | (go_at_call 41; (with_reducible refine (HFL.out w5).mono ?_); rintro e w6 ⟨rfl, hb⟩; have HB6 := Lib.hid (HB5.out.trans (hb.mono HB5.out.size)); clear hb))
        go_ret
        rw [HE.out]
        exact ⟨rfl, HB6.out⟩
      | true =>
        rw [hf] at HFL
        have HF := Lib.hid hf
        have HT := Lib.hid ht
        generalize htt : tgtV (l.getD j .zero) = t at HTG ht
        clear h hn hz hj hji hcc hX hin hy hfe hf htt
        go_enter Tryz.func24, Tryz.ntmps24
        go_wp2_with (first
          | (go_at_call 39; (with_reducible refine (HTG.out w).mono ?_); rintro e w5 ⟨rfl, hb⟩; have HB5 := Lib.hid hb; obtain ⟨hX5, d0, d1, d2, d3, d4, d5⟩ := HCC.out w5 hb; clear hb hX5)
          | (go_at_call 41; (with_reducible refine (HFL.out w5).mono ?_); rintro e w6 ⟨rfl, hb⟩; have HB6 := Lib.hid (HB5.out.trans (hb.mono HB5.out.size)); clear hb))
        go_loopw [7] (fun v wr => ∃ k : Nat, k ≤ n ∧ v = .int .i64 k ∧ Hid (Below w.heap.size w wr ∧ ∀ m, m < k → tgtV (l.getD m .zero) ≠ (placesV l 0).getD i 0)) (fun v _ => n - (intOf v).toNat)
        case atStart => exact ⟨0, by omega, rfl, HB6.out, fun m hm => by omega⟩
        case round =>
          obtain ⟨k, hk, rfl, HR⟩ := hrel
          have HB := Lib.hid HR.out.1
          have HNO := Lib.hid HR.out.2
          clear HR
          by_cases hlt : k < n
          · obtain ⟨b', off', op2, a2, b2, c2, n2, args2, ZA, Zc, hA, hy, hin, hcc⟩ := code_cells HC.out HN.out hlt
            cases hA
            have hkl : k < l.length := by rw [← HN.out]; exact hlt
            have HTK := Lib.hid (fun W => rtarget_any op2 a2 b2 c2 n2 (.slice ZA args2.length Zc) args2 W)
            rw [← hy] at HTK
            have HKP : Hid (∀ W, Below w.heap.size w W → W.cell? ⟨b, off + k * 6, none⟩ = some (.int .i64 op2) ∧ W.cell? ⟨b, off + k * 6 + 1, none⟩ = some (.int .i64 a2) ∧ W.cell? ⟨b, off + k * 6 + 2, none⟩ = some (.int .i64 b2) ∧ W.cell? ⟨b, off + k * 6 + 3, none⟩ = some (.int .i64 c2) ∧ W.cell? ⟨b, off + k * 6 + 4, none⟩ = some (.int .i64 n2) ∧ W.cell? ⟨b, off + k * 6 + 5, none⟩ = some (.slice ZA args2.length Zc) ∧ W.cell? ⟨pb, po + i, none⟩ = some (.int .i64 ((placesV l 0).getD i 0))) := Lib.hid (fun W hb => by
              obtain ⟨_, h0, h1, h2, h3, h4, h5⟩ := hcc W hb
              exact ⟨h0, h1, h2, h3, h4, h5, HPI.out W hb⟩)
            have HYE : Hid (tgtV (l.getD k .zero) = (placesV l 0).getD i 0 → ledB l i = true) := Lib.hid (fun he => led_yes (.inr (.inr (.inr ⟨k, hkl, he⟩))))
            have HNE : Hid (tgtV (l.getD k .zero) ≠ (placesV l 0).getD i 0 → ∀ m, m < k + 1 → tgtV (l.getD m .zero) ≠ (placesV l 0).getD i 0) := Lib.hid (fun he m hm => by
              by_cases e : m = k
              · subst e; exact he
              · exact HNO.out m (by omega))
            obtain ⟨g0, g1, g2, g3, g4, g5, g6⟩ := HKP.out wr HB.out
            have k0 : (0 : Int) ≤ (k : Int) := by omega
            have k1 : (k : Int) < (n : Int) := by omega
            clear hcc hy hin hkl
            generalize htk : tgtV (l.getD k .zero) = tk at HTK HYE HNE
            generalize hpv : (placesV l 0).getD i 0 = pv at HKP HYE HNE g6 HNO
            by_cases he : tk = pv
            · have HE := Lib.hid (HYE.out he)
              subst he
              have e5 : (tk == tk) = true := by simp
              clear htk hpv HNE HYE
              go_wp2
              go_region_held3 (fun W => W.cell? ⟨b, off + k * 6, none⟩ = some (.int .i64 op2) ∧ W.cell? ⟨b, off + k * 6 + 1, none⟩ = some (.int .i64 a2) ∧ W.cell? ⟨b, off + k * 6 + 2, none⟩ = some (.int .i64 b2) ∧ W.cell? ⟨b, off + k * 6 + 3, none⟩ = some (.int .i64 c2) ∧ W.cell? ⟨b, off + k * 6 + 4, none⟩ = some (.int .i64 n2) ∧ W.cell? ⟨b, off + k * 6 + 5, none⟩ = some (.slice ZA args2.length Zc) ∧ W.cell? ⟨pb, po + i, none⟩ = some (.int .i64 tk)) (first | with_reducible exact HK9.out | go_keep)
                ((go_at_call 39; (with_reducible refine (HTK.out wr.drew).mono ?_); rintro e w9 ⟨rfl, hb⟩; have HB9 := Lib.hid (HB.out.drew.trans (hb.mono HB.out.size)); have HK9 := Lib.hid (HKP.out w9 HB9.out); clear hb))
              all_goals
                go_wp2
                go_ret
                rw [HE.out]
                exact ⟨rfl, HB9.out⟩
            · have HE := Lib.hid (HNE.out he)
              have e5 : (tk == pv) = false := by simpa using he
              clear htk HNE HYE he
              go_wp2
              go_region_held3 (fun W => W.cell? ⟨b, off + k * 6, none⟩ = some (.int .i64 op2) ∧ W.cell? ⟨b, off + k * 6 + 1, none⟩ = some (.int .i64 a2) ∧ W.cell? ⟨b, off + k * 6 + 2, none⟩ = some (.int .i64 b2) ∧ W.cell? ⟨b, off + k * 6 + 3, none⟩ = some (.int .i64 c2) ∧ W.cell? ⟨b, off + k * 6 + 4, none⟩ = some (.int .i64 n2) ∧ W.cell? ⟨b, off + k * 6 + 5, none⟩ = some (.slice ZA args2.length Zc) ∧ W.cell? ⟨pb, po + i, none⟩ = some (.int .i64 pv)) (first | with_reducible exact HK9.out | go_keep)
                ((go_at_call 39; (with_reducible refine (HTK.out wr.drew).mono ?_); rintro e w9 ⟨rfl, hb⟩; have HB9 := Lib.hid (HB.out.drew.trans (hb.mono HB.out.size)); have HK9 := Lib.hid (HKP.out w9 HB9.out); clear hb))
              all_goals
                go_wp2
                go_roundw
                case rel => exact ⟨k + 1, by omega, by go_num, HB9.out, HE.out⟩
                case measure => simp [intOf]; omega
          · obtain rfl : k = n := by omega
            have HE := Lib.hid (led_no (l := l) (i := i) HZ.out (by rw [HJ.out]; have := HT.out; omega) (by rw [HJ.out]; exact HF.out) (fun m hm => HNO.out m (by rw [HN.out]; exact hm)))
            go_wp2
            go_ret
            rw [HE.out]
            exact ⟨rfl, HB.out⟩
end Go.Proofs.YtgoedemibdkpdaaGreat
