/- FlowGoes: code flows as the document's own text has it. Contract; no condition but that the instructions lie in a row. -/
import Derived.Test.YtgoedemibdkpdaaLaws10D
import Derived.Test.YtgoedemibdkpdaaRef10C
import Derived.Test.YtgoedemibdkpdaaOver10
namespace Go.Proofs.Ytgoedemibdkpdaa
open Go.RowKit
set_option linter.unusedVariables false
set_option linter.unusedSimpArgs false

theorem OwnJ.ls {base : Nat} {W : World} {V : Value} {ll : List (List Int)} {Xs : List Value} (h : OwnJ base W V ll Xs) (hl : ll.length ≤ 1000000) : IsLs W W.heap.size V ll.length (fun i => ll.getD i []) := by
  refine ⟨by unfold maxLen; omega, ?_⟩
  rcases h.own.1.2 with ⟨rfl, h0⟩ | ⟨g, cap, cur, rfl, h1, h2, h3, h4, h5, h6⟩
  · exact .inl ⟨h0, none, 0, rfl⟩
  · exact .inr ⟨g, 0, cap, rfl, h3, (h.own.lt (g := g) (by simp [Value.ownBlock])).2, fun i hi => ⟨_, IsNums.of_owns (h.nums i hi) (Nat.le_refl _), by
      have hx : Xs[i]? = some (Xs.getD i (.slice none 0 0)) := by
        have : i < Xs.length := by rw [h.len]; exact hi
        simp [List.getD, List.getElem?_eq_getElem this]
      have := h.own.1.cells (g := g) rfl i _ hx
      rw [addr_zero_j] at this
      rw [Nat.zero_add]
      exact this⟩⟩
set_option maxRecDepth 100000 in
set_option maxHeartbeats 32000000 in
theorem goes_law (V : Value) (l : List InsV) (w : World) (h : IsCode w w.heap.size V l) : Calls Try.prog 3 #[V] w (Makes w (.bool true)) := by
  have HK := Lib.hid (fun W => awake10_any W)
  have HC := Lib.hid (fun W (hb : Below w.heap.size w W) => (h.below hb (Nat.le_refl _) (Nat.le_refl _)).more hb.size)
  obtain ⟨A, cap, hV⟩ := h.len
  subst hV
  have HLg := Lib.hid (long10_any (.slice A l.length cap) l w _ h)
  cases hlg : longV l 60
  · rw [hlg] at HLg
    have hln := (long_no hlg).1
    have HCC := Lib.hid (copyCode_any _ l w h (by omega) (long_no hlg).2)
    have HNX := Lib.hid (fun U W hc => next_any U l W hc)
    have HRC := Lib.hid (fun U W hc => reached10_any U l W hc)
    have HCK := Lib.hid (fun U W hc => check10_any U l W hc)
    have HSC := Lib.hid (fun U Z W hU hZ => sameCode_any U Z l l W hU hZ)
    rw [(sameCV_iff l l).2 rfl] at HSC
    obtain ⟨n, hn⟩ : ∃ n, n = l.length := ⟨_, rfl⟩
    have HN := Lib.hid hn
    have HRN := Lib.hid (fun A' c' W hc => rNext10_any A' n c' l W hn hc (by omega))
    have HRR := Lib.hid (fun A' c' W hc => rReached10_any A' n c' l W hn hc (by omega))
    have HRK := Lib.hid (fun A' c' W hc => rCheck_any A' n c' l W hn hc (by omega))
    rw [← hn] at hln HLg HC HCC HNX HRC ⊢
    have hnI : (n : Int) ≤ 60 := by omega
    have HMX : Hid (n ≤ maxLen) := Lib.hid (by unfold maxLen; omega)
    have hzz : (check10 l == check10 l) = true := beq_self_eq_true _
    have HLN := Lib.hid hln
    by_cases h0 : check10 l = 0
    case neg =>
      have HN2 : Hid (∀ U W, IsCode W W.heap.size U l → Calls Try.prog 11 #[U] W fun e w' => e = .returned (.tuple #[.slice none 0 0, .int .i64 (check10 l)]) ∧ Below W.heap.size W w') := Lib.hid (fun U W hc => (HNX.out U W hc).mono fun e w' hh => ⟨(hh.2.resolve_right (fun h => h0 h.1)).2, hh.1⟩)
      have HR2 : Hid (∀ U W, IsCode W W.heap.size U l → Calls Try.prog 13 #[U] W fun e w' => e = .returned (.tuple #[.slice none 0 0, .int .i64 (check10 l)]) ∧ Below W.heap.size W w') := Lib.hid (fun U W hc => (HRC.out U W hc).mono fun e w' hh => ⟨(hh.2.resolve_right (fun h => h0 h.1)).2, hh.1⟩)
      have HRN2 : Hid (∀ A' c' W, IsCode W W.heap.size (.slice A' n c') l → Calls Try.prog 12 #[.slice A' n c'] W fun e w' => e = .returned (.tuple #[.slice none 0 0, .int .i64 (check10 l)]) ∧ Below W.heap.size W w') := Lib.hid (fun A' c' W hc => (HRN.out A' c' W hc).mono fun e w' hh => ⟨(hh.2.resolve_right (fun h => h0 h.1)).2, hh.1⟩)
      have HRR2 : Hid (∀ A' c' W, IsCode W W.heap.size (.slice A' n c') l → Calls Try.prog 14 #[.slice A' n c'] W fun e w' => e = .returned (.tuple #[.slice none 0 0, .int .i64 (check10 l)]) ∧ Below W.heap.size W w') := Lib.hid (fun A' c' W hc => (HRR.out A' c' W hc).mono fun e w' hh => ⟨(hh.2.resolve_right (fun h => h0 h.1)).2, hh.1⟩)
      have HSL := Lib.hid (fun W => sameLists_yes (.slice none 0 0) (.slice none 0 0) 0 (fun _ => []) W 0 0 ⟨by simp, .inl ⟨rfl, none, 0, rfl⟩⟩ ⟨by simp, .inl ⟨rfl, none, 0, rfl⟩⟩)
      have HSB := Lib.hid (fun W => sameBools_yes (.slice none 0 0) (.slice none 0 0) 0 (fun _ => false) W 0 0 ⟨by simp, .inl ⟨rfl, none, 0, rfl⟩⟩ ⟨by simp, .inl ⟨rfl, none, 0, rfl⟩⟩)
      generalize check10 l = z at *
      clear h hlg hn h0 HNX HRC HRN HRR
      go_enter Try.func3, Try.ntmps3
      go_wp2_with (first
        | (go_at_call 8; (with_reducible refine HLg.out.mono ?_); rintro e w1 ⟨rfl, rfl⟩)
        | (go_at_call 10; (with_reducible refine HCC.out.mono ?_); rintro e w1 ⟨hb, U, Xs, rfl, ho⟩; obtain ⟨uA, uc, hue⟩ := owns_len ho.own; rw [← HN.out] at hue; subst hue; have HU1 := Lib.hid (ho.code (by have := HN.out; have := HLN.out; omega)); have B1 := Lib.hid hb; have HV1 := Lib.hid (HC.out _ hb); clear ho hb)
        | (go_at_call 11; (with_reducible refine (HN2.out _ _ HU1.out).mono ?_); rintro e w2 ⟨rfl, hb⟩; have B2 := Lib.hid hb; have HV2 := Lib.hid ((HV1.out.below hb (Nat.le_refl _) (Nat.le_refl _)).more hb.size); clear hb)
        | (go_at_call 12; (with_reducible refine (HRN2.out _ _ _ HV2.out).mono ?_); rintro e w3 ⟨rfl, hb⟩; have B3 := Lib.hid (B2.out.trans (hb.mono B2.out.size)); have HU3 := Lib.hid ((HU1.out.below B3.out (Nat.le_refl _) (Nat.le_refl _)).more B3.out.size); clear hb)
        | (go_at_call 13; (with_reducible refine (HR2.out _ _ HU3.out).mono ?_); rintro e w4 ⟨rfl, hb⟩; have B4 := Lib.hid (B3.out.trans (hb.mono B3.out.size)); have HV4 := Lib.hid ((HV1.out.below B4.out (Nat.le_refl _) (Nat.le_refl _)).more B4.out.size); clear hb)
        | (go_at_call 14; (with_reducible refine (HRR2.out _ _ _ HV4.out).mono ?_); rintro e w5 ⟨rfl, hb⟩; have B5 := Lib.hid (B4.out.trans (hb.mono B4.out.size)); clear hb)
        | (go_at_call 15; (with_reducible refine (HSL.out w5).mono ?_); rintro e w6 ⟨rfl, q6, hw6⟩; have B6 := Lib.hid (show Below w1.heap.size w1 w6 by rw [hw6]; exact below_drewN B5.out q6); clear hw6)
        | (go_at_call 16; (with_reducible refine (HSB.out w6).mono ?_); rintro e w7 ⟨rfl, q7, hw7⟩; have B7 := Lib.hid (show Below w1.heap.size w1 w7 by rw [hw7]; exact below_drewN B6.out q7); have HU7 := Lib.hid ((HU1.out.below B7.out (Nat.le_refl _) (Nat.le_refl _)).more B7.out.size); clear hw7)
        | (go_at_call 17; (with_reducible refine (HCK.out _ _ HU7.out).mono ?_); rintro e w8 ⟨rfl, hb⟩; have B8 := Lib.hid (B7.out.trans (hb.mono B7.out.size)); have HV8 := Lib.hid ((HV1.out.below B8.out (Nat.le_refl _) (Nat.le_refl _)).more B8.out.size); clear hb)
        | (go_at_call 18; (with_reducible refine (HRK.out _ _ _ HV8.out).mono ?_); rintro e w9 ⟨rfl, hb⟩; have B9 := Lib.hid (B8.out.trans (hb.mono B8.out.size)); clear hb))
      go_loopw [13] (fun i wr => i = .int .i64 0 ∧ Hid (Below w1.heap.size w1 wr)) (fun _ _ => 0)
      case atStart => exact ⟨rfl, B9.out⟩
      case round =>
        obtain ⟨rfl, HR⟩ := hrel
        have HUe := Lib.hid ((HU1.out.below HR.out (Nat.le_refl _) (Nat.le_refl _)).more HR.out.size)
        have HVe := Lib.hid ((HV1.out.below HR.out (Nat.le_refl _) (Nat.le_refl _)).more HR.out.size)
        go_wp2_with (first
          | (go_at_call 20; (with_reducible refine (HSC.out _ _ _ HUe.out HVe.out).mono ?_); rintro e w6 ⟨rfl, hb⟩; have R6 := Lib.hid (HR.out.trans (hb.mono HR.out.size)); clear hb)
          | (go_at_call 9; (with_reducible refine (HK.out _).mono ?_); rintro e w7 ⟨rfl, hb⟩; have R7 := Lib.hid (B1.out.trans ((R6.out.trans (hb.mono R6.out.size)).mono B1.out.size)); clear hb))
        go_ret
        exact ⟨by first | rfl | simp, R7.out⟩
    case pos =>
      have HN2 : Hid (∀ U W, IsCode W W.heap.size U l → Calls Try.prog 11 #[U] W fun e w' => Below W.heap.size W w' ∧ ∃ g Xs, e = .returned (.tuple #[.slice (some ⟨g, 0, none⟩) n n, .int .i64 0]) ∧ Lists W.heap.size w' g n Xs (nextV l)) := Lib.hid (fun U W hc => (HNX.out U W hc).mono fun e w' hh => ⟨hh.1, (hh.2.resolve_left (fun h => h.1 h0)).2⟩)
      have HR2 : Hid (∀ U W, IsCode W W.heap.size U l → Calls Try.prog 13 #[U] W fun e w' => Below W.heap.size W w' ∧ ∃ gb r, e = .returned (.tuple #[.slice (some ⟨gb, 0, none⟩) n n, .int .i64 0]) ∧ IsReach n (nextV l) r ∧ IsBools w' w'.heap.size (.slice (some ⟨gb, 0, none⟩) n n) n (fun i => r.getD i false)) := Lib.hid (fun U W hc => (HRC.out U W hc).mono fun e w' hh => by
        obtain ⟨_, gb, r, he, _, hr, hrow⟩ := hh.2.resolve_left (fun h => h.1 h0)
        exact ⟨hh.1, gb, r, he, hr, hrow.bools HMX.out⟩)
      have HRN2 : Hid (∀ A' c' W, IsCode W W.heap.size (.slice A' n c') l → Calls Try.prog 12 #[.slice A' n c'] W fun e w' => Below W.heap.size W w' ∧ ∃ B b, e = .returned (.tuple #[.slice B n b, .int .i64 0]) ∧ IsLs w' w'.heap.size (.slice B n b) n (nextV l)) := Lib.hid (fun A' c' W hc => (HRN.out A' c' W hc).mono fun e w' hh => by
        obtain ⟨_, V, Xs, he, ho⟩ := hh.2.resolve_left (fun h => h.1 h0)
        have h2 := ho.ls (by rw [nextsV_length, ← HN.out]; have := HLN.out; omega)
        rw [nextsV_length, ← HN.out] at h2
        have h3 := h2.congr (fun i hi => nextsV_at (by rw [← HN.out]; exact hi))
        obtain ⟨B, b, rfl⟩ := h3.len
        exact ⟨hh.1, B, b, he, h3⟩)
      have HRR2 : Hid (∀ A' c' W, IsCode W W.heap.size (.slice A' n c') l → Calls Try.prog 14 #[.slice A' n c'] W fun e w' => Below W.heap.size W w' ∧ ∃ gb r, e = .returned (.tuple #[.slice (some ⟨gb, 0, none⟩) n n, .int .i64 0]) ∧ IsReach n (nextV l) r ∧ IsBools w' w'.heap.size (.slice (some ⟨gb, 0, none⟩) n n) n (fun i => r.getD i false)) := Lib.hid (fun A' c' W hc => (HRR.out A' c' W hc).mono fun e w' hh => by
        obtain ⟨_, gb, r, he, _, hr, hrow⟩ := hh.2.resolve_left (fun h => h.1 h0)
        exact ⟨hh.1, gb, r, he, hr, hrow.bools HMX.out⟩)
      rw [h0] at HCK HRK
      clear h hlg hn h0 HNX HRC HRN HRR hzz
      go_enter Try.func3, Try.ntmps3
      go_wp2_with (first
        | (go_at_call 8; (with_reducible refine HLg.out.mono ?_); rintro e w1 ⟨rfl, rfl⟩)
        | (go_at_call 10; (with_reducible refine HCC.out.mono ?_); rintro e w1 ⟨hb, U, Xs, rfl, ho⟩; obtain ⟨uA, uc, hue⟩ := owns_len ho.own; rw [← HN.out] at hue; subst hue; have HU1 := Lib.hid (ho.code (by have := HN.out; have := HLN.out; omega)); have B1 := Lib.hid hb; have HV1 := Lib.hid (HC.out _ hb); clear ho hb)
        | (go_at_call 11; (with_reducible refine (HN2.out _ _ HU1.out).mono ?_); rintro e w2 ⟨hb, g, Ys, rfl, hl⟩; have B2 := Lib.hid hb; have HL2 := Lib.hid hl; have HV2 := Lib.hid ((HV1.out.below hb (Nat.le_refl _) (Nat.le_refl _)).more hb.size); clear hb hl)
        | (go_at_call 12; (with_reducible refine (HRN2.out _ _ _ HV2.out).mono ?_); rintro e w3 ⟨hb, nB, nb, rfl, hl⟩; have B3 := Lib.hid (B2.out.trans (hb.mono B2.out.size)); have D3 := Lib.hid hb; have HM3 := Lib.hid hl; have HU3 := Lib.hid ((HU1.out.below B3.out (Nat.le_refl _) (Nat.le_refl _)).more B3.out.size); clear hb hl)
        | (go_at_call 13; (with_reducible refine (HR2.out _ _ HU3.out).mono ?_); rintro e w4 ⟨hb, gb, r, rfl, hr, hrow⟩; have B4 := Lib.hid (B3.out.trans (hb.mono B3.out.size)); have D4 := Lib.hid (D3.out.trans (hb.mono D3.out.size)); have HM4 := Lib.hid ((HM3.out.below hb (Nat.le_refl _)).more hb.size); have HR4 := Lib.hid hr; have HQ4 := Lib.hid hrow; have HV4 := Lib.hid ((HV1.out.below B4.out (Nat.le_refl _) (Nat.le_refl _)).more B4.out.size); clear hb hr hrow)
        | (go_at_call 14; (with_reducible refine (HRR2.out _ _ _ HV4.out).mono ?_); rintro e w5 ⟨hb, gc, r2, rfl, hr, hrow⟩; have B5 := Lib.hid (B4.out.trans (hb.mono B4.out.size)); have D5 := Lib.hid (D4.out.trans (hb.mono D4.out.size)); have HM5 := Lib.hid ((HM4.out.below hb (Nat.le_refl _)).more hb.size); have HE5 := hr.uniq HR4.out; subst HE5; have HQ5 := Lib.hid ((HQ4.out.below hb (Nat.le_refl _)).more hb.size); have HP5 := Lib.hid hrow; have HA5 := Lib.hid ((HL2.out.ls HMX.out).below D5.out (Nat.le_refl _)); clear hb hr hrow)
        | (go_at_call 15; (with_reducible refine (sameLists_yes _ _ n (nextV l) w5 _ _ HA5.out HM5.out).mono ?_); rintro e w6 ⟨rfl, q6, hw6⟩; have hb : Below w5.heap.size w5 w6 := (by rw [hw6]; exact below_drewN (Below.refl _ _) q6); have B6 := Lib.hid (B5.out.trans (hb.mono B5.out.size)); have D6 := Lib.hid (D5.out.trans (hb.mono D5.out.size)); have HQ6 := Lib.hid (HQ5.out.below hb (Nat.le_refl _)); have HP6 := Lib.hid (HP5.out.below hb (Nat.le_refl _)); clear hw6 hb)
        | (go_at_call 16; (with_reducible refine (sameBools_yes _ _ n _ w6 _ _ HQ6.out HP6.out).mono ?_); rintro e w7 ⟨rfl, q7, hw7⟩; have hb : Below w6.heap.size w6 w7 := (by rw [hw7]; exact below_drewN (Below.refl _ _) q7); have B7 := Lib.hid (B6.out.trans (hb.mono B6.out.size)); have D7 := Lib.hid (D6.out.trans (hb.mono D6.out.size)); have HU7 := Lib.hid ((HU1.out.below B7.out (Nat.le_refl _) (Nat.le_refl _)).more B7.out.size); clear hw7 hb)
        | (go_at_call 17; (with_reducible refine (HCK.out _ _ HU7.out).mono ?_); rintro e w8 ⟨rfl, hb⟩; have B8 := Lib.hid (B7.out.trans (hb.mono B7.out.size)); have D8 := Lib.hid (D7.out.trans (hb.mono D7.out.size)); have HV8 := Lib.hid ((HV1.out.below B8.out (Nat.le_refl _) (Nat.le_refl _)).more B8.out.size); clear hb)
        | (go_at_call 18; (with_reducible refine (HRK.out _ _ _ HV8.out).mono ?_); rintro e w9 ⟨rfl, hb⟩; have B9 := Lib.hid (B8.out.trans (hb.mono B8.out.size)); have D9 := Lib.hid (D8.out.trans (hb.mono D8.out.size)); have OV9 := Lib.hid (OvAt.of HL2.out B2.out D9.out); clear hb))
      go_loopw [13] (fun i wr => ∃ k : Nat, k ≤ n ∧ i = .int .i64 k ∧ Hid (OvAt w1 wr g n Ys)) (fun i _ => n - (intOf i).toNat)
      case atStart => exact ⟨0, by omega, rfl, OV9.out⟩
      case round =>
        obtain ⟨k, hk, rfl, HR⟩ := hrel
        by_cases hlt : k < n
        · have x0 := HR.out.row.cell hlt
          have HNM := HR.out.nums k hlt
          obtain ⟨m, zs, hzs⟩ := HNM
          obtain ⟨yA, yc, hye⟩ := owns_len hzs
          have HOV := Lib.hid (over10_any (Ys k) w1.heap.size wr (HR.out.nums k hlt))
          have HST := Lib.hid (fun w' ho => HR.out.step (w' := w') hlt ho)
          rw [hye] at x0 HOV HST
          have k0 : (0 : Int) ≤ (k : Int) := by omega
          have k1 : (k : Int) < (n : Int) := by omega
          clear hzs hye
          go_wp2_with (go_at_call 19; (with_reducible refine HOV.out.mono ?_); rintro e w10 ⟨rfl, ho⟩; have HO10 := Lib.hid (HST.out _ ho); clear ho)
          go_roundw
          case rel => exact ⟨k + 1, by omega, by go_num, HO10.out⟩
          case measure => simp [intOf]; omega
        · obtain rfl : k = n := by omega
          have HUe := Lib.hid ((HU1.out.below HR.out.bel (Nat.le_refl _) (Nat.le_refl _)).more HR.out.bel.size)
          have HVe := Lib.hid ((HV1.out.below HR.out.bel (Nat.le_refl _) (Nat.le_refl _)).more HR.out.bel.size)
          go_wp2_with (first
            | (go_at_call 20; (with_reducible refine (HSC.out _ _ _ HUe.out HVe.out).mono ?_); rintro e w6 ⟨rfl, hb⟩; have R6 := Lib.hid (HR.out.bel.trans (hb.mono HR.out.bel.size)); clear hb)
            | (go_at_call 9; (with_reducible refine (HK.out _).mono ?_); rintro e w7 ⟨rfl, hb⟩; have R7 := Lib.hid (B1.out.trans ((R6.out.trans (hb.mono R6.out.size)).mono B1.out.size)); clear hb))
          go_ret
          exact ⟨by first | rfl | simp, R7.out⟩
  · rw [hlg] at HLg
    clear hlg HC h
    go_enter Try.func3, Try.ntmps3
    go_wp2_with (first
      | (go_at_call 8; (with_reducible refine HLg.out.mono ?_); rintro e w2 ⟨rfl, rfl⟩)
      | (go_at_call 9; (with_reducible refine (HK.out _).mono ?_); rintro e w1 ⟨rfl, hb⟩; have B1 := Lib.hid hb; clear hb))
    go_ret
    exact ⟨rfl, B1.out⟩
end Go.Proofs.Ytgoedemibdkpdaa
