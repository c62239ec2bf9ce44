/- FlowBlocks: which blocks code has, as the document's own text has it. Contract; no condition but that the instructions lie in a row. -/
import Derived.Test.YtgoedemibdkpdaaGreatLaws10C
import Derived.Test.YtgoedemibdkpdaaGreatRef10E
import Derived.Test.YtgoedemibdkpdaaGreatOver10
namespace Go.Proofs.YtgoedemibdkpdaaGreat
open Go.RowKit
set_option linter.unusedVariables false
set_option linter.unusedSimpArgs false

/-- Blocks in a row whose lists are written over. -/
structure OvBk (w wr : World) (g m c : Nat) (lb : List BlkV) (Xs : List Value) : Prop where
  bel : Below w.heap.size w wr
  row : Owns wr w.heap.size 34 3 AnyCell (.slice (some ⟨g, 0, none⟩) m c) m (cellsK lb Xs)
  nums : ∀ i, i < m → AnyN w.heap.size wr (Xs.getD i (.slice none 0 0))
theorem anyN_apart {base b2 : Nat} {W : World} {X : Value} {g n cap : Nat} {cs : List Value} (h : Owns W base 34 3 AnyCell (.slice (some ⟨g, 0, none⟩) n cap) n cs) (hX : AnyN b2 W X) : ¬ OwnB X g := by
  intro hg
  obtain ⟨m, zs, hX⟩ := hX
  rcases hX.1.2 with ⟨rfl, _⟩ | ⟨g2, cap2, cur, rfl, h1, h2, _⟩
  · simp [OwnB, Value.ownBlock] at hg
  · have e : g2 = g := by simpa [OwnB, Value.ownBlock] using hg
    subst e
    obtain ⟨c2, h3⟩ := h.typed (g := g2) (by simp [Value.ownBlock])
    rw [h2] at h3
    injection h3 with h3
    injection h3 with _ h3 _
    exact absurd h3 (by decide)
theorem OvBk.step {w wr w' : World} {g m c : Nat} {lb : List BlkV} {Xs : List Value} (h : OvBk w wr g m c lb Xs) {k : Nat} (hk : k < m) (ho : Over10 (Xs.getD k (.slice none 0 0)) wr w') : OvBk w w' g m c lb Xs :=
  ⟨But.below h.bel ho.1 h.bel.size (fun g' hg => anyN_ge (h.nums k hk) hg), Owns.of_blocks h.row (fun g' hg' => by
    have e : g = g' := by simpa [Value.ownBlock] using hg'
    subst e
    exact ho.1.block g (h.row.lt (g := g) (by simp [Value.ownBlock])).2 (anyN_apart h.row (h.nums k hk))) ho.1.size, fun i hi => ho.2 _ _ (h.nums i hi)⟩
theorem OvBk.of {w w1 wr : World} {g m c : Nat} {lb : List BlkV} {Xs : List Value} (hl : OwnK w.heap.size w1 (.slice (some ⟨g, 0, none⟩) m c) lb Xs) (hm : m = lb.length) (hb0 : Below w.heap.size w w1) (hb : Below w1.heap.size w1 wr) : OvBk w wr g m c lb Xs := by
  have ho := hl.own
  rw [← hm] at ho
  exact ⟨hb0.trans (hb.mono hb0.size), ho.below hb (Nat.le_refl _), fun i hi => ⟨_, _, Owns.below (hl.nums i (by omega)) hb (Nat.le_refl _)⟩⟩
theorem OvBk.cell {w wr : World} {g m c k : Nat} {lb : List BlkV} {Xs : List Value} (h : OvBk w wr g m c lb Xs) (hm : m = lb.length) (hX : Xs.length = lb.length) (hk : k < m) : wr.cell? ⟨g, k * 3 + 2, none⟩ = some (Xs.getD k (.slice none 0 0)) := by
  have hc := cellsK_at lb Xs (i := k) (j := 2) hX (by omega) (by omega)
  have := h.row.1.cells (g := g) rfl (k * 3 + 2) _ hc
  have e : (⟨g, 0, none⟩ : Addr).add (k * 3 + 2) = ⟨g, k * 3 + 2, none⟩ := by unfold Addr.add; split <;> simp_all
  rw [e] at this
  exact this
set_option maxRecDepth 100000 in
set_option maxHeartbeats 32000000 in
theorem blks_law (V : Value) (l : List InsV) (w : World) (h : IsCode w w.heap.size V l) : Calls Tryz.prog 3 #[V] w (Makes w (.bool true)) := by
  have HK := Lib.hid (fun W => awake10_any W)
  have HC := Lib.hid (fun W (hb : Below w.heap.size w W) => (h.below hb (Nat.le_refl _) (Nat.le_refl _)).more hb.size)
  obtain ⟨A, cap, hV⟩ := h.len
  subst hV
  have HLg := Lib.hid (long10_any (.slice A l.length cap) l w _ h)
  cases hlg : longV l 60
  · rw [hlg] at HLg
    have hln := (long_no hlg).1
    have HCC := Lib.hid (copyCode_any _ l w h (by omega) (long_no hlg).2)
    have HBK := Lib.hid (fun U W hc => blocks10_any U l W hc)
    have HSC := Lib.hid (fun U Z W hU hZ => sameCode_any U Z l l W hU hZ)
    rw [(sameCV_iff l l).2 rfl] at HSC
    obtain ⟨n, hn⟩ : ∃ n, n = l.length := ⟨_, rfl⟩
    have HN := Lib.hid hn
    have HRB := Lib.hid (fun A' c' W hc => rBlocks10_any A' n c' l W hn hc (by omega))
    rw [← hn] at hln HLg HC HCC ⊢
    have hnI : (n : Int) ≤ 60 := by omega
    have hzz : (check10 l == check10 l) = true := beq_self_eq_true _
    have HLN := Lib.hid hln
    by_cases h0 : check10 l = 0
    case neg =>
      have HB2 : Hid (∀ U W, IsCode W W.heap.size U l → Calls Tryz.prog 7 #[U] W fun e w' => e = .returned (.tuple #[.slice none 0 0, .int .i64 (check10 l)]) ∧ Below W.heap.size W w') := Lib.hid (fun U W hc => (HBK.out U W hc).mono fun e w' hh => ⟨(hh.2.resolve_right (fun h => h0 h.1)).2, hh.1⟩)
      have HRB2 : Hid (∀ A' c' W, IsCode W W.heap.size (.slice A' n c') l → Calls Tryz.prog 8 #[.slice A' n c'] W fun e w' => e = .returned (.tuple #[.slice none 0 0, .int .i64 (check10 l)]) ∧ Below W.heap.size W w') := Lib.hid (fun A' c' W hc => (HRB.out A' c' W hc).mono fun e w' hh => ⟨(hh.2.resolve_right (fun h => h0 h.1)).2, hh.1⟩)
      have HSL := Lib.hid (fun W => sameBlocks_yes (.slice none 0 0) (.slice none 0 0) [] W 0 0 ⟨by simp, .inl ⟨rfl, none, 0, rfl⟩⟩ ⟨by simp, .inl ⟨rfl, none, 0, rfl⟩⟩)
      generalize check10 l = z at *
      clear h hlg hn h0 HBK HRB
      go_enter Tryz.func3, Tryz.ntmps3
      go_wp2_with (first
        | (go_at_call 4; (with_reducible refine HLg.out.mono ?_); rintro e w1 ⟨rfl, rfl⟩)
        | (go_at_call 6; (with_reducible refine HCC.out.mono ?_); rintro e w1 ⟨hb, U, Xs, rfl, ho⟩; obtain ⟨uA, uc, hue⟩ := owns_len ho.own; rw [← HN.out] at hue; subst hue; have HU1 := Lib.hid (ho.code (by have := HN.out; have := HLN.out; omega)); have B1 := Lib.hid hb; have HV1 := Lib.hid (HC.out _ hb); clear ho hb)
        | (go_at_call 7; (with_reducible refine (HB2.out _ _ HU1.out).mono ?_); rintro e w2 ⟨rfl, hb⟩; have B2 := Lib.hid hb; have HV2 := Lib.hid ((HV1.out.below hb (Nat.le_refl _) (Nat.le_refl _)).more hb.size); clear hb)
        | (go_at_call 8; (with_reducible refine (HRB2.out _ _ _ HV2.out).mono ?_); rintro e w3 ⟨rfl, hb⟩; have B3 := Lib.hid (B2.out.trans (hb.mono B2.out.size)); clear hb)
        | (go_at_call 9; (with_reducible refine (HSL.out w3).mono ?_); rintro e w6 ⟨rfl, q6, hw6⟩; have B6 := Lib.hid (show Below w1.heap.size w1 w6 by rw [hw6]; exact below_drewN B3.out q6); clear hw6))
      go_loopw [9] (fun i wr => i = .int .i64 0 ∧ Hid (Below w1.heap.size w1 wr)) (fun _ _ => 0)
      case atStart => exact ⟨rfl, B6.out⟩
      case round =>
        obtain ⟨rfl, HR⟩ := hrel
        have HUe := Lib.hid ((HU1.out.below HR.out (Nat.le_refl _) (Nat.le_refl _)).more HR.out.size)
        have HVe := Lib.hid ((HV1.out.below HR.out (Nat.le_refl _) (Nat.le_refl _)).more HR.out.size)
        go_wp2_with (first
          | (go_at_call 11; (with_reducible refine (HSC.out _ _ _ HUe.out HVe.out).mono ?_); rintro e w6 ⟨rfl, hb⟩; have R6 := Lib.hid (HR.out.trans (hb.mono HR.out.size)); clear hb)
          | (go_at_call 5; (with_reducible refine (HK.out _).mono ?_); rintro e w7 ⟨rfl, hb⟩; have R7 := Lib.hid (B1.out.trans ((R6.out.trans (hb.mono R6.out.size)).mono B1.out.size)); clear hb))
        go_ret
        exact ⟨by first | rfl | simp, R7.out⟩
    case pos =>
      have hg := good10 h0
      have hml := leadI_length l
      have hmp : 0 < (leadI l).length := by obtain ⟨r, hr⟩ := leadI_cons hg.pos; rw [hr]; simp
      obtain ⟨m, hm⟩ : ∃ m, m = (leadI l).length := ⟨_, rfl⟩
      have HML : Hid (m = (blksV l).length) := Lib.hid (by rw [blksV_length]; exact hm)
      have hmI : (m : Int) ≤ 60 := by omega
      have HMM : Hid ((blksV l).length ≤ 1000) := Lib.hid (by rw [blksV_length]; omega)
      have HB2 : Hid (∀ U W, IsCode W W.heap.size U l → Calls Tryz.prog 7 #[U] W fun e w' => Below W.heap.size W w' ∧ ∃ g c Xs, e = .returned (.tuple #[.slice (some ⟨g, 0, none⟩) m c, .int .i64 0]) ∧ OwnK W.heap.size w' (.slice (some ⟨g, 0, none⟩) m c) (blksV l) Xs) := Lib.hid (fun U W hc => (HBK.out U W hc).mono fun e w' hh => by
        obtain ⟨_, V, Xs, he, ho⟩ := hh.2.resolve_left (fun h => h.1 h0)
        rcases ho.own.1.2 with ⟨_, h1⟩ | ⟨g, c, cur, h1, _⟩
        · rw [← HML.out] at h1; omega
        · rw [← HML.out] at h1
          subst h1
          exact ⟨hh.1, g, c, Xs, he, ho⟩)
      have HRB2 : Hid (∀ A' c' W, IsCode W W.heap.size (.slice A' n c') l → Calls Tryz.prog 8 #[.slice A' n c'] W fun e w' => Below W.heap.size W w' ∧ ∃ B c, e = .returned (.tuple #[.slice B m c, .int .i64 0]) ∧ IsBlks w' w'.heap.size (.slice B m c) (blksV l)) := Lib.hid (fun A' c' W hc => (HRB.out A' c' W hc).mono fun e w' hh => by
        obtain ⟨_, V, Xs, he, ho⟩ := hh.2.resolve_left (fun h => h.1 h0)
        have h2 := ho.blks (by have := HMM.out; omega)
        obtain ⟨B, c, rfl⟩ := h2.len
        rw [← HML.out] at h2 he
        exact ⟨hh.1, B, c, he, h2⟩)
      clear h hlg hn h0 HBK HRB hzz hg hml hmp hm
      go_enter Tryz.func3, Tryz.ntmps3
      go_wp2_with (first
        | (go_at_call 4; (with_reducible refine HLg.out.mono ?_); rintro e w1 ⟨rfl, rfl⟩)
        | (go_at_call 6; (with_reducible refine HCC.out.mono ?_); rintro e w1 ⟨hb, U, Xs, rfl, ho⟩; obtain ⟨uA, uc, hue⟩ := owns_len ho.own; rw [← HN.out] at hue; subst hue; have HU1 := Lib.hid (ho.code (by have := HN.out; have := HLN.out; omega)); have B1 := Lib.hid hb; have HV1 := Lib.hid (HC.out _ hb); clear ho hb)
        | (go_at_call 7; (with_reducible refine (HB2.out _ _ HU1.out).mono ?_); rintro e w2 ⟨hb, g, c, Ys, rfl, ho⟩; have B2 := Lib.hid hb; have HL2 := Lib.hid ho; have HV2 := Lib.hid ((HV1.out.below hb (Nat.le_refl _) (Nat.le_refl _)).more hb.size); clear hb ho)
        | (go_at_call 8; (with_reducible refine (HRB2.out _ _ _ HV2.out).mono ?_); rintro e w3 ⟨hb, rB, rc, rfl, hl⟩; have B3 := Lib.hid (B2.out.trans (hb.mono B2.out.size)); have D3 := Lib.hid hb; have HM3 := Lib.hid hl; have HA3 := Lib.hid ((HL2.out.blks (by have := HMM.out; omega)).below hb (Nat.le_refl _)); clear hb hl)
        | (go_at_call 9; (with_reducible refine (sameBlocks_yes _ _ (blksV l) w3 _ _ HA3.out HM3.out).mono ?_); rintro e w6 ⟨rfl, q6, hw6⟩; have D6 := Lib.hid (show Below w2.heap.size w2 w6 by rw [hw6]; exact below_drewN D3.out q6); have OV6 := Lib.hid (OvBk.of HL2.out HML.out B2.out D6.out); clear hw6))
      have HYL : Hid (Ys.length = (blksV l).length) := Lib.hid HL2.out.len
      go_loopw [9] (fun i wr => ∃ k : Nat, k ≤ m ∧ i = .int .i64 k ∧ Hid (OvBk w1 wr g m c (blksV l) Ys)) (fun i _ => m - (intOf i).toNat)
      case atStart => exact ⟨0, by omega, rfl, OV6.out⟩
      case round =>
        obtain ⟨k, hk, rfl, HR⟩ := hrel
        by_cases hlt : k < m
        · have x0 := HR.out.cell HML.out HYL.out hlt
          have HNM := HR.out.nums k hlt
          obtain ⟨q, zs, hzs⟩ := HNM
          obtain ⟨yA, yc, hye⟩ := owns_len hzs
          have HOV := Lib.hid (over10_any (Ys.getD k (.slice none 0 0)) w1.heap.size wr (HR.out.nums k hlt))
          have HST := Lib.hid (fun w' ho => HR.out.step (w' := w') hlt ho)
          rw [hye] at x0 HOV HST
          have k0 : (0 : Int) ≤ (k : Int) := by omega
          have k1 : (k : Int) < (m : Int) := by omega
          clear hzs hye
          go_wp2_with (go_at_call 10; (with_reducible refine HOV.out.mono ?_); rintro e w10 ⟨rfl, ho⟩; have HO10 := Lib.hid (HST.out _ ho); clear ho)
          go_roundw
          case rel => exact ⟨k + 1, by omega, by go_num, HO10.out⟩
          case measure => simp [intOf]; omega
        · obtain rfl : k = m := by omega
          have HUe := Lib.hid ((HU1.out.below HR.out.bel (Nat.le_refl _) (Nat.le_refl _)).more HR.out.bel.size)
          have HVe := Lib.hid ((HV1.out.below HR.out.bel (Nat.le_refl _) (Nat.le_refl _)).more HR.out.bel.size)
          go_wp2_with (first
            | (go_at_call 11; (with_reducible refine (HSC.out _ _ _ HUe.out HVe.out).mono ?_); rintro e w6 ⟨rfl, hb⟩; have R6 := Lib.hid (HR.out.bel.trans (hb.mono HR.out.bel.size)); clear hb)
            | (go_at_call 5; (with_reducible refine (HK.out _).mono ?_); rintro e w7 ⟨rfl, hb⟩; have R7 := Lib.hid (B1.out.trans ((R6.out.trans (hb.mono R6.out.size)).mono B1.out.size)); clear hb))
          go_ret
          exact ⟨by first | rfl | simp, R7.out⟩
  · rw [hlg] at HLg
    clear hlg HC h
    go_enter Tryz.func3, Tryz.ntmps3
    go_wp2_with (first
      | (go_at_call 4; (with_reducible refine HLg.out.mono ?_); rintro e w2 ⟨rfl, rfl⟩)
      | (go_at_call 5; (with_reducible refine (HK.out _).mono ?_); rintro e w1 ⟨rfl, hb⟩; have B1 := Lib.hid hb; clear hb))
    go_ret
    exact ⟨rfl, B1.out⟩
end Go.Proofs.YtgoedemibdkpdaaGreat
