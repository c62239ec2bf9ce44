import Derived.Test.YtkfdgpgildanbaaGreatS45
namespace Go.Proofs.YtkfdgpgildanbaaGreat
open Go.RowKit
set_option linter.unusedVariables false
set_option linter.unusedSimpArgs false
theorem okD_iff (k b : Int) : okD (k, b) = decide ((k = 1 ∧ -1 ≤ b ∧ b ≤ 255) ∨ (k = 2 ∧ 0 ≤ b ∧ b ≤ 255)) := by
  rw [Bool.eq_iff_iff, decide_eq_true_eq]
  constructor
  · intro h
    exact okD_cases h
  · intro h
    unfold okD gotB gotN putB
    simp only [Bool.or_eq_true, Bool.and_eq_true, beq_iff_eq, decide_eq_true_eq]
    omega
theorem rdeed14 (k b : Int) (w : World) : Calls Tryz.prog 183 #[.agg #[.int .i64 k, .int .i64 b]] w (Makes w (.bool (okD (k, b)))) := by
  rw [okD_iff]
  obtain ⟨x0, x1⟩ := cells2_14 (heap_alloc_new w (.cells #[.int .i64 k, .int .i64 b] 182))
  by_cases h1 : k = 1
  · subst h1
    by_cases h2 : -1 ≤ b
    · by_cases h3 : b ≤ 255
      · have HQ : Hid (decide (((1 : Int) = 1 ∧ -1 ≤ b ∧ b ≤ 255) ∨ ((1 : Int) = 2 ∧ 0 ≤ b ∧ b ≤ 255)) = true) := Lib.hid (decide_eq_true (.inl ⟨rfl, h2, h3⟩))
        rw [HQ.out]
        go_enter Tryz.func183, Tryz.ntmps183
        go_wp2
        go_ret
        exact ⟨rfl, below_one14 _ _⟩
      · have HQ : Hid (decide (((1 : Int) = 1 ∧ -1 ≤ b ∧ b ≤ 255) ∨ ((1 : Int) = 2 ∧ 0 ≤ b ∧ b ≤ 255)) = false) := Lib.hid (decide_eq_false (by omega))
        rw [HQ.out]
        go_enter Tryz.func183, Tryz.ntmps183
        go_wp2
        go_ret
        exact ⟨rfl, below_one14 _ _⟩
    · have HQ : Hid (decide (((1 : Int) = 1 ∧ -1 ≤ b ∧ b ≤ 255) ∨ ((1 : Int) = 2 ∧ 0 ≤ b ∧ b ≤ 255)) = false) := Lib.hid (decide_eq_false (by omega))
      rw [HQ.out]
      go_enter Tryz.func183, Tryz.ntmps183
      go_wp2
      go_ret
      exact ⟨rfl, below_one14 _ _⟩
  · have e1 : (k == 1) = false := by simpa using h1
    by_cases h2 : k = 2
    · subst h2
      by_cases h3 : 0 ≤ b
      · by_cases h4 : b ≤ 255
        · have HQ : Hid (decide (((2 : Int) = 1 ∧ -1 ≤ b ∧ b ≤ 255) ∨ ((2 : Int) = 2 ∧ 0 ≤ b ∧ b ≤ 255)) = true) := Lib.hid (decide_eq_true (.inr ⟨rfl, h3, h4⟩))
          rw [HQ.out]
          clear h1
          go_enter Tryz.func183, Tryz.ntmps183
          go_wp2
          go_ret
          exact ⟨rfl, below_one14 _ _⟩
        · have HQ : Hid (decide (((2 : Int) = 1 ∧ -1 ≤ b ∧ b ≤ 255) ∨ ((2 : Int) = 2 ∧ 0 ≤ b ∧ b ≤ 255)) = false) := Lib.hid (decide_eq_false (by omega))
          rw [HQ.out]
          clear h1
          go_enter Tryz.func183, Tryz.ntmps183
          go_wp2
          go_ret
          exact ⟨rfl, below_one14 _ _⟩
      · have HQ : Hid (decide (((2 : Int) = 1 ∧ -1 ≤ b ∧ b ≤ 255) ∨ ((2 : Int) = 2 ∧ 0 ≤ b ∧ b ≤ 255)) = false) := Lib.hid (decide_eq_false (by omega))
        rw [HQ.out]
        clear h1
        go_enter Tryz.func183, Tryz.ntmps183
        go_wp2
        go_ret
        exact ⟨rfl, below_one14 _ _⟩
    · have e2 : (k == 2) = false := by simpa using h2
      have HQ : Hid (decide ((k = 1 ∧ -1 ≤ b ∧ b ≤ 255) ∨ (k = 2 ∧ 0 ≤ b ∧ b ≤ 255)) = false) := Lib.hid (decide_eq_false (by omega))
      rw [HQ.out]
      clear h1 h2
      go_enter Tryz.func183, Tryz.ntmps183
      go_wp2
      go_ret
      exact ⟨rfl, below_one14 _ _⟩
theorem rending14 (k c : Int) (w : World) : Calls Tryz.prog 182 #[.agg #[.int .i64 k, .int .i64 c]] w (Makes w (.bool (okE k c))) := by
  obtain ⟨x0, x1⟩ := cells2_14 (heap_alloc_new w (.cells #[.int .i64 k, .int .i64 c] 45))
  by_cases h1 : k = 1
  · subst h1
    by_cases h2 : 0 ≤ c
    · obtain ⟨q, hq⟩ : ∃ q, q = decide (c ≤ 255) := ⟨_, rfl⟩
      have HQ : Hid (okE 1 c = q) := Lib.hid (by rw [hq]; simp [okE, h2])
      rw [HQ.out]
      by_cases h3 : c ≤ 255
      · obtain rfl : q = true := hq.trans (decide_eq_true h3)
        clear hq HQ
        go_enter Tryz.func182, Tryz.ntmps182
        go_wp2
        go_ret
        exact ⟨rfl, below_one14 _ _⟩
      · obtain rfl : q = false := hq.trans (decide_eq_false h3)
        clear hq HQ
        go_enter Tryz.func182, Tryz.ntmps182
        go_wp2
        go_ret
        exact ⟨rfl, below_one14 _ _⟩
    · have HQ : Hid (okE 1 c = false) := Lib.hid (by simp [okE, h2])
      rw [HQ.out]
      go_enter Tryz.func182, Tryz.ntmps182
      go_wp2
      go_ret
      exact ⟨rfl, below_one14 _ _⟩
  · have e1 : (k == 1) = false := by simpa using h1
    by_cases h2 : k = 2
    · subst h2
      by_cases hc : c = 1
      · subst hc
        go_enter Tryz.func182, Tryz.ntmps182
        go_wp2
        go_ret
        exact ⟨rfl, below_one14 _ _⟩
      · have e2 : (c == 1) = false := by simpa using hc
        obtain ⟨q, hq⟩ : ∃ q, q = (c == 2) := ⟨_, rfl⟩
        have HQ : Hid (okE 2 c = q) := Lib.hid (by rw [hq]; simp [okE, e2])
        rw [HQ.out]
        have hq2 := hq.symm
        clear hq hc HQ
        go_enter Tryz.func182, Tryz.ntmps182
        go_wp2
        go_ret
        exact ⟨rfl, below_one14 _ _⟩
    · have e2 : (k == 2) = false := by simpa using h2
      obtain ⟨q, hq⟩ : ∃ q, q = (c == 0) := ⟨_, rfl⟩
      have hq2 := hq.symm
      by_cases h3 : k = 3
      · subst h3
        have HQ : Hid (okE 3 c = q) := Lib.hid (by rw [hq]; simp [okE])
        rw [HQ.out]
        clear hq h1 h2 HQ
        go_enter Tryz.func182, Tryz.ntmps182
        go_wp2
        go_ret
        exact ⟨rfl, below_one14 _ _⟩
      · have e3 : (k == 3) = false := by simpa using h3
        by_cases h4 : k = 4
        · subst h4
          have HQ : Hid (okE 4 c = q) := Lib.hid (by rw [hq]; simp [okE])
          rw [HQ.out]
          clear hq h1 h2 h3 HQ
          go_enter Tryz.func182, Tryz.ntmps182
          go_wp2
          go_ret
          exact ⟨rfl, below_one14 _ _⟩
        · have e4 : (k == 4) = false := by simpa using h4
          have HQ : Hid (okE k c = false) := Lib.hid (by simp [okE, h1, h2, h3, h4])
          rw [HQ.out]
          clear hq hq2 h1 h2 h3 h4 HQ
          go_enter Tryz.func182, Tryz.ntmps182
          go_wp2
          go_ret
          exact ⟨rfl, below_one14 _ _⟩
set_option maxRecDepth 100000 in
set_option maxHeartbeats 8000000 in
theorem rcheck14 (V : Value) (L : List (Int × Int)) (k c : Int) (w : World) (hV : IsDeeds w w.heap.size V L) (hl : L.length ≤ 100000) :
    Calls Tryz.prog 151 #[.agg #[V, .int .i64 k, .int .i64 c]] w (Makes w (.int .i64 (errO L k c))) := by
  obtain ⟨g, off, A, cap, rfl, hc, hD⟩ := hV.dat (Nat.le_refl _)
  have HB := Lib.hid (below_one14 w (.cells #[.slice A L.length cap, .int .i64 k, .int .i64 c] 93))
  obtain ⟨W0, hW0⟩ : ∃ W0, W0 = w.alloc (.cells #[.slice A L.length cap, .int .i64 k, .int .i64 c] 93) := ⟨_, rfl⟩
  have HX : Hid (∀ W, Below W0.heap.size W0 W → W.cell? ⟨w.heap.size, 0, none⟩ = some (.slice A L.length cap) ∧ W.cell? ⟨w.heap.size, 1, none⟩ = some (.int .i64 k) ∧ W.cell? ⟨w.heap.size, 2, none⟩ = some (.int .i64 c)) := Lib.hid (fun W hb => by rw [hW0] at hb; exact cells3_14 (box_below14 (heap_alloc_new w _) hb))
  have HD : Hid (∀ W, Below W0.heap.size W0 W → DAt g off w.heap.size A L W) := Lib.hid (fun W hb => by
    have h1 := hD.alloc (.cells #[.slice A L.length cap, .int .i64 k, .int .i64 c] 93)
    rw [← hW0] at h1
    exact h1.kp ⟨fun _ e => hb.block _ e, hb.size⟩)
  have HE := Lib.hid (fun W => rending14 k c W)
  have HBd : Hid (Below w.heap.size w W0) := by rw [hW0]; exact HB
  obtain ⟨x0, x1, x2⟩ := HX.out _ (Below.refl _ _)
  have HQ : Hid (errO L k c = if (okE k c && goodL false L) = true then 0 else 2) := Lib.hid (by unfold errO okO; rw [decide_eq_true hl]; simp)
  generalize errO L k c = er at *
  have hI : decide ((100000 : Int) < (L.length : Int)) = false := decide_eq_false (by omega)
  obtain ⟨n, hn⟩ : ∃ n, n = L.length := ⟨_, rfl⟩
  have HN := Lib.hid hn
  have HL := Lib.hid hl
  have HW0 := Lib.hid hW0
  rw [← hn] at hI x0 HX ⊢
  rw [hW0, ← hn] at x0
  rw [hW0, ← hn] at x1 x2
  rw [← hn] at hW0
  clear hV hc hD hl HB
  have HW := Lib.hid hW0
  clear HW0 hW0 hn
  generalize okE k c = ek at *
  cases ek
  · go_enter Tryz.func151, Tryz.ntmps151
    go_wp2_with (go_at_call 182; rw [← HW.out]; (with_reducible refine (HE.out _).mono ?_); rintro e w1 ⟨rfl, hb⟩; have HB1 := Lib.hid hb; clear hb)
    go_ret
    exact ⟨by rw [HQ.out]; first | done | rfl, HBd.out.trans (HB1.out.mono HBd.out.size)⟩
  · go_enter Tryz.func151, Tryz.ntmps151
    go_wp2_with (go_at_call 182; rw [← HW.out]; (with_reducible refine (HE.out _).mono ?_); rintro e w1 ⟨rfl, hb⟩; have HB1 := Lib.hid hb; clear hb)
    go_loopw [3, 4, 5] (fun v3 v4 _ wr => ∃ (i : Nat) (ov : Bool), v3 = .bool ov ∧ v4 = .int .i64 i ∧ i ≤ n ∧ Hid (ov = (L.take i).any gotN ∧ goodL false (L.take i) = true ∧ Below W0.heap.size W0 wr)) (fun _ v4 _ _ => n - (intOf v4).toNat)
    case atStart => exact ⟨0, false, rfl, rfl, Nat.zero_le _, Lib.hid ⟨rfl, rfl, HB1.out⟩⟩
    case round =>
      obtain ⟨i, ov, rfl, rfl, hi, HR⟩ := hrel
      obtain ⟨y0, y1, y2⟩ := HX.out _ HR.out.2.2
      clear x0 x1 x2
      by_cases hlt : i < n
      · have hlL : i < L.length := by rw [← HN.out]; exact hlt
        have hd := HD.out _ HR.out.2.2
        obtain ⟨hA, hg⟩ := hd.at' (by omega)
        subst hA
        obtain ⟨c0, c1⟩ := hd.cells i hlL
        obtain ⟨⟨x, y⟩, hx⟩ : ∃ d, d = L.getD i (0, 0) := ⟨_, rfl⟩
        rw [← hx] at c0 c1
        dsimp only at c0 c1
        have HT := Lib.hid (take_snoc14 hlL)
        rw [← hx] at HT
        have HRD := Lib.hid (fun W => rdeed14 x y W)
        have HBX : Hid (∀ W, Below (wr.alloc (.cells #[.int .i64 x, .int .i64 y] 182)).heap.size (wr.alloc (.cells #[.int .i64 x, .int .i64 y] 182)) W → (W.cell? ⟨wr.heap.size, 0, none⟩ = some (.int .i64 x) ∧ W.cell? ⟨wr.heap.size, 1, none⟩ = some (.int .i64 y)) ∧ Below W0.heap.size W0 W) := Lib.hid (fun W hb => ⟨cells2_14 (box_below14 (heap_alloc_new wr _) hb), (HR.out.2.2.trans ((below_one14 wr _).mono HR.out.2.2.size)).trans (hb.mono (by have := HR.out.2.2.size; simp; omega))⟩)
        obtain ⟨z0, z1⟩ := cells2_14 (heap_alloc_new wr (.cells #[.int .i64 0, .int .i64 0] 182))
        obtain ⟨⟨u0, u1⟩, -⟩ := HBX.out _ (Below.refl _ _)
        have i0 : (0 : Int) ≤ (i : Int) := by omega
        have hib : i ≤ 100000 := by have := HL.out; have := HN.out; omega
        have HGS : Hid (goodL false (L.take (i + 1)) = (okD (x, y) && !(ov && gotB (x, y)))) := Lib.hid (by
          rw [HT.out, goodL_app, HR.out.2.1, Bool.true_and, Bool.false_or, ← HR.out.1]
          simp [goodL])
        have HBAD : Hid ((okD (x, y) && !(ov && gotB (x, y))) = false → goodL false L = false) := Lib.hid (fun h => by
          have e : L = L.take (i + 1) ++ L.drop (i + 1) := (List.take_append_drop _ _).symm
          rw [e, goodL_app, HGS.out, h, Bool.false_and])
        have HAN : Hid ((L.take (i + 1)).any gotN = (ov || gotN (x, y))) := Lib.hid (by rw [HT.out, List.any_append, ← HR.out.1]; simp)
        have HLT := Lib.hid (show i + 1 ≤ n ∧ True from ⟨hlt, trivial⟩)
        have HOK := Lib.hid (@okD_cases (x, y))
        clear hd hlL hx HT hg
        by_cases hok : okD (x, y) = true
        · rw [hok] at HRD HGS HBAD
          have hcs := HOK.out hok
          dsimp only at hcs
          clear hok HOK
          rcases hcs with ⟨rfl, hy1, hy2⟩ | ⟨rfl, hy1, hy2⟩
          · by_cases hy0 : 0 ≤ y
            · have hgb : gotB (1, y) = true := by simp [gotB, hy0, hy2]
              have hgn : gotN (1, y) = false := by simp [gotN]; omega
              rw [hgb] at HGS HBAD
              rw [hgn] at HAN
              have hyn : decide (y < 0) = false := decide_eq_false (by omega)
              clear hgb hgn hy1 hy2
              cases ov
              · go_wp2_with (go_at_call 183; (with_reducible refine (HRD.out _).mono ?_); rintro e w2 ⟨rfl, hb⟩; have HB2 := Lib.hid (HBX.out _ hb); obtain ⟨⟨v0, v1⟩, -⟩ := HBX.out _ hb; clear hb)
                go_roundw
                case rel => exact ⟨i + 1, false, rfl, by go_num, HLT.out.1, Lib.hid ⟨HAN.out.symm, HGS.out, HB2.out.2⟩⟩
                case measure => have := HLT.out.1; simp [intOf]; omega
              · have HBD := Lib.hid (HBAD.out rfl)
                go_wp2_with (go_at_call 183; (with_reducible refine (HRD.out _).mono ?_); rintro e w2 ⟨rfl, hb⟩; have HB2 := Lib.hid (HBX.out _ hb); obtain ⟨⟨v0, v1⟩, -⟩ := HBX.out _ hb; clear hb)
                go_ret
                exact ⟨by rw [HQ.out, HBD.out]; first | done | rfl, HBd.out.trans (HB2.out.2.mono HBd.out.size)⟩
            · have hyn : y < 0 := by omega
              have hgb : gotB (1, y) = false := by simp [gotB, hy0]
              have hgn : gotN (1, y) = true := by simp [gotN]; omega
              rw [hgb] at HGS HBAD
              rw [hgn] at HAN
              clear hgb hgn hy1 hy2
              cases ov
              · go_wp2_with (go_at_call 183; (with_reducible refine (HRD.out _).mono ?_); rintro e w2 ⟨rfl, hb⟩; have HB2 := Lib.hid (HBX.out _ hb); obtain ⟨⟨v0, v1⟩, -⟩ := HBX.out _ hb; clear hb)
                go_roundw
                case rel => exact ⟨i + 1, true, rfl, by go_num, HLT.out.1, Lib.hid ⟨HAN.out.symm, HGS.out, HB2.out.2⟩⟩
                case measure => have := HLT.out.1; simp [intOf]; omega
              · go_wp2_with (go_at_call 183; (with_reducible refine (HRD.out _).mono ?_); rintro e w2 ⟨rfl, hb⟩; have HB2 := Lib.hid (HBX.out _ hb); obtain ⟨⟨v0, v1⟩, -⟩ := HBX.out _ hb; clear hb)
                go_roundw
                case rel => exact ⟨i + 1, true, rfl, by go_num, HLT.out.1, Lib.hid ⟨HAN.out.symm, HGS.out, HB2.out.2⟩⟩
                case measure => have := HLT.out.1; simp [intOf]; omega
          · have hgb : gotB (2, y) = false := by simp [gotB]
            have hgn : gotN (2, y) = false := by simp [gotN]
            rw [hgb] at HGS HBAD
            rw [hgn] at HAN
            clear hgb hgn hy1 hy2
            cases ov
            · go_wp2_with (go_at_call 183; (with_reducible refine (HRD.out _).mono ?_); rintro e w2 ⟨rfl, hb⟩; have HB2 := Lib.hid (HBX.out _ hb); obtain ⟨⟨v0, v1⟩, -⟩ := HBX.out _ hb; clear hb)
              go_roundw
              case rel => exact ⟨i + 1, false, rfl, by go_num, HLT.out.1, Lib.hid ⟨HAN.out.symm, HGS.out, HB2.out.2⟩⟩
              case measure => have := HLT.out.1; simp [intOf]; omega
            · go_wp2_with (go_at_call 183; (with_reducible refine (HRD.out _).mono ?_); rintro e w2 ⟨rfl, hb⟩; have HB2 := Lib.hid (HBX.out _ hb); obtain ⟨⟨v0, v1⟩, -⟩ := HBX.out _ hb; clear hb)
              go_roundw
              case rel => exact ⟨i + 1, true, rfl, by go_num, HLT.out.1, Lib.hid ⟨HAN.out.symm, HGS.out, HB2.out.2⟩⟩
              case measure => have := HLT.out.1; simp [intOf]; omega
        · have hok2 : okD (x, y) = false := by simpa using hok
          rw [hok2] at HRD HBAD
          have HBD := Lib.hid (HBAD.out rfl)
          clear hok hok2 HOK
          go_wp2_with (go_at_call 183; (with_reducible refine (HRD.out _).mono ?_); rintro e w2 ⟨rfl, hb⟩; have HB2 := Lib.hid (HBX.out _ hb); obtain ⟨⟨v0, v1⟩, -⟩ := HBX.out _ hb; clear hb)
          go_ret
          exact ⟨by rw [HQ.out, HBD.out]; first | done | rfl, HBd.out.trans (HB2.out.2.mono HBd.out.size)⟩
      · obtain rfl : i = n := by omega
        have HGD : Hid (goodL false L = true) := Lib.hid (by
          have h := HR.out.2.1
          rw [List.take_of_length_le (by rw [← HN.out]; exact Nat.le_refl _)] at h
          exact h)
        go_wp2
        go_ret
        exact ⟨by rw [HQ.out, HGD.out]; first | done | rfl, HBd.out.trans (HR.out.2.2.mono HBd.out.size)⟩
end Go.Proofs.YtkfdgpgildanbaaGreat
