import Derived.Test.YtkfdgpgildanbaaGreatRDeed14A
import Derived.StillTailTactics
import Derived.Deep.QuietTactic
namespace Go.Proofs.YtkfdgpgildanbaaGreat
open Go.RowKit Go.Shelf
set_option linter.unusedVariables false
set_option linter.unusedSimpArgs false
theorem begins_take {L M : List (Int × Int)} (h : L.length ≤ M.length) (e : L.take L.length = M.take L.length) : beginsO L M = true := by
  unfold beginsO
  rw [decide_eq_true h, Bool.true_and, beq_iff_eq, ← e, List.take_length]
theorem begins_ne {L M : List (Int × Int)} {k : Nat} (hk : k < L.length) (h : L.length ≤ M.length) (he : L.getD k (0, 0) ≠ M.getD k (0, 0)) : beginsO L M = false := by
  unfold beginsO
  rw [decide_eq_true h, Bool.true_and, beq_eq_false_iff_ne]
  intro e
  apply he
  have : (M.take L.length).getD k (0, 0) = M.getD k (0, 0) := by simp [List.getD, hk]
  rw [← this, ← e]
set_option maxRecDepth 100000 in
set_option maxHeartbeats 4000000 in
theorem rbegins14 (V V' : Value) (L M : List (Int × Int)) (k c k' c' : Int) (w : World) (hV : IsDeeds w w.heap.size V L) (hV' : IsDeeds w w.heap.size V' M) (hl : L.length ≤ 1000000) :
    Calls Tryz.prog 156 #[.agg #[V, .int .i64 k, .int .i64 c], .agg #[V', .int .i64 k', .int .i64 c']] w (Makes w (.bool (beginsO L M))) := by
  obtain ⟨hB, h0, h1⟩ := two_alloc14 w #[V, .int .i64 k, .int .i64 c] #[V', .int .i64 k', .int .i64 c'] 93 93
  obtain ⟨g, off, A, cap, rfl, hc, hD⟩ := (hV.grow hB).dat (Nat.le_refl _)
  obtain ⟨g', off', A', cap', rfl, hc', hD'⟩ := (hV'.grow hB).dat (Nat.le_refl _)
  obtain ⟨x0, x1, x2⟩ := cells3_14 h0
  obtain ⟨y0, y1, y2⟩ := cells3_14 h1
  have HB := Lib.hid hB
  have HD := Lib.hid hD
  have HD' := Lib.hid hD'
  have hm' := hV'.1
  unfold maxLen at hm'
  clear hV hV' h0 h1 hB hD hD'
  obtain ⟨n, hn⟩ : ∃ n, n = L.length := ⟨_, rfl⟩
  obtain ⟨m, hm⟩ : ∃ m, m = M.length := ⟨_, rfl⟩
  have HN := Lib.hid hn
  have HM := Lib.hid hm
  rw [← hn] at hl hc
  rw [← hm] at hm' hc'
  rw [← hn, ← hm] at x0 x1 x2 y0 y1 y2 HB HD HD'
  rw [← hn, ← hm]
  clear hn hm
  by_cases hle : n ≤ m
  · have hI2 : ¬ (m : Int) < (n : Int) := by omega
    have HLE := Lib.hid hle
    go_enter Tryz.func156, Tryz.ntmps156
    go_wp2
    go_loopw [5] (fun v5 wr => ∃ i q : Nat, i ≤ n ∧ v5 = .int .i64 i ∧ wr = ((w.alloc (.cells #[.slice A n cap, .int .i64 k, .int .i64 c] 93)).alloc (.cells #[.slice A' m cap', .int .i64 k', .int .i64 c'] 93)).drewN q ∧ L.take i = M.take i) (fun v5 _ => n - (intOf v5).toNat)
    case atStart => exact ⟨0, 0, by omega, rfl, rfl, rfl⟩
    case round =>
      obtain ⟨i, q, hi, rfl, rfl, ht⟩ := hrel
      have HT := Lib.hid ht
      clear ht
      by_cases hlt : i < n
      · have h1 : i < L.length := by rw [← HN.out]; exact hlt
        have h2 : i < M.length := by rw [← HM.out]; omega
        obtain ⟨hA, _⟩ := HD.out.at' (by omega)
        obtain ⟨hA', _⟩ := HD'.out.at' (by omega)
        subst hA hA'
        obtain ⟨g1, g2⟩ := HD.out.cells i h1
        obtain ⟨g3, g4⟩ := HD'.out.cells i h2
        obtain ⟨⟨a, b⟩, hx⟩ : ∃ x, x = L.getD i (0, 0) := ⟨_, rfl⟩
        obtain ⟨⟨a', b'⟩, hy⟩ : ∃ y, y = M.getD i (0, 0) := ⟨_, rfl⟩
        rw [← hx] at g1 g2
        rw [← hy] at g3 g4
        dsimp only at g1 g2 g3 g4
        have GX := Lib.hid hx
        have GY := Lib.hid hy
        have k0 : (0 : Int) ≤ (i : Int) := by omega
        have k1 : (i : Int) < (n : Int) := by omega
        have k2 : (i : Int) < (m : Int) := by omega
        by_cases he : a = a' ∧ b = b'
        · obtain ⟨rfl, rfl⟩ := he
          have hs := Lib.hid (takeD_step HT.out h1 h2 (by rw [← GX.out, ← GY.out]))
          have hq := fun w => neqD_same w a b
          clear hx hy h1 h2
          go_wp2
          go_quiet (fail)
          go_wp2
          go_roundw
          case rel => exact ⟨i + 1, _, by omega, by go_num, rfl, hs.out⟩
          case measure => simp [intOf]; omega
        · have hs := Lib.hid (begins_ne (L := L) (M := M) h1 (by rw [← HN.out, ← HM.out]; exact hle) (by rw [← GX.out, ← GY.out]; intro e; injection e with e1 e2; exact he ⟨e1, e2⟩))
          have hq := fun w => neqD_diff w a b a' b' he
          clear he hx hy h1 h2
          go_wp2
          go_quiet (fail)
          go_wp2
          go_ret
          rw [hs.out]
          exact ⟨rfl, below_drewN (below_drewN HB.out _) _⟩
      · obtain rfl : i = n := by omega
        have hs := Lib.hid (begins_take (L := L) (M := M) (by rw [← HN.out, ← HM.out]; exact hle) (by rw [← HN.out]; exact HT.out))
        go_wp2
        go_ret
        rw [hs.out]
        exact ⟨rfl, below_drewN HB.out _⟩
  · have hI2 : (m : Int) < (n : Int) := by omega
    have HQ : Hid (beginsO L M = false) := Lib.hid (by unfold beginsO; rw [decide_eq_false (by rw [← HN.out, ← HM.out]; exact hle), Bool.false_and])
    rw [HQ.out]
    go_enter Tryz.func156, Tryz.ntmps156
    go_wp2
    go_ret
    exact ⟨rfl, HB.out⟩
theorem begins_sameD {L M : List (Int × Int)} (h : L.length = M.length) : beginsO L M = (L == M) := by
  unfold beginsO
  rw [decide_eq_true (by omega), Bool.true_and, h, List.take_length]
set_option maxRecDepth 100000 in
set_option maxHeartbeats 4000000 in
theorem rsame14 (V V' : Value) (L M : List (Int × Int)) (k c k' c' : Int) (w : World) (hV : IsDeeds w w.heap.size V L) (hV' : IsDeeds w w.heap.size V' M) (hl : L.length ≤ 1000000) :
    Calls Tryz.prog 96 #[.agg #[V, .int .i64 k, .int .i64 c], .agg #[V', .int .i64 k', .int .i64 c']] w (Makes w (.bool (sameO L k c M k' c'))) := by
  obtain ⟨A, cap, rfl, hc⟩ := hV.len
  obtain ⟨A', cap', rfl, hc'⟩ := hV'.len
  obtain ⟨hB, h0, h1⟩ := two_alloc14 w #[.slice A L.length cap, .int .i64 k, .int .i64 c] #[.slice A' M.length cap', .int .i64 k', .int .i64 c'] 93 93
  obtain ⟨x0, x1, x2⟩ := cells3_14 h0
  obtain ⟨y0, y1, y2⟩ := cells3_14 h1
  have HB := Lib.hid hB
  have HE := Lib.hid (rbegins14 _ _ L M k c k' c' _ (hV.grow hB) (hV'.grow hB) hl)
  clear hV hV' hc hc' h0 h1 hB
  by_cases he : k = k' ∧ c = c'
  · obtain ⟨rfl, rfl⟩ := he
    have hq := fun w => eqlE_same w k c
    by_cases hlen : L.length = M.length
    · have HQ : Hid (sameO L k c M k c = beginsO L M) := Lib.hid (by rw [begins_sameD hlen]; unfold sameO; simp)
      rw [HQ.out]
      have hI : ((L.length : Int) == (M.length : Int)) = true := by rw [hlen]; simp
      have hI2 : decide (L.length = M.length) = true := decide_eq_true hlen
      have hI3 : (L.length == M.length) = true := by rw [hlen]; simp
      clear HQ hlen
      generalize beginsO L M = b at *
      go_enter Tryz.func96, Tryz.ntmps96
      go_wp2_with (go_at_call 156; (with_reducible refine HE.out.mono ?_); rintro e w1 ⟨rfl, hw⟩; have HW := Lib.hid (HB.out.trans (hw.mono HB.out.size)); clear hw)
      go_ret
      exact ⟨rfl, HW.out⟩
    · have HQ : Hid (sameO L k c M k c = false) := Lib.hid (by
        unfold sameO
        rw [show (L == M) = false by rw [beq_eq_false_iff_ne]; intro h; exact hlen (by rw [h])]
        simp)
      rw [HQ.out]
      have hI : ((L.length : Int) == (M.length : Int)) = false := by simpa using (by omega : ¬ (L.length : Int) = M.length)
      have hI3 : (L.length == M.length) = false := by simpa using hlen
      clear HQ HE
      go_enter Tryz.func96, Tryz.ntmps96
      go_wp2
      go_ret
      exact ⟨rfl, HB.out⟩
  · have HQ : Hid (sameO L k c M k' c' = false) := Lib.hid (by
      unfold sameO
      have : (k == k' && c == c') = false := by
        rw [Bool.eq_false_iff]
        intro h
        simp at h
        exact he h
      rw [this]; rfl)
    rw [HQ.out]
    have hq := fun w => eqlE_diff w k c k' c' he
    clear HQ he HE
    go_enter Tryz.func96, Tryz.ntmps96
    go_wp2
    go_ret
    exact ⟨rfl, HB.out⟩
end Go.Proofs.YtkfdgpgildanbaaGreat
