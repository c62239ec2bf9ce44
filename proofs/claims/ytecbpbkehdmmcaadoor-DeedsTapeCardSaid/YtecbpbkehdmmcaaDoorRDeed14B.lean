/- The document's own Begins, Same, number, Text. Contracts; no condition but that the outcomes lie in memory and are short. -/
import Derived.Test.YtecbpbkehdmmcaaDoorRDeed14A
import Derived.Test.YtecbpbkehdmmcaaDoorDeed14N
namespace Go.Proofs.YtecbpbkehdmmcaaDoor
open Go.RowKit Go.Shelf
set_option linter.unusedVariables false
set_option linter.unusedSimpArgs false

theorem begins_take {L M : List (Int × Int)} (h : L.length ≤ M.length) (e : L.take L.length = M.take L.length) : beginsO L M = true := by
  unfold beginsO
  rw [decide_eq_true h, Bool.true_and, beq_iff_eq, ← e, List.take_length]
theorem begins_ne {L M : List (Int × Int)} {k : Nat} (hk : k < L.length) (h : L.length ≤ M.length) (he : L.getD k (0, 0) ≠ M.getD k (0, 0)) : beginsO L M = false := by
  unfold beginsO
  rw [decide_eq_true h, Bool.true_and, beq_eq_false_iff_ne]
  intro e
  apply he
  have : (M.take L.length).getD k (0, 0) = M.getD k (0, 0) := by simp [List.getD, hk]
  rw [← this, ← e]
set_option maxRecDepth 100000 in
set_option maxHeartbeats 4000000 in
theorem rbegins14 (V V' : Value) (L M : List (Int × Int)) (k c k' c' : Int) (w : World) (hV : IsDeeds w w.heap.size V L) (hV' : IsDeeds w w.heap.size V' M) (hl : L.length ≤ 1000000) :
    Calls Tryd.prog 30 #[.agg #[V, .int .i64 k, .int .i64 c], .agg #[V', .int .i64 k', .int .i64 c']] w (Makes w (.bool (beginsO L M))) := by
  obtain ⟨hB, h0, h1⟩ := two_alloc14 w #[V, .int .i64 k, .int .i64 c] #[V', .int .i64 k', .int .i64 c'] 47 47
  obtain ⟨g, off, A, cap, rfl, hc, hD⟩ := (hV.grow hB).dat (Nat.le_refl _)
  obtain ⟨g', off', A', cap', rfl, hc', hD'⟩ := (hV'.grow hB).dat (Nat.le_refl _)
  obtain ⟨x0, x1, x2⟩ := cells3_14 h0
  obtain ⟨y0, y1, y2⟩ := cells3_14 h1
  have HB := Lib.hid hB
  have HD := Lib.hid hD
  have HD' := Lib.hid hD'
  have hm' := hV'.1
  unfold maxLen at hm'
  clear hV hV' h0 h1 hB hD hD'
  obtain ⟨n, hn⟩ : ∃ n, n = L.length := ⟨_, rfl⟩
  obtain ⟨m, hm⟩ : ∃ m, m = M.length := ⟨_, rfl⟩
  have HN := Lib.hid hn
  have HM := Lib.hid hm
  rw [← hn] at hl hc
  rw [← hm] at hm' hc'
  rw [← hn, ← hm] at x0 x1 x2 y0 y1 y2 HB HD HD'
  rw [← hn, ← hm]
  clear hn hm
  by_cases hle : n ≤ m
  · have hI2 : ¬ (m : Int) < (n : Int) := by omega
    have HLE := Lib.hid hle
    go_enter Tryd.func30, Tryd.ntmps30
    go_wp2
    go_loopw [5] (fun v5 wr => ∃ i q : Nat, i ≤ n ∧ v5 = .int .i64 i ∧ wr = ((w.alloc (.cells #[.slice A n cap, .int .i64 k, .int .i64 c] 47)).alloc (.cells #[.slice A' m cap', .int .i64 k', .int .i64 c'] 47)).drewN q ∧ L.take i = M.take i) (fun v5 _ => n - (intOf v5).toNat)
    case atStart => exact ⟨0, 0, by omega, rfl, rfl, rfl⟩
    case round =>
      obtain ⟨i, q, hi, rfl, rfl, ht⟩ := hrel
      have HT := Lib.hid ht
      clear ht
      by_cases hlt : i < n
      · have h1 : i < L.length := by rw [← HN.out]; exact hlt
        have h2 : i < M.length := by rw [← HM.out]; omega
        obtain ⟨hA, _⟩ := HD.out.at' (by omega)
        obtain ⟨hA', _⟩ := HD'.out.at' (by omega)
        subst hA hA'
        obtain ⟨g1, g2⟩ := HD.out.cells i h1
        obtain ⟨g3, g4⟩ := HD'.out.cells i h2
        obtain ⟨⟨a, b⟩, hx⟩ : ∃ x, x = L.getD i (0, 0) := ⟨_, rfl⟩
        obtain ⟨⟨a', b'⟩, hy⟩ : ∃ y, y = M.getD i (0, 0) := ⟨_, rfl⟩
        rw [← hx] at g1 g2
        rw [← hy] at g3 g4
        dsimp only at g1 g2 g3 g4
        have GX := Lib.hid hx
        have GY := Lib.hid hy
        have k0 : (0 : Int) ≤ (i : Int) := by omega
        have k1 : (i : Int) < (n : Int) := by omega
        have k2 : (i : Int) < (m : Int) := by omega
        by_cases he : a = a' ∧ b = b'
        · obtain ⟨rfl, rfl⟩ := he
          have hs := Lib.hid (takeD_step HT.out h1 h2 (by rw [← GX.out, ← GY.out]))
          have hq := fun w => neqD_same w a b
          clear hx hy h1 h2
          go_wp2
          go_quiet (fail)
          go_wp2
          go_roundw
          case rel => exact ⟨i + 1, _, by omega, by go_num, rfl, hs.out⟩
          case measure => simp [intOf]; omega
        · have hs := Lib.hid (begins_ne (L := L) (M := M) h1 (by rw [← HN.out, ← HM.out]; exact hle) (by rw [← GX.out, ← GY.out]; intro e; injection e with e1 e2; exact he ⟨e1, e2⟩))
          have hq := fun w => neqD_diff w a b a' b' he
          clear he hx hy h1 h2
          go_wp2
          go_quiet (fail)
          go_wp2
          go_ret
          rw [hs.out]
          exact ⟨rfl, below_drewN (below_drewN HB.out _) _⟩
      · obtain rfl : i = n := by omega
        have hs := Lib.hid (begins_take (L := L) (M := M) (by rw [← HN.out, ← HM.out]; exact hle) (by rw [← HN.out]; exact HT.out))
        go_wp2
        go_ret
        rw [hs.out]
        exact ⟨rfl, below_drewN HB.out _⟩
  · have hI2 : (m : Int) < (n : Int) := by omega
    have HQ : Hid (beginsO L M = false) := Lib.hid (by unfold beginsO; rw [decide_eq_false (by rw [← HN.out, ← HM.out]; exact hle), Bool.false_and])
    rw [HQ.out]
    go_enter Tryd.func30, Tryd.ntmps30
    go_wp2
    go_ret
    exact ⟨rfl, HB.out⟩
theorem begins_same {L M : List (Int × Int)} (h : L.length = M.length) : beginsO L M = (L == M) := by
  unfold beginsO
  rw [decide_eq_true (by omega), Bool.true_and, h, List.take_length]
set_option maxRecDepth 100000 in
set_option maxHeartbeats 4000000 in
theorem rsame14 (V V' : Value) (L M : List (Int × Int)) (k c k' c' : Int) (w : World) (hV : IsDeeds w w.heap.size V L) (hV' : IsDeeds w w.heap.size V' M) (hl : L.length ≤ 1000000) :
    Calls Tryd.prog 28 #[.agg #[V, .int .i64 k, .int .i64 c], .agg #[V', .int .i64 k', .int .i64 c']] w (Makes w (.bool (sameO L k c M k' c'))) := by
  obtain ⟨A, cap, rfl, hc⟩ := hV.len
  obtain ⟨A', cap', rfl, hc'⟩ := hV'.len
  obtain ⟨hB, h0, h1⟩ := two_alloc14 w #[.slice A L.length cap, .int .i64 k, .int .i64 c] #[.slice A' M.length cap', .int .i64 k', .int .i64 c'] 47 47
  obtain ⟨x0, x1, x2⟩ := cells3_14 h0
  obtain ⟨y0, y1, y2⟩ := cells3_14 h1
  have HB := Lib.hid hB
  have HE := Lib.hid (rbegins14 _ _ L M k c k' c' _ (hV.grow hB) (hV'.grow hB) hl)
  clear hV hV' hc hc' h0 h1 hB
  by_cases he : k = k' ∧ c = c'
  · obtain ⟨rfl, rfl⟩ := he
    have hq := fun w => eqlE_same w k c
    by_cases hlen : L.length = M.length
    · have HQ : Hid (sameO L k c M k c = beginsO L M) := Lib.hid (by rw [begins_same hlen]; unfold sameO; simp)
      rw [HQ.out]
      have hI : ((L.length : Int) == (M.length : Int)) = true := by rw [hlen]; simp
      have hI2 : decide (L.length = M.length) = true := decide_eq_true hlen
      have hI3 : (L.length == M.length) = true := by rw [hlen]; simp
      clear HQ hlen
      generalize beginsO L M = b at *
      go_enter Tryd.func28, Tryd.ntmps28
      go_wp2_with (go_at_call 30; (with_reducible refine HE.out.mono ?_); rintro e w1 ⟨rfl, hw⟩; have HW := Lib.hid (HB.out.trans (hw.mono HB.out.size)); clear hw)
      go_ret
      exact ⟨rfl, HW.out⟩
    · have HQ : Hid (sameO L k c M k c = false) := Lib.hid (by
        unfold sameO
        rw [show (L == M) = false by rw [beq_eq_false_iff_ne]; intro h; exact hlen (by rw [h])]
        simp)
      rw [HQ.out]
      have hI : ((L.length : Int) == (M.length : Int)) = false := by simpa using (by omega : ¬ (L.length : Int) = M.length)
      have hI3 : (L.length == M.length) = false := by simpa using hlen
      clear HQ HE
      go_enter Tryd.func28, Tryd.ntmps28
      go_wp2
      go_ret
      exact ⟨rfl, HB.out⟩
  · have HQ : Hid (sameO L k c M k' c' = false) := Lib.hid (by
      unfold sameO
      have : (k == k' && c == c') = false := by
        rw [Bool.eq_false_iff]
        intro h
        simp at h
        exact he h
      rw [this]; rfl)
    rw [HQ.out]
    have hq := fun w => eqlE_diff w k c k' c' he
    clear HQ he HE
    go_enter Tryd.func28, Tryd.ntmps28
    go_wp2
    go_ret
    exact ⟨rfl, HB.out⟩
theorem digits_start14 (n : Nat) : dig14 n = (if n < 10 then [] else dig14 (n / 10)) ++ [48 + ((n % 10 : Nat) : Int)] := by
  by_cases h : n < 10
  · rw [if_pos h, dig14_small h, show n % 10 = n by omega]; rfl
  · rw [if_neg h, dig14_big h]
theorem digits_step14 {n0 k : Nat} {r : List Int} (h : dig14 n0 = (if k < 10 then [] else dig14 (k / 10)) ++ (48 + ((k % 10 : Nat) : Int)) :: r) (hk : ¬ k < 10) :
    dig14 n0 = (if k / 10 < 10 then [] else dig14 (k / 10 / 10)) ++ (48 + ((k / 10 % 10 : Nat) : Int)) :: ((48 + ((k % 10 : Nat) : Int)) :: r) := by
  rw [h, if_neg hk]
  by_cases h2 : k / 10 < 10
  · rw [if_pos h2, dig14_small h2, show k / 10 % 10 = k / 10 by omega]
    rfl
  · rw [if_neg h2, dig14_big h2]
    simp
theorem conv_digit14 (c : Int) (w : World) (hc : 0 ≤ c ∧ c < 256) : (convert 22 9 (.slice (some ⟨w.heap.size, 0, none⟩) 1 1)).run Tryd.prog (w.alloc (.cells #[.int .u8 c] 5)) = .ok (.string (strOfNums [c])) (w.alloc (.cells #[.int .u8 c] 5)) := by
  refine conv_bytes (P := Tryd.prog) (B := w.heap.size + 1) (xs := [c]) ?_ Tryd.underlying22 Tryd.underlying5 Tryd.underlying9
  refine ⟨fun x hx => by simp at hx; subst hx; exact hc, by unfold maxLen; simp, .inr ⟨⟨w.heap.size, 0, none⟩, 1, rfl, by simp, fun _ => by show w.heap.size < w.heap.size + 1; omega, fun i hi => ?_⟩⟩
  simp at hi
  subst hi
  have := cell_of_row _ w.heap.size 0 _ _ _ (heap_alloc_new w (.cells #[.int .u8 c] 5))
  exact this
set_option maxRecDepth 100000 in
set_option maxHeartbeats 4000000 in
theorem rdigits14 (n : Nat) (hn : n ≤ 1000) (w : World) : Calls Tryd.prog 46 #[.int .i64 n] w (Makes w (.string (strOfNums (dig14 n)))) := by
  have hcv : ∀ (k : Nat) (W : World), (convert 22 9 (.slice (some ⟨W.heap.size, 0, none⟩) 1 1)).run Tryd.prog (W.alloc (.cells #[.int .u8 (48 + (k : Int) % 10)] 5)) = .ok (.string (strOfNums [48 + (k : Int) % 10])) (W.alloc (.cells #[.int .u8 (48 + (k : Int) % 10)] 5)) := fun k W => conv_digit14 _ W (by omega)
  have HN := Lib.hid hn
  have HA : Hid (∀ (W : World) (c : Int), Below W.heap.size W (W.alloc (.cells #[.int .u8 c] 5))) := Lib.hid (fun W c => (Below.refl _ W).alloc (Nat.le_refl _) _)
  have HL : Hid ((dig14 n).length ≤ 5) := Lib.hid (dig14_len 4 n (by omega))
  have HST := Lib.hid (digits_start14 n)
  have hnn : ¬ (n : Int) < 0 := by omega
  have hn0 : (0 : Int) ≤ (n : Int) := by omega
  go_enter Tryd.func46, Tryd.ntmps46
  go_wp2
  go_loopw [0, 3] (fun v0 v3 wr => ∃ (k : Nat) (r : List Int) (q : ByteArray), v0 = .int .i64 k ∧ v3 = .string q ∧ Hid (q = strOfNums ((48 + (k : Int) % 10) :: r)) ∧ Hid (k ≤ 1000 ∧ Below w.heap.size w wr ∧ dig14 n = (if k < 10 then [] else dig14 (k / 10)) ++ (48 + ((k % 10 : Nat) : Int)) :: r)) (fun v0 _ _ => (intOf v0).toNat)
  case atStart => exact ⟨n, [], _, rfl, rfl, Lib.hid rfl, Lib.hid ⟨HN.out, HA.out w _, HST.out⟩⟩
  case round =>
    obtain ⟨k, r, q, rfl, rfl, HQ, HR⟩ := hrel
    have HBL := Lib.hid HR.out.2.1
    have HEQ := Lib.hid HR.out.2.2
    have hkb := HR.out.1
    have hk0 : (0 : Int) ≤ (k : Int) := by omega
    by_cases hk : k < 10
    · have hk2 : ¬ (10 : Int) ≤ (k : Int) := by omega
      have HZ : Hid (dig14 n = (48 + (k : Int) % 10) :: r) := Lib.hid (by rw [HEQ.out, if_pos hk]; simp)
      have HZ2 : Hid (q = strOfNums (dig14 n)) := Lib.hid (by rw [HZ.out, HQ.out])
      clear hk HR hcv hn hnn hn0
      go_wp2
      go_ret
      exact ⟨by have h := HZ2.out; subst h; rfl, HBL.out⟩
    · have hk2 : (10 : Int) ≤ (k : Int) := by omega
      have HZ := Lib.hid (digits_step14 HEQ.out hk)
      have HK := Lib.hid hk
      obtain ⟨j, hj⟩ : ∃ j, j = k / 10 := ⟨_, rfl⟩
      have HJ := Lib.hid hj
      rw [← hj] at HZ
      have hw : (k : Int) / 10 = (j : Int) := by omega
      have hj0 : (0 : Int) ≤ (j : Int) := by omega
      have hjb : j ≤ 1000 := by omega
      have hsz : ¬ (9223372036854775807 : Int) < ((strOfNums [48 + (j : Int) % 10]).size : Int) + (q.size : Int) := by
        have h1 := congrArg List.length HEQ.out
        have h2 := HL.out
        rw [HQ.out, str_size14, str_size14]
        simp at h1 ⊢
        omega
      clear hk HR hj hn hnn hn0
      go_wp2
      go_roundw
      case rel => exact ⟨j, (48 + (k : Int) % 10) :: r, _, rfl, rfl, Lib.hid (by rw [HQ.out, ← str_app14]; simp), Lib.hid ⟨by have := HJ.out; omega, HBL.out.trans ((HA.out _ _).mono HBL.out.size), by rw [HZ.out]; simp⟩⟩
      case measure => have := HK.out; have := HJ.out; simp [intOf]; omega
set_option maxRecDepth 100000 in
theorem rnumber14 (n : Int) (hn : smallI n) (w : World) : Calls Tryd.prog 46 #[.int .i64 n] w (Makes w (.string (strOfNums (num14 n)))) := by
  unfold smallI at hn
  by_cases h0 : n < 0
  · obtain rfl : n = -1 := by omega
    have HR := Lib.hid (show Calls Tryd.prog 46 #[.int .i64 1] w (Makes w (.string (strOfNums (dig14 1)))) from rdigits14 1 (by omega) w)
    have HQ : Hid (strOfNums (num14 (-1)) = ⟨#[45]⟩ ++ strOfNums (dig14 1)) := Lib.hid (by
      rw [show (⟨#[45]⟩ : ByteArray) = strOfNums [45] by decide, str_cons14]; rfl)
    rw [HQ.out]
    have hsz : (strOfNums (dig14 1)).size ≤ 5 := by rw [str_size14]; exact dig14_len 4 1 (by omega)
    clear hn h0
    generalize strOfNums (dig14 1) = s at *
    have hcat : ¬ (9223372036854775807 : Int) < 1 + (s.size : Int) := by omega
    clear hsz HQ
    go_enter Tryd.func46, Tryd.ntmps46
    go_wp2_with (go_at_call 46; (with_reducible refine HR.out.mono ?_); rintro e w1 ⟨rfl, hb⟩; have HB := Lib.hid hb; clear hb)
    go_ret
    exact ⟨rfl, HB.out⟩
  · obtain ⟨t, ht⟩ : ∃ t : Nat, n = (t : Int) := ⟨n.toNat, by omega⟩
    subst ht
    have e : num14 (t : Int) = dig14 t := by unfold num14; rw [if_neg h0]; simp
    rw [e]
    exact rdigits14 t (by omega) w
set_option maxRecDepth 100000 in
set_option maxHeartbeats 8000000 in
theorem rtext14 (V : Value) (L : List (Int × Int)) (k c : Int) (w : World) (hV : IsDeeds w w.heap.size V L) (hl : L.length ≤ 10000) :
    Calls Tryd.prog 24 #[.agg #[V, .int .i64 k, .int .i64 c]] w (Makes w (.tuple #[.string (textQ L k c), .int .i64 (errO L k c)])) := by
  obtain ⟨g, off, A, cap, rfl, hc, hD⟩ := hV.dat (Nat.le_refl _)
  have HB := Lib.hid (below_one14 w (.cells #[.slice A L.length cap, .int .i64 k, .int .i64 c] 47))
  obtain ⟨W0, hW0⟩ : ∃ W0, W0 = w.alloc (.cells #[.slice A L.length cap, .int .i64 k, .int .i64 c] 47) := ⟨_, rfl⟩
  have HX : Hid (∀ W, Below W0.heap.size W0 W → W.cell? ⟨w.heap.size, 0, none⟩ = some (.slice A L.length cap) ∧ W.cell? ⟨w.heap.size, 1, none⟩ = some (.int .i64 k) ∧ W.cell? ⟨w.heap.size, 2, none⟩ = some (.int .i64 c)) := Lib.hid (fun W hb => by rw [hW0] at hb; exact cells3_14 (box_below14 (heap_alloc_new w _) hb))
  have HD : Hid (∀ W, Below W0.heap.size W0 W → DAt g off w.heap.size A L W) := Lib.hid (fun W hb => by
    have h1 := hD.alloc (.cells #[.slice A L.length cap, .int .i64 k, .int .i64 c] 47)
    rw [← hW0] at h1
    exact h1.kp ⟨fun _ e => hb.block _ e, hb.size⟩)
  have HBd : Hid (Below w.heap.size w W0) := by rw [hW0]; exact HB
  have HC := Lib.hid (rcheck14 _ L k c _ (hV.grow HB.out) (by omega))
  obtain ⟨x0, x1, x2⟩ := HX.out _ (Below.refl _ _)
  rw [← hW0] at HC
  by_cases hok : okO L k c = true
  · obtain ⟨T, hT⟩ : ∃ T, T = textQ L k c := ⟨_, rfl⟩
    have HQ : Hid (T = strOfNums (textO L k c)) := Lib.hid (by rw [hT]; unfold textQ; rw [if_pos hok])
    have e0 : errO L k c = 0 := by unfold errO; rw [if_pos hok]
    have hok2 := hok
    unfold okO at hok2
    simp only [Bool.and_eq_true, decide_eq_true_eq] at hok2
    have HOK := Lib.hid (good_mem L false hok2.2)
    have HEK := Lib.hid hok2.1.2
    have HNU := Lib.hid (fun (v : Int) (h : smallI v) W => rnumber14 v h W)
    rw [← hT, e0]
    rw [e0] at HC
    obtain ⟨n, hn⟩ : ∃ n, n = L.length := ⟨_, rfl⟩
    have HN := Lib.hid hn
    have HL := Lib.hid hl
    rw [← hn] at HX x0 HC
    rw [hW0, ← hn] at x0 x1 x2
    rw [← hn] at hW0 ⊢
    have HW := Lib.hid hW0
    clear hV hD hc HB hok hok2 e0 hT hn hl hW0
    go_enter Tryd.func24, Tryd.ntmps24
    go_wp2_with (go_at_call 26; rw [← HW.out]; (with_reducible refine HC.out.mono ?_); rintro e w1 ⟨rfl, hb⟩; have HB1 := Lib.hid hb; clear hb)
    clear x0 x1 x2
    go_loopw [4, 5, 6] (fun v4 v5 _ wr => ∃ (i : Nat) (o : ByteArray), v4 = .string o ∧ v5 = .int .i64 i ∧ i ≤ n ∧ Hid (o = strOfNums ((L.take i).flatMap textD) ∧ Below W0.heap.size W0 wr)) (fun _ v5 _ _ => n - (intOf v5).toNat)
    case atStart => exact ⟨0, _, rfl, rfl, Nat.zero_le _, Lib.hid ⟨by rfl, HB1.out⟩⟩
    case round =>
      obtain ⟨i, o, rfl, rfl, hi, HR⟩ := hrel
      obtain ⟨y0, y1, y2⟩ := HX.out _ HR.out.2
      have hib : i ≤ 10000 := by have := HL.out; have := HN.out; omega
      have hos : o.size ≤ 100000 := by
        rw [HR.out.1, str_size14]
        have h1 := texts_len (L.take i) (fun d hd => HOK.out d (List.mem_of_mem_take hd))
        have h2 : (L.take i).length ≤ i := List.length_take_le _ _
        omega
      by_cases hlt : i < n
      · have hlL : i < L.length := by rw [← HN.out]; exact hlt
        have hd := HD.out _ HR.out.2
        obtain ⟨hA, hg⟩ := hd.at' (by omega)
        subst hA
        obtain ⟨c0, c1⟩ := hd.cells i hlL
        have hdk := okD_cases (HOK.out _ (getD_mem14 hlL))
        obtain ⟨⟨x, y⟩, hx⟩ : ∃ d, d = L.getD i (0, 0) := ⟨_, rfl⟩
        rw [← hx] at c0 c1 hdk
        dsimp only at c0 c1 hdk
        have hsm : smallI y := by unfold smallI; omega
        have HT := Lib.hid (take_snoc14 hlL)
        rw [← hx] at HT
        have HNV := Lib.hid (HNU.out y hsm)
        obtain ⟨q, hq⟩ : ∃ q, q = strOfNums (num14 y) := ⟨_, rfl⟩
        have hqs : q.size ≤ 5 := by rw [hq, str_size14]; exact num14_len (by omega)
        rw [← hq] at HNV
        have HQ2 := Lib.hid hq
        have i0 : (0 : Int) ≤ (i : Int) := by omega
        have HLT := Lib.hid (show i + 1 ≤ n ∧ True from ⟨hlt, trivial⟩)
        have g1 : ¬ (9223372036854775807 : Int) < (o.size : Int) + 1 := by omega
        have g2 : ¬ (9223372036854775807 : Int) < (o.size : Int) + 1 + (q.size : Int) := by omega
        have g3 : ¬ (9223372036854775807 : Int) < (o.size : Int) + 1 + (q.size : Int) + 1 := by omega
        have hone : (⟨#[45]⟩ : ByteArray).size = 1 ∧ (⟨#[43]⟩ : ByteArray).size = 1 := ⟨rfl, rfl⟩
        clear hd hlL hx hg hsm hq hqs hone
        rcases hdk with ⟨rfl, _, _⟩ | ⟨rfl, _, _⟩
        · have HNEW : Hid (o ++ ⟨#[43]⟩ ++ q ++ ⟨#[32]⟩ = strOfNums ((L.take (i + 1)).flatMap textD)) := Lib.hid (by
            rw [HT.out, List.flatMap_append, str_app14, ← HR.out.1, HQ2.out, show (⟨#[43]⟩ : ByteArray) = strOfNums [43] by decide, show (⟨#[32]⟩ : ByteArray) = strOfNums [32] by decide]
            have e : ([(1, y)] : List (Int × Int)).flatMap textD = [43] ++ (num14 y ++ [32]) := by simp [textD]
            rw [e, str_app14, str_app14, ByteArray.append_assoc, ByteArray.append_assoc])
          clear hos
          go_wp2_with (go_at_call 46; (with_reducible refine (HNV.out _).mono ?_); rintro e w2 ⟨rfl, hb⟩; have HB2 := Lib.hid (HR.out.2.trans (hb.mono HR.out.2.size)); clear hb)
          go_roundw
          case rel => exact ⟨i + 1, _, rfl, by go_num, HLT.out.1, Lib.hid ⟨HNEW.out, HB2.out⟩⟩
          case measure => have := HLT.out.1; simp [intOf]; omega
        · have HNEW : Hid (o ++ ⟨#[45]⟩ ++ q ++ ⟨#[32]⟩ = strOfNums ((L.take (i + 1)).flatMap textD)) := Lib.hid (by
            rw [HT.out, List.flatMap_append, str_app14, ← HR.out.1, HQ2.out, show (⟨#[45]⟩ : ByteArray) = strOfNums [45] by decide, show (⟨#[32]⟩ : ByteArray) = strOfNums [32] by decide]
            have e : ([(2, y)] : List (Int × Int)).flatMap textD = [45] ++ (num14 y ++ [32]) := by simp [textD]
            rw [e, str_app14, str_app14, ByteArray.append_assoc, ByteArray.append_assoc])
          clear hos
          go_wp2_with (go_at_call 46; (with_reducible refine (HNV.out _).mono ?_); rintro e w2 ⟨rfl, hb⟩; have HB2 := Lib.hid (HR.out.2.trans (hb.mono HR.out.2.size)); clear hb)
          go_roundw
          case rel => exact ⟨i + 1, _, rfl, by go_num, HLT.out.1, Lib.hid ⟨HNEW.out, HB2.out⟩⟩
          case measure => have := HLT.out.1; simp [intOf]; omega
      · obtain rfl : i = n := by omega
        have HO : Hid (o = strOfNums (L.flatMap textD)) := Lib.hid (by
          have h := HR.out.1
          rw [List.take_of_length_le (by rw [← HN.out]; exact Nat.le_refl _)] at h
          exact h)
        have hek := okE_cases HEK.out
        have HFin : Hid (Below w.heap.size w wr) := Lib.hid (HBd.out.trans (HR.out.2.mono HBd.out.size))
        have HTX : Hid (T = o ++ strOfNums (textE k c)) := Lib.hid (by rw [HQ.out]; unfold textO; rw [str_app14, ← HO.out])
        rcases hek with ⟨rfl, h1, h2⟩ | ⟨rfl, hcc⟩ | ⟨h3, rfl⟩
        · have HNV := Lib.hid (HNU.out c (by unfold smallI; omega))
          obtain ⟨q, hq⟩ : ∃ q, q = strOfNums (num14 c) := ⟨_, rfl⟩
          have hqs : q.size ≤ 5 := by rw [hq, str_size14]; exact num14_len (by omega)
          rw [← hq] at HNV
          have HNEW : Hid (T = o ++ ⟨#[101, 120, 105, 116, 32]⟩ ++ q) := Lib.hid (by
            rw [HTX.out, hq, show (⟨#[101, 120, 105, 116, 32]⟩ : ByteArray) = strOfNums [101, 120, 105, 116, 32] by decide, ByteArray.append_assoc, ← str_app14]; rfl)
          have g1 : ¬ (9223372036854775807 : Int) < (o.size : Int) + 5 := by omega
          have g2 : ¬ (9223372036854775807 : Int) < (o.size : Int) + 5 + (q.size : Int) := by omega
          clear hos hq hqs
          go_wp2_with (go_at_call 46; (with_reducible refine (HNV.out _).mono ?_); rintro e w2 ⟨rfl, hb⟩; have HB2 := Lib.hid (HFin.out.trans (hb.mono HFin.out.size)); clear hb)
          go_ret2
          exact ⟨by rw [HNEW.out]; first | done | rfl, HB2.out⟩
        · have HNV := Lib.hid (HNU.out c (by unfold smallI; omega))
          obtain ⟨q, hq⟩ : ∃ q, q = strOfNums (num14 c) := ⟨_, rfl⟩
          have hqs : q.size ≤ 5 := by rw [hq, str_size14]; exact num14_len (by omega)
          rw [← hq] at HNV
          have HNEW : Hid (T = o ++ ⟨#[116, 114, 97, 112, 32]⟩ ++ q) := Lib.hid (by
            rw [HTX.out, hq, show (⟨#[116, 114, 97, 112, 32]⟩ : ByteArray) = strOfNums [116, 114, 97, 112, 32] by decide, ByteArray.append_assoc, ← str_app14]; rfl)
          have g1 : ¬ (9223372036854775807 : Int) < (o.size : Int) + 5 := by omega
          have g2 : ¬ (9223372036854775807 : Int) < (o.size : Int) + 5 + (q.size : Int) := by omega
          clear hos hq hqs hcc
          go_wp2_with (go_at_call 46; (with_reducible refine (HNV.out _).mono ?_); rintro e w2 ⟨rfl, hb⟩; have HB2 := Lib.hid (HFin.out.trans (hb.mono HFin.out.size)); clear hb)
          go_ret2
          exact ⟨by rw [HNEW.out]; first | done | rfl, HB2.out⟩
        · have g1 : ¬ (9223372036854775807 : Int) < (o.size : Int) + 5 := by omega
          have g2 : ¬ (9223372036854775807 : Int) < (o.size : Int) + 4 := by omega
          clear hos
          rcases h3 with rfl | rfl
          · have HNEW : Hid (T = o ++ ⟨#[115, 116, 97, 99, 107]⟩) := Lib.hid (by
              rw [HTX.out, show textE 3 0 = [115, 116, 97, 99, 107] from rfl]; congr 1)
            go_wp2
            go_ret2
            exact ⟨by rw [HNEW.out]; first | done | rfl, HFin.out⟩
          · have HNEW : Hid (T = o ++ ⟨#[102, 117, 101, 108]⟩) := Lib.hid (by
              rw [HTX.out, show textE 4 0 = [102, 117, 101, 108] from rfl]; congr 1)
            go_wp2
            go_ret2
            exact ⟨by rw [HNEW.out]; first | done | rfl, HFin.out⟩
  · have HQ : Hid (textQ L k c = ⟨#[]⟩ ∧ errO L k c = 2) := Lib.hid ⟨by unfold textQ; rw [if_neg hok], by unfold errO; rw [if_neg hok]⟩
    rw [HQ.out.1]
    rw [HQ.out.2] at HC ⊢
    have HW := Lib.hid hW0
    rw [hW0] at x0 x1 x2
    clear hV hD hok hc hW0 HB
    go_enter Tryd.func24, Tryd.ntmps24
    go_wp2_with (go_at_call 26; rw [← HW.out]; (with_reducible refine HC.out.mono ?_); rintro e w1 ⟨rfl, hb⟩; have HB1 := Lib.hid (HBd.out.trans (hb.mono HBd.out.size)); clear hb)
    go_ret2
    exact ⟨rfl, HB1.out⟩
end Go.Proofs.YtecbpbkehdmmcaaDoor
