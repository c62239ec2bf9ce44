/- Which deeds and endings may be; the deeds passed on one behind the other. Contracts; no condition but what each names. -/
import Derived.Test.YtkfdgpgildanbaaGreatDeed14E
import Derived.Test.YtkfdgpgildanbaaGreatRange14
namespace Go.Proofs.YtkfdgpgildanbaaGreat
open Go.RowKit
set_option linter.unusedVariables false
set_option linter.unusedSimpArgs false

def byteB14 (n : Int) : Bool := decide (0 ≤ n ∧ n ≤ 255)
theorem isByte14 (n : Int) (w : World) : Calls Tryz.prog 177 #[.int .i64 n] w fun e w' => e = .returned (.bool (byteB14 n)) ∧ w = w' := by
  by_cases h0 : 0 ≤ n
  · by_cases h1 : n ≤ 255
    · have HQ : Hid (byteB14 n = true) := Lib.hid (decide_eq_true ⟨h0, h1⟩)
      go_enter Tryz.func177, Tryz.ntmps177
      go_wp2
      go_ret
      exact ⟨by rw [HQ.out]; first | done | rfl, rfl⟩
    · have HQ : Hid (byteB14 n = false) := Lib.hid (decide_eq_false (fun h => h1 h.2))
      go_enter Tryz.func177, Tryz.ntmps177
      go_wp2
      go_ret
      exact ⟨by rw [HQ.out]; first | done | rfl, rfl⟩
  · have HQ : Hid (byteB14 n = false) := Lib.hid (decide_eq_false (fun h => h0 h.1))
    go_enter Tryz.func177, Tryz.ntmps177
    go_wp2
    go_ret
    exact ⟨by rw [HQ.out]; first | done | rfl, rfl⟩
theorem below_one14 (w : World) (o : Obj) : Below w.heap.size w (w.alloc o) := (Below.refl _ _).alloc (Nat.le_refl _) _
theorem gotByte14 (k b : Int) (w : World) : Calls Tryz.prog 180 #[.agg #[.int .i64 k, .int .i64 b]] w (Makes w (.bool (gotB (k, b)))) := by
  have HB := Lib.hid (fun W => isByte14 b W)
  by_cases hk : k = 1
  · subst hk
    have HQ : Hid (byteB14 b = gotB (1, b)) := Lib.hid (by simp [gotB, byteB14])
    go_enter Tryz.func180, Tryz.ntmps180
    go_wp2_with (go_at_call 177; (with_reducible refine (HB.out _).mono ?_); rintro e w' ⟨rfl, rfl⟩)
    go_ret
    exact ⟨by rw [HQ.out]; first | done | rfl, below_one14 _ _⟩
  · have HQ : Hid (gotB (k, b) = false) := Lib.hid (by simp [gotB, hk])
    have hk2 : (k == 1) = false := by simpa using hk
    go_enter Tryz.func180, Tryz.ntmps180
    go_wp2
    go_ret
    exact ⟨by rw [HQ.out]; first | done | rfl, below_one14 _ _⟩
theorem putByte14 (k b : Int) (w : World) : Calls Tryz.prog 201 #[.agg #[.int .i64 k, .int .i64 b]] w (Makes w (.bool (putB (k, b)))) := by
  have HB := Lib.hid (fun W => isByte14 b W)
  by_cases hk : k = 2
  · subst hk
    have HQ : Hid (byteB14 b = putB (2, b)) := Lib.hid (by simp [putB, byteB14])
    go_enter Tryz.func201, Tryz.ntmps201
    go_wp2_with (go_at_call 177; (with_reducible refine (HB.out _).mono ?_); rintro e w' ⟨rfl, rfl⟩)
    go_ret
    exact ⟨by rw [HQ.out]; first | done | rfl, below_one14 _ _⟩
  · have HQ : Hid (putB (k, b) = false) := Lib.hid (by simp [putB, hk])
    have hk2 : (k == 2) = false := by simpa using hk
    go_enter Tryz.func201, Tryz.ntmps201
    go_wp2
    go_ret
    exact ⟨by rw [HQ.out]; first | done | rfl, below_one14 _ _⟩
theorem gotNothing14 (k b : Int) (w : World) : Calls Tryz.prog 181 #[.agg #[.int .i64 k, .int .i64 b]] w (Makes w (.bool (gotN (k, b)))) := by
  by_cases hk : k = 1
  · subst hk
    obtain ⟨q, hq⟩ : ∃ q, q = (b == -1) := ⟨_, rfl⟩
    have HQ : Hid (q = gotN (1, b)) := Lib.hid (by simp [gotN, hq])
    rw [← HQ.out]
    by_cases hb : b = -1
    · subst hb
      obtain rfl : q = true := hq
      go_enter Tryz.func181, Tryz.ntmps181
      go_wp2
      go_ret
      exact ⟨rfl, below_one14 _ _⟩
    · have hb2 : (b == -1) = false := by simpa using hb
      obtain rfl : q = false := hq.trans hb2
      clear hq
      go_enter Tryz.func181, Tryz.ntmps181
      go_wp2
      go_ret
      exact ⟨rfl, below_one14 _ _⟩
  · have HQ : Hid (gotN (k, b) = false) := Lib.hid (by simp [gotN, hk])
    have hk2 : (k == 1) = false := by simpa using hk
    go_enter Tryz.func181, Tryz.ntmps181
    go_wp2
    go_ret
    exact ⟨by rw [HQ.out]; first | done | rfl, below_one14 _ _⟩
set_option maxRecDepth 100000 in
theorem deedValid14 (k b : Int) (w : World) : Calls Tryz.prog 179 #[.agg #[.int .i64 k, .int .i64 b]] w (Makes w (.bool (okD (k, b)))) := by
  obtain ⟨g1, hg1⟩ : ∃ g1, g1 = gotB (k, b) := ⟨_, rfl⟩
  obtain ⟨g2, hg2⟩ : ∃ g2, g2 = gotN (k, b) := ⟨_, rfl⟩
  obtain ⟨g3, hg3⟩ : ∃ g3, g3 = putB (k, b) := ⟨_, rfl⟩
  have HQ : Hid (okD (k, b) = (g1 || g2 || g3)) := Lib.hid (by rw [hg1, hg2, hg3]; rfl)
  have H1 := Lib.hid (fun W => gotByte14 k b W)
  have H2 := Lib.hid (fun W => gotNothing14 k b W)
  have H3 := Lib.hid (fun W => putByte14 k b W)
  rw [← hg1] at H1
  rw [← hg2] at H2
  rw [← hg3] at H3
  rw [HQ.out]
  have HX : Hid (∀ W, Below (w.alloc (.cells #[.int .i64 k, .int .i64 b] 209)).heap.size (w.alloc (.cells #[.int .i64 k, .int .i64 b] 209)) W → W.cell? ⟨w.heap.size, 0, none⟩ = some (.int .i64 k) ∧ W.cell? ⟨w.heap.size, 1, none⟩ = some (.int .i64 b)) := Lib.hid (fun W hb => cells2_14 (box_below14 (heap_alloc_new w _) hb))
  have HW := Lib.hid (below_one14 w (.cells #[.int .i64 k, .int .i64 b] 209))
  obtain ⟨x0, x1⟩ := HX.out _ (Below.refl _ _)
  clear hg1 hg2 hg3
  cases g1
  · cases g2
    · go_enter Tryz.func179, Tryz.ntmps179
      go_wp2_with (first
        | (go_at_call 180; (with_reducible refine (H1.out _).mono ?_); rintro e w1 ⟨rfl, hb⟩; have HB1 := Lib.hid hb; obtain ⟨y0, y1⟩ := HX.out _ hb; clear hb)
        | (go_at_call 181; (with_reducible refine (H2.out _).mono ?_); rintro e w2 ⟨rfl, hb⟩; have HB2 := Lib.hid (HB1.out.trans (hb.mono HB1.out.size)); obtain ⟨z0, z1⟩ := HX.out _ HB2.out; clear hb)
        | (go_at_call 201; (with_reducible refine (H3.out _).mono ?_); rintro e w3 ⟨rfl, hb⟩; have HB3 := Lib.hid (HB2.out.trans (hb.mono HB2.out.size)); clear hb))
      go_ret
      exact ⟨rfl, HW.out.trans (HB3.out.mono HW.out.size)⟩
    · go_enter Tryz.func179, Tryz.ntmps179
      go_wp2_with (first
        | (go_at_call 180; (with_reducible refine (H1.out _).mono ?_); rintro e w1 ⟨rfl, hb⟩; have HB1 := Lib.hid hb; obtain ⟨y0, y1⟩ := HX.out _ hb; clear hb)
        | (go_at_call 181; (with_reducible refine (H2.out _).mono ?_); rintro e w2 ⟨rfl, hb⟩; have HB2 := Lib.hid (HB1.out.trans (hb.mono HB1.out.size)); obtain ⟨z0, z1⟩ := HX.out _ HB2.out; clear hb))
      go_ret
      exact ⟨rfl, HW.out.trans (HB2.out.mono HW.out.size)⟩
  · go_enter Tryz.func179, Tryz.ntmps179
    go_wp2_with (go_at_call 180; (with_reducible refine (H1.out _).mono ?_); rintro e w1 ⟨rfl, hb⟩; have HB1 := Lib.hid hb; obtain ⟨y0, y1⟩ := HX.out _ hb; clear hb)
    go_ret
    exact ⟨rfl, HW.out.trans (HB1.out.mono HW.out.size)⟩
theorem endingValid14 (k c : Int) (w : World) : Calls Tryz.prog 147 #[.agg #[.int .i64 k, .int .i64 c]] w (Makes w (.bool (okE k c))) := by
  have HB := Lib.hid (fun W => isByte14 c W)
  obtain ⟨x0, x1⟩ := cells2_14 (heap_alloc_new w (.cells #[.int .i64 k, .int .i64 c] 193))
  by_cases h1 : k = 1
  · subst h1
    have HQ : Hid (byteB14 c = okE 1 c) := Lib.hid (by simp [okE, byteB14])
    go_enter Tryz.func147, Tryz.ntmps147
    go_wp2_with (go_at_call 177; (with_reducible refine (HB.out _).mono ?_); rintro e w' ⟨rfl, rfl⟩)
    go_ret
    exact ⟨by rw [HQ.out]; first | done | rfl, below_one14 _ _⟩
  · have e1 : (k == 1) = false := by simpa using h1
    by_cases h2 : k = 2
    · subst h2
      by_cases hc : c = 1
      · subst hc
        go_enter Tryz.func147, Tryz.ntmps147
        go_wp2
        go_ret
        exact ⟨rfl, below_one14 _ _⟩
      · have e2 : (c == 1) = false := by simpa using hc
        obtain ⟨q, hq⟩ : ∃ q, q = (c == 2) := ⟨_, rfl⟩
        have HQ : Hid (okE 2 c = q) := Lib.hid (by rw [hq]; simp [okE, e2])
        have hq2 := hq.symm
        clear hq hc
        go_enter Tryz.func147, Tryz.ntmps147
        go_wp2
        go_ret
        exact ⟨by rw [HQ.out]; first | done | rfl, below_one14 _ _⟩
    · have e2 : (k == 2) = false := by simpa using h2
      obtain ⟨q, hq⟩ : ∃ q, q = (c == 0) := ⟨_, rfl⟩
      have hq2 := hq.symm
      by_cases h3 : k = 3
      · subst h3
        have HQ : Hid (okE 3 c = q) := Lib.hid (by rw [hq]; simp [okE])
        clear hq h1 h2
        go_enter Tryz.func147, Tryz.ntmps147
        go_wp2
        go_ret
        exact ⟨by rw [HQ.out]; first | done | rfl, below_one14 _ _⟩
      · have e3 : (k == 3) = false := by simpa using h3
        by_cases h4 : k = 4
        · subst h4
          have HQ : Hid (okE 4 c = q) := Lib.hid (by rw [hq]; simp [okE])
          clear hq h1 h2 h3
          go_enter Tryz.func147, Tryz.ntmps147
          go_wp2
          go_ret
          exact ⟨by rw [HQ.out]; first | done | rfl, below_one14 _ _⟩
        · have e4 : (k == 4) = false := by simpa using h4
          have HQ : Hid (okE k c = false) := Lib.hid (by simp [okE, h1, h2, h3, h4])
          clear hq hq2 h1 h2 h3 h4
          go_enter Tryz.func147, Tryz.ntmps147
          go_wp2
          go_ret
          exact ⟨by rw [HQ.out]; first | done | rfl, below_one14 _ _⟩
end Go.Proofs.YtkfdgpgildanbaaGreat
