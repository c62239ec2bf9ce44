/- The statement MemNone's body is true, for any act, whatever memory the call begins in. -/
import Derived.Test.YthcefpakjkojgaaLong02
namespace Go.Proofs.Ythcefpakjkojgaa
open Go.RowKit
set_option linter.unusedVariables false

theorem one_act (A : ActV) (w : World) (n : Nat) (hn : n = w.heap.size) (hA : A.ok w n) : IsActs (w.alloc (.cells #[.int .i64 A.kind, .int .i64 A.n, .int .u64 A.at', .int .u64 A.v, A.b] 35)) (n + 1) (.slice (some ⟨n, 0, none⟩) 1 1) [A] := by
  subst hn
  have hb : Below w.heap.size w (w.alloc (.cells #[.int .i64 A.kind, .int .i64 A.n, .int .u64 A.at', .int .u64 A.v, A.b] 35)) := (Below.refl _ _).alloc (Nat.le_refl _) _
  refine ⟨by simp [maxLen], fun B hB => ?_, .inr ⟨w.heap.size, 0, 1, rfl, Nat.le_refl _, Nat.lt_succ_self _, fun i hi j hj => ?_⟩⟩
  · simp at hB
    subst hB
    have := hA.below hb (Nat.le_refl _)
    exact ⟨this.k, this.n, this.a, this.v, this.b.more (by omega)⟩
  · have hi0 : i = 0 := by simpa using hi
    subst hi0
    have hcell := cell_of_row (w.alloc (.cells #[.int .i64 A.kind, .int .i64 A.n, .int .u64 A.at', .int .u64 A.v, A.b] 35)) w.heap.size (0 + 0 * 5 + j) _ _ _ (heap_alloc_new w _)
    rw [hcell]
    have : j = 0 ∨ j = 1 ∨ j = 2 ∨ j = 3 ∨ j = 4 := by omega
    rcases this with rfl | rfl | rfl | rfl | rfl <;> rfl

set_option maxRecDepth 100000 in
set_option maxHeartbeats 8000000 in
theorem none_long (A : ActV) (w : World) (hA : A.ok w w.heap.size) (hl : longB [A] = true) :
    Calls Try.prog 4 #[.agg #[.int .i64 A.kind, .int .i64 A.n, .int .u64 A.at', .int .u64 A.v, A.b]] w fun e w' => e = .returned (.bool true) ∧ Below w.heap.size w w' := by
  have h1 := one_act A (w.alloc (.cells #[.int .i64 A.kind, .int .i64 A.n, .int .u64 A.at', .int .u64 A.v, A.b] 35)) (w.heap.size + 1) (by simp) (by
    have := hA.below ((Below.refl w.heap.size w).alloc (Nat.le_refl _) (.cells #[.int .i64 A.kind, .int .i64 A.n, .int .u64 A.at', .int .u64 A.v, A.b] 35)) (Nat.le_refl _)
    exact ⟨this.k, this.n, this.a, this.v, this.b.more (by omega)⟩)
  have hc := long_any _ _ _ _ h1
  rw [hl] at hc
  have HC := Lib.hid hc
  clear hc h1 hl hA
  go_enter Try.func4, Try.ntmps4
  go_wp2_with (first
    | (go_at_call 8; (with_reducible refine HC.out.mono ?_); rintro e w' ⟨rfl, rfl⟩)
    | (go_at_call 9; (with_reducible refine (awake_any _).mono ?_); rintro e w1 ⟨rfl, hb⟩; have HB := Lib.hid hb; clear hb))
  go_ret
  exact ⟨rfl, (((Below.refl w.heap.size w).alloc (Nat.le_refl _) _).alloc (by simp) _).trans (HB.out.mono (by simp; omega))⟩

set_option maxRecDepth 100000 in
set_option maxHeartbeats 16000000 in
theorem none_short (k n a v : Int) (Y : Value) (ys : List Int) (w : World) (hY : IsBytes w w.heap.size Y ys)
    (hc : Calls Try.prog 8 #[.slice (some ⟨w.heap.size + 1, 0, none⟩) 1 1] ((w.alloc (.cells #[.int .i64 k, .int .i64 n, .int .u64 a, .int .u64 v, Y] 35)).alloc (.cells #[.int .i64 k, .int .i64 n, .int .u64 a, .int .u64 v, Y] 35)) fun e w' => e = .returned (.bool false) ∧ (w.alloc (.cells #[.int .i64 k, .int .i64 n, .int .u64 a, .int .u64 v, Y] 35)).alloc (.cells #[.int .i64 k, .int .i64 n, .int .u64 a, .int .u64 v, Y] 35) = w') :
    Calls Try.prog 4 #[.agg #[.int .i64 k, .int .i64 n, .int .u64 a, .int .u64 v, Y]] w fun e w' => e = .returned (.bool true) ∧ Below w.heap.size w w' := by
  have HC := Lib.hid hc
  have HY := Lib.hid hY
  clear hc hY
  go_enter Try.func4, Try.ntmps4
  go_wp2_with (first
    | (go_at_call 8; (with_reducible refine HC.out.mono ?_); rintro e w' ⟨rfl, rfl⟩)
    | (go_at_call 10; refine (new_yes 32 _ (by decide) (by decide)).mono ?_; rintro e w1 ⟨mb, bb, c, rfl, hm, h1, h2, hb⟩; have HM := Lib.hid hm; have HB := Lib.hid hb; clear hm hb))
  have c1 : w1.cell? ⟨w.heap.size, 1, none⟩ = some (.int .i64 n) := by rw [HB.out.cell (by simp; omega)]; simp [go_sem]
  have c2 : w1.cell? ⟨w.heap.size, 2, none⟩ = some (.int .u64 a) := by rw [HB.out.cell (by simp; omega)]; simp [go_sem]
  have c3 : w1.cell? ⟨w.heap.size, 3, none⟩ = some (.int .u64 v) := by rw [HB.out.cell (by simp; omega)]; simp [go_sem]
  have c4 : w1.cell? ⟨w.heap.size, 4, none⟩ = some Y := by rw [HB.out.cell (by simp; omega)]; simp [go_sem]
  have d0 : w1.cell? ⟨w.heap.size + 1 + 1 + 1, 0, none⟩ = some (.pointer none) := by rw [HB.out.cell (by simp)]; simp [go_sem]
  have d1 : w1.cell? ⟨w.heap.size + 1 + 1 + 1, 1, none⟩ = some (.pointer (some ⟨w.heap.size + 1 + 1, 0, none⟩)) := by rw [HB.out.cell (by simp)]; simp [go_sem]
  have d2 : w1.cell? ⟨w.heap.size + 1 + 1, 0, none⟩ = some (.pointer none) := by rw [HB.out.cell (by simp)]; simp [go_sem]
  have BB : Below w.heap.size w w1 := ((((((Below.refl w.heap.size w).alloc (Nat.le_refl _) _).alloc (by simp) _).alloc (by simp; omega) _).alloc (by simp; omega) _)).trans (HB.out.mono (by simp; omega))
  have hp : ∀ k, k < 2 → ∃ p, w1.cell? ⟨w.heap.size + 1 + 1 + 1, k, none⟩ = some p ∧ NoMem w1 p := by
    intro k hk
    have : k = 0 ∨ k = 1 := by omega
    rcases this with rfl | rfl
    · exact ⟨_, d0, .inl rfl⟩
    · exact ⟨_, d1, .inr ⟨_, rfl, d2⟩⟩
  have HY1 := HY.out.below BB (Nat.le_refl _)
  generalize w.heap.size + 1 + 1 + 1 = b3 at *
  generalize w.heap.size + 1 + 1 = b2 at *
  have HYh := Lib.hid HY1
  have HP := Lib.hid hp
  have HBB := Lib.hid BB
  have C1 := Lib.hid c1
  have C2 := Lib.hid c2
  have C3 := Lib.hid c3
  have C4 := Lib.hid c4
  clear HY1 hp BB d0 d1 d2 c1 c2 c3 c4 h1 h2
  go_loopw [6] (fun i wr => ∃ k : Nat, k ≤ 2 ∧ i = .int .i64 k ∧ Hid (∃ q, wr = w1.drewN q)) (fun i _ => 2 - (intOf i).toNat)
  case atStart => exact ⟨0, by omega, rfl, 0, rfl⟩
  case round =>
    obtain ⟨k, hk, rfl, hq⟩ := hrel
    have e1 : wr.cell? ⟨w.heap.size, 1, none⟩ = some (.int .i64 n) := by obtain ⟨q, rfl⟩ := hq.out; exact C1.out
    have e2 : wr.cell? ⟨w.heap.size, 2, none⟩ = some (.int .u64 a) := by obtain ⟨q, rfl⟩ := hq.out; exact C2.out
    have e3 : wr.cell? ⟨w.heap.size, 3, none⟩ = some (.int .u64 v) := by obtain ⟨q, rfl⟩ := hq.out; exact C3.out
    have e4 : wr.cell? ⟨w.heap.size, 4, none⟩ = some Y := by obtain ⟨q, rfl⟩ := hq.out; exact C4.out
    by_cases hlt : k < 2
    · obtain ⟨p, hcell, hno⟩ := HP.out k hlt
      have e5 : wr.cell? ⟨b3, k, none⟩ = some p := by obtain ⟨q, rfl⟩ := hq.out; exact hcell
      have hno1 : NoMem wr p := by obtain ⟨q, rfl⟩ := hq.out; exact hno
      have hm1 : MemAt wr mb bb c (List.replicate 32 0) := by obtain ⟨q, rfl⟩ := hq.out; exact HM.out.drewN q
      have hy1 : IsBytes wr w.heap.size Y ys := by obtain ⟨q, rfl⟩ := hq.out; exact HYh.out
      have T1 := Lib.hid (fun m => load_no (show NoMem (wr.drewN m) p from hno1) a n)
      have T2 := Lib.hid (fun m => bytes_no (show NoMem (wr.drewN m) p from hno1) a n)
      have T3 := Lib.hid (fun m => store_no (show NoMem (wr.drewN m) p from hno1) a n v)
      have T4 := Lib.hid (fun m => lay_no (show NoMem (wr.drewN m) p from hno1) a (hy1.drewN m))
      have T5 := Lib.hid (fun m => size_no (show NoMem (wr.drewN m) p from hno1))
      have T6 := Lib.hid (fun m => memCopy_no (show NoMem (wr.drewN m) p from hno1))
      have T7 := Lib.hid (fun m q => same_no1 (q := q) (show NoMem (wr.drewN m) p from hno1))
      have T8 := Lib.hid (fun m => same_no2 (hm1.drewN m) (show NoMem (wr.drewN m) p from hno1))
      have k0 : (0 : Int) ≤ (k : Int) := by omega
      have k1 : (k : Int) < (2 : Int) := by omega
      clear hcell hno hno1 hm1 hy1
      go_wp2_with fail
      go_quiet ((go_at_call 18; with_reducible exact quiet_left (T1.out _)))
      go_wp2_with fail
      go_quiet ((go_at_call 19; with_reducible exact quiet_add_left (T2.out _)))
      go_wp2_with fail
      go_quiet ((first
        | (go_at_call 15; with_reducible exact quiet_add_left (T3.out _))
        | (go_at_call 20; with_reducible exact quiet_add_left (T4.out _))
        | (go_at_call 14; with_reducible exact quiet_add_left (T5.out _))
        | (go_at_call 12; with_reducible exact quiet_add_left (T6.out _))
        | (go_at_call 13; with_reducible exact quiet_add_drew (T7.out _ _))
        | (go_at_call 13; with_reducible exact quiet_add_drew (T8.out _))))
      go_wp2_with fail
      go_roundw
      case rel => exact ⟨k + 1, by omega, by go_num, by first | exact hid_drew hq _ | exact hid_drew (hid_drew hq _) _ | exact hid_drew (hid_drew (hid_drew hq _) _) _⟩
      case measure => simp [intOf]; omega
    · obtain rfl : k = 2 := by omega
      have hbw : Below w.heap.size w wr := by obtain ⟨q, rfl⟩ := hq.out; exact below_drewN HBB.out q
      have HBW := Lib.hid hbw
      clear hbw
      go_wp2_with (go_at_call 9; (with_reducible refine (awake_any _).mono ?_); rintro e w9 ⟨rfl, hb⟩; have HB9 := Lib.hid hb; clear hb)
      go_ret
      exact ⟨rfl, below_next HBW.out HB9.out HBW.out.size⟩
theorem none_any (A : ActV) (w : World) (hA : A.ok w w.heap.size) :
    Calls Try.prog 4 #[.agg #[.int .i64 A.kind, .int .i64 A.n, .int .u64 A.at', .int .u64 A.v, A.b]] w fun e w' => e = .returned (.bool true) ∧ Below w.heap.size w w' := by
  cases hl : longB [A]
  · have h1 := one_act A (w.alloc (.cells #[.int .i64 A.kind, .int .i64 A.n, .int .u64 A.at', .int .u64 A.v, A.b] 35)) (w.heap.size + 1) (by simp) (by
      have := hA.below ((Below.refl w.heap.size w).alloc (Nat.le_refl _) (.cells #[.int .i64 A.kind, .int .i64 A.n, .int .u64 A.at', .int .u64 A.v, A.b] 35)) (Nat.le_refl _)
      exact ⟨this.k, this.n, this.a, this.v, this.b.more (by omega)⟩)
    have hc := long_any _ _ _ _ h1
    rw [hl] at hc
    exact none_short _ _ _ _ _ _ w hA.b hc
  · exact none_long A w hA hl
end Go.Proofs.Ythcefpakjkojgaa
