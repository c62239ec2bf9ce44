/- SpaceNone's call. No condition but what each names. -/
import Derived.Test.YtkfdgpgildanbaaGreatSp15S
import Derived.Test.YtkfdgpgildanbaaGreatSp15T
namespace Go.Proofs.YtkfdgpgildanbaaGreat
open Go.RowKit Go.Shelf
set_option linter.unusedVariables false
set_option linter.unusedSimpArgs false
theorem neqE_same (w : World) (a b : Int) : (binOp .neq 45 (.agg #[.int .i64 a, .int .i64 b]) (.agg #[.int .i64 a, .int .i64 b])).run Tryz.prog w = .ok (.bool false) w := by go_simp
theorem nums_mono15 {K : IntKind} {w : World} {B B' : Nat} {X : Value} {xs : List Int} (h : IsNums K w B X xs) (hB : B ≤ B') : IsNums K w B' X xs :=
  ⟨h.1, h.2.imp id (fun ⟨ad, cap, a, b, c, d⟩ => ⟨ad, cap, a, b, fun e => Nat.lt_of_lt_of_le (c e) hB, d⟩)⟩
theorem one_act15 {A : ActS} {w W1 : World} (hb : Below w.heap.size w W1) (hA : A.ok w w.heap.size) {b : Nat} (h : W1.heap[b]? = some (.cells A.arr 47 (0, 0))) (hlt : w.heap.size ≤ b) : IsActS W1 W1.heap.size (.slice (some ⟨b, 0, none⟩) 1 1) [A] := by
  have hA1 := hA.below hb (Nat.le_refl _)
  obtain ⟨c0, c1, c2, c3, c4, c5, c6, c7⟩ := cells8 h
  refine ⟨by simp [maxLen], ?_, .inr ⟨b, 0, 1, rfl, by simp, heap_lt h, ?_⟩⟩
  · simp
    exact ⟨hA1.k, hA1.r, hA1.n, hA1.back, hA1.v, nums_mono15 hA1.b hb.size, hA1.ain, hA1.e⟩
  · intro i hi j hj
    obtain rfl : i = 0 := by simpa using hi
    have : j = 0 ∨ j = 1 ∨ j = 2 ∨ j = 3 ∨ j = 4 ∨ j = 5 ∨ j = 6 ∨ j = 7 := by omega
    rcases this with rfl | rfl | rfl | rfl | rfl | rfl | rfl | rfl <;> assumption
def spaceZ : Array Value := #[.pointer none, .int .u32 0, .int .i32 0, .int .u32 0, .slice none 0 0, .slice none 0 0, .int .i64 0, .slice none 0 0, .int .u64 0, .pointer none, .pointer none, .int .i64 0, .int .i64 0, .int .u64 0, .int .i64 0, .slice none 0 0, .int .i64 0, .int .i64 0]
set_option maxRecDepth 100000 in
set_option maxHeartbeats 16000000 in
theorem none15 (A : ActS) (w : World) (hA : A.ok w w.heap.size) : Calls Tryz.prog 5 #[.agg A.arr] w (Makes w (.bool true)) := by
  obtain ⟨AK, AR, AN, AB, AV, AX, AA, AE, AC⟩ := A
  obtain ⟨XA, xc, hxe⟩ := hA.b.len
  simp only at hxe
  subst hxe
  obtain ⟨n, hn⟩ : ∃ n, n = AA.length := ⟨_, rfl⟩
  obtain ⟨A, hAe⟩ : ∃ A : ActS, A = ⟨AK, AR, AN, AB, AV, .slice XA AA.length xc, AA, AE, AC⟩ := ⟨_, rfl⟩
  rw [← hAe] at hA ⊢
  have hAr : A.arr = #[.int .i64 AK, .int .i64 AR, .int .i64 AN, .int .i64 AB, .int .u64 AV, .slice XA n xc, .int .i64 AE, .int .i64 AC] := by rw [hAe, hn]; rfl
  clear hAe hn
  obtain ⟨hb1, ha, ha2⟩ := two_alloc14 w A.arr A.arr 47 47
  obtain ⟨W1, hW1⟩ : ∃ W1, W1 = (w.alloc (.cells A.arr 47)).alloc (.cells A.arr 47) := ⟨_, rfl⟩
  rw [← hW1] at hb1 ha ha2
  have HL := Lib.hid (longS_any _ _ W1 _ (one_act15 hb1 hA ha2 (by omega)))
  obtain ⟨hb2, hz, hl⟩ := two_alloc14 W1 spaceZ #[.pointer none, .pointer (some ⟨W1.heap.size, 0, none⟩)] 80 32
  obtain ⟨W2, hW2⟩ : ∃ W2, W2 = (W1.alloc (.cells spaceZ 80)).alloc (.cells #[.pointer none, .pointer (some ⟨W1.heap.size, 0, none⟩)] 32) := ⟨_, rfl⟩
  rw [← hW2] at hb2 hz hl
  have HB1 := Lib.hid hb1
  have HB2 := Lib.hid (hb1.trans (hb2.mono hb1.size))
  have HA2 := Lib.hid ((hb2.block _ (heap_lt ha)).trans ha)
  have HLT := Lib.hid hl
  have HN0 : Hid (NoSp W2 (.pointer none)) := Lib.hid (.inl rfl)
  have HN1 : Hid (NoSp W2 (.pointer (some ⟨W1.heap.size, 0, none⟩))) := Lib.hid (.inr ⟨_, rfl, (cells18 (show W2.heap[W1.heap.size]? = some (.cells #[_, _, _, _, _, _, _, _, _, _, _, _, _, _, _, _, _, _] 80 (0, 0)) from hz)).1.1⟩)
  have HW1 := Lib.hid hW1
  have HW2 := Lib.hid hW2
  have HE := Lib.hid neqE_same
  clear ha ha2 hb1 hb2 hz hl hW1 hW2 hA
  unfold spaceZ at HW2
  rw [hAr] at HA2 HW1 ⊢
  clear hAr
  obtain ⟨lb, hlb⟩ : ∃ lb, lb = longS [A] := ⟨_, rfl⟩
  rw [← hlb] at HL
  clear hlb
  cases lb
  · go_enter Tryz.func5, Tryz.ntmps5
    go_upto_region 4 with (first
      | (rw [← HW1.out])
      | (go_at_call 11; (with_reducible refine HL.out.mono ?_); rintro e w' ⟨rfl, rfl⟩))
    go_upto_region 5 with fail
    rw [← HW2.out]
    go_loopw [4, 5, 6, 7, 8, 9, 10, 11] (fun v4 _ _ _ _ _ _ _ wr => ∃ i : Nat, v4 = .int .i64 i ∧ i ≤ 2 ∧ Below W2.heap.size W2 wr) (fun v4 _ _ _ _ _ _ _ _ => 2 - (intOf v4).toNat)
    case atStart => exact ⟨0, rfl, by omega, Below.refl _ _⟩
    case round =>
      obtain ⟨i, rfl, hi, hbr⟩ := hrel
      have HBR := Lib.hid hbr
      obtain ⟨d0, d1⟩ := cells2_14 ((hbr.block _ (heap_lt HLT.out)).trans HLT.out)
      obtain ⟨c0, c1, c2, c3, c4, c5, c6, c7⟩ := cells8 ((hbr.block _ (heap_lt HA2.out)).trans HA2.out)
      clear hbr
      rcases (show i = 0 ∨ i = 1 ∨ i = 2 by omega) with rfl | rfl | rfl
      · have hne := HE.out
        have hfd : ∀ w : World, (Instr.field 93 (.agg #[.slice none 0 0, .int .i64 0, .int .i64 0]) 0).run Tryz.prog w = .ok (.slice none 0 0) w := fun _ => by kernel_rfl
        go_wp2_with (first
          | (go_at_call 27; (with_reducible refine (getN (HN0.out.grow HBR.out) _).mono ?_); rintro e w' ⟨rfl, rfl⟩)
          | (go_at_call 28; (with_reducible refine (getbN (HN0.out.grow HBR.out)).mono ?_); rintro e w' ⟨rfl, rfl⟩)
          | (go_at_call 29; (with_reducible refine (endN (HN0.out.grow HBR.out)).mono ?_); rintro e w1 ⟨rfl, hb⟩; have HB3 := Lib.hid (HBR.out.trans (hb.mono HBR.out.size)); clear hb)
          | (go_at_call 30; obtain ⟨W3, hW3⟩ : ∃ W3, W3 = w1.alloc (.cells #[.int .i64 0, .int .i64 0] 45) := ⟨_, rfl⟩; rw [← hW3]; have HB4 : Hid (Below W2.heap.size W2 W3) := Lib.hid (by rw [hW3]; exact HB3.out.alloc HB3.out.size _); clear hW3; (with_reducible refine (memN (HN0.out.grow HB4.out)).mono ?_); rintro e w' ⟨rfl, rfl⟩)
          | (go_at_call 31; (with_reducible refine (funcN (HN0.out.grow HB4.out)).mono ?_); rintro e w' ⟨rfl, rfl⟩)
          | (go_at_call 32; (with_reducible refine (placeN (HN0.out.grow HB4.out)).mono ?_); rintro e w' ⟨rfl, rfl⟩)
          | (go_at_call 33; (with_reducible refine (fuelN (HN0.out.grow HB4.out)).mono ?_); rintro e w' ⟨rfl, rfl⟩)
          | (go_at_call 34; (with_reducible refine (depthN (HN0.out.grow HB4.out)).mono ?_); rintro e w' ⟨rfl, rfl⟩)
          | (go_at_call 35; (with_reducible refine (atN (HN0.out.grow HB4.out)).mono ?_); rintro e w' ⟨rfl, rfl⟩)
          | (go_at_call 36; (with_reducible refine (outcomeN (HN0.out.grow HB4.out)).mono ?_); rintro e w4 ⟨rfl, hb⟩; have HB5 := Lib.hid (HB4.out.trans (hb.mono HB4.out.size)); obtain ⟨c0, c1, c2, c3, c4, c5, c6, c7⟩ := cells8 ((HB5.out.block _ (heap_lt HA2.out)).trans HA2.out); clear hb)
          | (go_at_call 37; (with_reducible refine (setN (HN0.out.grow HB5.out) _ _).mono ?_); rintro e w' ⟨rfl, rfl⟩)
          | (go_at_call 38; (with_reducible refine (goN (HN0.out.grow HB5.out) _).mono ?_); rintro e w' ⟨rfl, rfl⟩)
          | (go_at_call 39; (with_reducible refine (burnN (HN0.out.grow HB5.out) _).mono ?_); rintro e w' ⟨rfl, rfl⟩)
          | (go_at_call 40; (with_reducible refine (callN (HN0.out.grow HB5.out) _ _ _ _).mono ?_); rintro e w' ⟨rfl, rfl⟩)
          | (go_at_call 41; (with_reducible refine (retN (HN0.out.grow HB5.out) _).mono ?_); rintro e w' ⟨rfl, rfl⟩)
          | (go_at_call 22; (with_reducible refine (stopN (HN0.out.grow HB5.out) _ _).mono ?_); rintro e w5 ⟨rfl, hb⟩; have HB6 := Lib.hid (HB5.out.trans (hb.mono HB5.out.size)); obtain ⟨f0, f1, f2, f3, f4, f5, f6, f7⟩ := cells8 ((HB6.out.block _ (heap_lt HA2.out)).trans HA2.out); clear hb)
          | (go_at_call 42; (with_reducible refine (putbN (HN0.out.grow HB6.out) _).mono ?_); rintro e w' ⟨rfl, rfl⟩)
          | (go_at_call 21; (with_reducible refine (sameN (HN0.out.grow HB6.out) _).mono ?_); rintro e w' ⟨rfl, rfl⟩)
          | (go_at_call 20; (with_reducible refine (copyN (HN0.out.grow HB6.out)).mono ?_); rintro e w' ⟨rfl, rfl⟩))
        go_roundw
        case rel => exact ⟨1, by go_num, by omega, HB6.out⟩
        case measure => simp [intOf]
      · have hne := HE.out
        have hfd : ∀ w : World, (Instr.field 93 (.agg #[.slice none 0 0, .int .i64 0, .int .i64 0]) 0).run Tryz.prog w = .ok (.slice none 0 0) w := fun _ => by kernel_rfl
        go_wp2_with (first
          | (go_at_call 27; (with_reducible refine (getN (HN1.out.grow HBR.out) _).mono ?_); rintro e w' ⟨rfl, rfl⟩)
          | (go_at_call 28; (with_reducible refine (getbN (HN1.out.grow HBR.out)).mono ?_); rintro e w' ⟨rfl, rfl⟩)
          | (go_at_call 29; (with_reducible refine (endN (HN1.out.grow HBR.out)).mono ?_); rintro e w1 ⟨rfl, hb⟩; have HB3 := Lib.hid (HBR.out.trans (hb.mono HBR.out.size)); clear hb)
          | (go_at_call 30; obtain ⟨W3, hW3⟩ : ∃ W3, W3 = w1.alloc (.cells #[.int .i64 0, .int .i64 0] 45) := ⟨_, rfl⟩; rw [← hW3]; have HB4 : Hid (Below W2.heap.size W2 W3) := Lib.hid (by rw [hW3]; exact HB3.out.alloc HB3.out.size _); clear hW3; (with_reducible refine (memN (HN1.out.grow HB4.out)).mono ?_); rintro e w' ⟨rfl, rfl⟩)
          | (go_at_call 31; (with_reducible refine (funcN (HN1.out.grow HB4.out)).mono ?_); rintro e w' ⟨rfl, rfl⟩)
          | (go_at_call 32; (with_reducible refine (placeN (HN1.out.grow HB4.out)).mono ?_); rintro e w' ⟨rfl, rfl⟩)
          | (go_at_call 33; (with_reducible refine (fuelN (HN1.out.grow HB4.out)).mono ?_); rintro e w' ⟨rfl, rfl⟩)
          | (go_at_call 34; (with_reducible refine (depthN (HN1.out.grow HB4.out)).mono ?_); rintro e w' ⟨rfl, rfl⟩)
          | (go_at_call 35; (with_reducible refine (atN (HN1.out.grow HB4.out)).mono ?_); rintro e w' ⟨rfl, rfl⟩)
          | (go_at_call 36; (with_reducible refine (outcomeN (HN1.out.grow HB4.out)).mono ?_); rintro e w4 ⟨rfl, hb⟩; have HB5 := Lib.hid (HB4.out.trans (hb.mono HB4.out.size)); obtain ⟨c0, c1, c2, c3, c4, c5, c6, c7⟩ := cells8 ((HB5.out.block _ (heap_lt HA2.out)).trans HA2.out); clear hb)
          | (go_at_call 37; (with_reducible refine (setN (HN1.out.grow HB5.out) _ _).mono ?_); rintro e w' ⟨rfl, rfl⟩)
          | (go_at_call 38; (with_reducible refine (goN (HN1.out.grow HB5.out) _).mono ?_); rintro e w' ⟨rfl, rfl⟩)
          | (go_at_call 39; (with_reducible refine (burnN (HN1.out.grow HB5.out) _).mono ?_); rintro e w' ⟨rfl, rfl⟩)
          | (go_at_call 40; (with_reducible refine (callN (HN1.out.grow HB5.out) _ _ _ _).mono ?_); rintro e w' ⟨rfl, rfl⟩)
          | (go_at_call 41; (with_reducible refine (retN (HN1.out.grow HB5.out) _).mono ?_); rintro e w' ⟨rfl, rfl⟩)
          | (go_at_call 22; (with_reducible refine (stopN (HN1.out.grow HB5.out) _ _).mono ?_); rintro e w5 ⟨rfl, hb⟩; have HB6 := Lib.hid (HB5.out.trans (hb.mono HB5.out.size)); obtain ⟨f0, f1, f2, f3, f4, f5, f6, f7⟩ := cells8 ((HB6.out.block _ (heap_lt HA2.out)).trans HA2.out); clear hb)
          | (go_at_call 42; (with_reducible refine (putbN (HN1.out.grow HB6.out) _).mono ?_); rintro e w' ⟨rfl, rfl⟩)
          | (go_at_call 21; (with_reducible refine (sameN (HN1.out.grow HB6.out) _).mono ?_); rintro e w' ⟨rfl, rfl⟩)
          | (go_at_call 20; (with_reducible refine (copyN (HN1.out.grow HB6.out)).mono ?_); rintro e w' ⟨rfl, rfl⟩))
        go_roundw
        case rel => exact ⟨2, by go_num, by omega, HB6.out⟩
        case measure => simp [intOf]
      · go_wp2_with (go_at_call 12; (with_reducible refine (awake15 _).mono ?_); rintro e w1 ⟨rfl, hb⟩; have HB9 := Lib.hid (HBR.out.trans (hb.mono HBR.out.size)); clear hb)
        go_ret
        exact ⟨rfl, HB2.out.trans (HB9.out.mono HB2.out.size)⟩
  · go_enter Tryz.func5, Tryz.ntmps5
    go_wp2_with (first
      | (rw [← HW1.out])
      | (go_at_call 11; (with_reducible refine HL.out.mono ?_); rintro e w' ⟨rfl, rfl⟩)
      | (go_at_call 12; (with_reducible refine (awake15 _).mono ?_); rintro e w1 ⟨rfl, hb⟩; have HB9 := Lib.hid (HB1.out.trans (hb.mono HB1.out.size)); clear hb))
    go_ret
    exact ⟨rfl, HB9.out⟩
end Go.Proofs.YtkfdgpgildanbaaGreat
