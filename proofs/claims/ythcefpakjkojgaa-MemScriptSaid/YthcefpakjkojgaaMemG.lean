/- The statement MemKnown's body is true, whatever memory the call begins in. -/
import Derived.Test.YthcefpakjkojgaaMemF
namespace Go.Proofs.Ythcefpakjkojgaa
open Go.RowKit
set_option linter.unusedVariables false

theorem made32 (w : World) : Calls Try.prog 21 #[.int .i64 32] w (NewDone w (List.replicate 32 0)) := made_yes 32 w (by decide) (by decide)
theorem lit_row (w : World) (xs : List Int) (vs : Array Value) (h : vs = (xs.map (Value.int .u8)).toArray) : Row 5 (w.alloc (.cells vs 5)) w.heap.size xs.length xs := by
  subst h
  exact ⟨_, heap_alloc_new w _, by simp, by simp only []; rw [List.take_of_length_le (by simp)], Nat.le_refl _⟩
theorem lit_bytes (w : World) (x y : Int) (hx : 0 ≤ x ∧ x < 256) (hy : 0 ≤ y ∧ y < 256) : IsBytes (w.alloc (.cells #[.int .u8 x, .int .u8 y] 5)) (w.heap.size + 1) (.slice (some ⟨w.heap.size, 0, none⟩) 2 2) [x, y] :=
  (lit_row w [x, y] _ rfl).bytes (by intro z hz; simp at hz; rcases hz with rfl | rfl <;> assumption) (Nat.lt_succ_self _) (a := 0) (n := 2) (by simp) (Nat.le_refl _) (by unfold maxLen; omega)
theorem lit_at {w : World} (n : Nat) (x y : Int) (hn : n = w.heap.size) (hx : 0 ≤ x ∧ x < 256) (hy : 0 ≤ y ∧ y < 256) : IsBytes (w.alloc (.cells #[.int .u8 x, .int .u8 y] 5)) (n + 1) (.slice (some ⟨n, 0, none⟩) 2 2) [x, y] := by
  subst hn
  exact lit_bytes w x y hx hy
def knL : List Int := layB exL 30 [7, 8]
theorem kn1 {mb bb c : Nat} {w : World} (h : MemAt w mb bb c exL) : Calls Try.prog 23 #[.pointer (some ⟨mb, 0, none⟩), .int .u64 25, .int .i64 8, .int .i64 15] w fun e w' => e = .returned (.bool true) ∧ w = w' :=
  fails_yes h 25 8 15 (by decide) (by decide) (by decide) (by decide +kernel) (by decide)
theorem kn2 {mb bb c : Nat} {w : World} (h : MemAt w mb bb c exL) : Calls Try.prog 24 #[.pointer (some ⟨mb, 0, none⟩), .int .u64 24, .int .i64 8, .int .u64 0] w fun e w' => e = .returned (.bool true) ∧ w = w' :=
  loads_yes h 24 8 0 (by decide) (by decide) (by decide) (by decide +kernel) (by decide +kernel)
theorem kn3 {mb bb c : Nat} {w : World} (h : MemAt w mb bb c exL) : Calls Try.prog 23 #[.pointer (some ⟨mb, 0, none⟩), .int .u64 18446744073709551615, .int .i64 8, .int .i64 15] w fun e w' => e = .returned (.bool true) ∧ w = w' :=
  fails_yes h 18446744073709551615 8 15 (by decide) (by decide) (by decide) (by decide +kernel) (by decide)
theorem kn4 {mb bb c : Nat} {w : World} (h : MemAt w mb bb c exL) : Calls Try.prog 23 #[.pointer (some ⟨mb, 0, none⟩), .int .u64 16, .int .i64 3, .int .i64 2] w fun e w' => e = .returned (.bool true) ∧ w = w' :=
  fails_yes h 16 3 2 (by decide) (by decide) (by decide) (by decide +kernel) (by decide)
theorem kn6 {mb bb c : Nat} {w : World} (h : MemAt w mb bb c knL) : Calls Try.prog 24 #[.pointer (some ⟨mb, 0, none⟩), .int .u64 30, .int .i64 2, .int .u64 2055] w fun e w' => e = .returned (.bool true) ∧ w = w' :=
  loads_yes h 30 2 2055 (by decide) (by decide) (by decide) (by decide +kernel) (by decide +kernel)
theorem kn5 {mb bb c : Nat} {w : World} (h : MemAt w mb bb c exL) : Calls Try.prog 15 #[.pointer (some ⟨mb, 0, none⟩), .int .u64 30, .int .i64 4, .int .u64 0] w fun e w' => e = .returned (.int .i64 15) ∧ w = w' := by
  have e : numE exL.length 30 4 = 15 := by decide +kernel
  have := store_bad h 30 4 0 (by decide) (by decide) (by decide) (by rw [e]; decide)
  rw [e] at this
  exact this
theorem kn_bytes {mb bb c : Nat} {w : World} (h : MemAt w mb bb c exL) : Calls Try.prog 19 #[.pointer (some ⟨mb, 0, none⟩), .int .u64 16, .int .i64 2] w (BytesDone w [4, 3] 0) := by
  have e : accE exL.length 16 2 = 0 := by decide +kernel
  have e2 : bytesL exL 16 2 = [4, 3] := by decide +kernel
  have := bytes_any h 16 2 (by decide) (by decide) (by decide)
  rw [e, e2] at this
  exact this
theorem kn_none {mb bb c : Nat} {w : World} (h : MemAt w mb bb c knL) : Calls Try.prog 19 #[.pointer (some ⟨mb, 0, none⟩), .int .u64 32, .int .i64 0] w (BytesDone w [] 0) := by
  have e : accE knL.length 32 0 = 0 := by decide +kernel
  have e2 : bytesL knL 32 0 = [] := by decide +kernel
  have := bytes_any h 32 0 (by decide) (by decide) (by decide)
  rw [e, e2] at this
  exact this
theorem kn_past {mb bb c : Nat} {w : World} (h : MemAt w mb bb c knL) : Calls Try.prog 19 #[.pointer (some ⟨mb, 0, none⟩), .int .u64 33, .int .i64 0] w (BytesDone w [] 15) := by
  have e : accE knL.length 33 0 = 15 := by decide +kernel
  have e2 : bytesL knL 33 0 = [] := by decide +kernel
  have := bytes_any h 33 0 (by decide) (by decide) (by decide)
  rw [e, e2] at this
  exact this
theorem kn_lay {mb bb c B : Nat} {w : World} {Y : Value} (h : MemAt w mb bb c exL) (hY : IsBytes w B Y [7, 8]) : Calls Try.prog 20 #[.pointer (some ⟨mb, 0, none⟩), .int .u64 30, Y] w (StoreDone w mb bb c knL 0) := by
  have e : accE exL.length 30 (2 : Nat) = 0 := by decide +kernel
  have := lay_any h 30 hY (by decide) (by decide)
  simp only [List.length_cons, List.length_nil, Nat.zero_add] at this
  rw [e] at this
  exact this
theorem kn_lay2 {mb bb c B : Nat} {w : World} {Y : Value} (h : MemAt w mb bb c knL) (hY : IsBytes w B Y [7, 8]) : Calls Try.prog 20 #[.pointer (some ⟨mb, 0, none⟩), .int .u64 31, Y] w (StoreDone w mb bb c knL 15) := by
  have e : accE knL.length 31 (2 : Nat) = 15 := by decide +kernel
  have e2 : layB knL 31 [7, 8] = knL := by decide +kernel
  have := lay_any h 31 hY (by decide) (by decide)
  simp only [List.length_cons, List.length_nil, Nat.zero_add] at this
  rw [e, e2] at this
  exact this

set_option maxHeartbeats 4000000 in
theorem known_any (w : World) : Calls Try.prog 5 #[] w fun e w' => e = .returned (.bool true) ∧ Below w.heap.size w w' := by
  go_enter Try.func5, Try.ntmps5
  go_wp2_with (first
    | (go_at_call 21; (with_reducible refine (made32 w).mono ?_); rintro e w1 ⟨mb, bb, c, rfl, hm, h1, h2, hb⟩; have HM := Lib.hid hm; have HB := Lib.hid hb; have s1 := hb.size; clear hm hb)
    | (go_at_call 15; (with_reducible refine (ex_store HM.out).mono ?_); rintro e w2 ⟨rfl, hm, hb⟩; have HM2 := Lib.hid hm; have HB2 := Lib.hid (below_store HB.out hb s1 h2); have s2 := HB2.out.size; clear hm hb)
    | (go_at_call 19; (with_reducible refine (kn_bytes HM2.out).mono ?_); rintro e w3 ⟨v, rfl, hown, hb⟩; have HV := Lib.hid (IsBytes.of_owns hown (by intro x hx; simp at hx; omega) (Nat.le_refl _)); have HM3 := Lib.hid (HM2.out.below hb); have HB3 := Lib.hid (below_next HB2.out hb s2); have s3 := HB3.out.size; have C1 := Lib.hid (sameBytes_yes _ _ [4, 3] _ _ _ (HV.out.below ((Below.refl _ _).alloc (Nat.le_refl _) (.cells #[.int .u8 4, .int .u8 3] 5)) (Nat.le_refl _)) (lit_bytes w3 4 3 (by omega) (by omega))); have HM4 := Lib.hid (HM3.out.alloc (.cells #[.int .u8 4, .int .u8 3] 5)); have HL1 := Lib.hid (kn_lay (HM4.out.alloc (.cells #[.int .u8 7, .int .u8 8] 5)) (lit_at (w := w3.alloc (.cells #[.int .u8 4, .int .u8 3] 5)) (w3.heap.size + 1) 7 8 (by simp) (by omega) (by omega))); clear hown hb)
    | (go_at_call 22; (with_reducible refine C1.out.mono ?_); rintro e w' ⟨rfl, rfl⟩)
    | (go_at_call 23; (with_reducible refine (kn1 HM4.out).mono ?_); rintro e w' ⟨rfl, rfl⟩)
    | (go_at_call 24; (with_reducible refine (kn2 HM4.out).mono ?_); rintro e w' ⟨rfl, rfl⟩)
    | (go_at_call 23; (with_reducible refine (kn3 HM4.out).mono ?_); rintro e w' ⟨rfl, rfl⟩)
    | (go_at_call 23; (with_reducible refine (kn4 HM4.out).mono ?_); rintro e w' ⟨rfl, rfl⟩)
    | (go_at_call 15; (with_reducible refine (kn5 HM4.out).mono ?_); rintro e w' ⟨rfl, rfl⟩)
    | (go_at_call 20; (with_reducible refine HL1.out.mono ?_); rintro e w5 ⟨rfl, hm, hb⟩; have HM5 := Lib.hid hm; have HB5 := Lib.hid (below_store ((HB3.out.alloc s3 _).alloc (by simp; omega) _) hb (by simp; omega) h2); have s5 := HB5.out.size; have HL2 := Lib.hid (kn_lay2 (HM5.out.alloc (.cells #[.int .u8 7, .int .u8 8] 5)) (lit_at w5.heap.size 7 8 rfl (by omega) (by omega))); clear hm hb)
    | (go_at_call 20; (with_reducible refine HL2.out.mono ?_); rintro e w6 ⟨rfl, hm, hb⟩; have HM6 := Lib.hid hm; have HB6 := Lib.hid (below_store (HB5.out.alloc s5 _) hb (by simp; omega) h2); have s6 := HB6.out.size; clear hm hb)
    | (go_at_call 24; (with_reducible refine (kn6 HM6.out).mono ?_); rintro e w' ⟨rfl, rfl⟩)
    | (go_at_call 12; (with_reducible refine (memCopy_yes HM6.out).mono ?_); rintro e w7 ⟨mk, bk, ck, rfl, hm, k1, k2, hb⟩; have HM7 := Lib.hid (HM6.out.below hb); have HK7 := Lib.hid hm; have HB7 := Lib.hid (below_next HB6.out hb s6); have s7 := HB7.out.size; have hs := same_yes HM7.out HK7.out; rw [beq_self_eq_true] at hs; have HS := Lib.hid hs; clear hm hb hs)
    | (go_at_call 13; (with_reducible refine HS.out.mono ?_); rintro e w' ⟨rfl, nq, rfl⟩; have HM8 := Lib.hid (HM7.out.drewN nq); have HB8 := Lib.hid (below_drewN HB7.out nq))
    | (go_at_call 10; (with_reducible refine (new_no 15 _ (by decide)).mono ?_); rintro e w' ⟨rfl, rfl⟩)
    | (go_at_call 19; (with_reducible refine (kn_none HM8.out).mono ?_); rintro e w9 ⟨v2, rfl, hown, hb⟩; have HV2 := Lib.hid hown; obtain ⟨A2, c2, rfl⟩ := (IsBytes.of_owns (xs := []) HV2.out (by simp) (Nat.le_refl _)).len; have HM9 := Lib.hid (HM8.out.below hb); have HB9 := Lib.hid (below_next HB8.out hb s7); have s9 := HB9.out.size; clear hown hb)
    | (go_at_call 19; (with_reducible refine (kn_past HM9.out).mono ?_); rintro e w10 ⟨v3, rfl, hown, hb⟩; have HB10 := Lib.hid (below_next HB9.out hb s9); have s10 := HB10.out.size; clear hown hb)
    | (go_at_call 9; (with_reducible refine (awake_any _).mono ?_); rintro e w11 ⟨rfl, hb⟩; have HB11 := Lib.hid (below_next HB10.out hb s10); clear hb))
  go_ret
  exact ⟨rfl, HB11.out⟩
end Go.Proofs.Ythcefpakjkojgaa
