/- The bodies of three statements of layer 6: the chapter's examples, what operations are called, that each has a name of its own. Contracts; no condition but that a text is no longer than any can be. -/
import Derived.Test.YtbcfdjpnckikdaaAwake06
namespace Go.Proofs.Ytbcfdjpnckikdaa
open Go.RowKit
set_option linter.unusedVariables false
set_option linter.unusedSimpArgs false

set_option maxHeartbeats 4000000 in
theorem names_law (n : Int) (s : ByteArray) (w : World) (hs : s.size ≤ maxLen) : Calls Try.prog 3 #[.int .i64 n, .string s] w (Makes w (.bool true)) := by
  unfold maxLen at hs
  have HA := Lib.hid (fun w => awake_any w)
  by_cases hl : 100 < s.size
  · go_enter Try.func3, Try.ntmps3
    go_wp2_with (go_at_call 8; (with_reducible refine (HA.out _).mono ?_); rintro e w1 ⟨rfl, hb⟩; have B1 := Lib.hid hb; clear hb)
    go_ret
    exact ⟨rfl, B1.out⟩
  · have HN := Lib.hid (fun w => name_any n w)
    have HRN := Lib.hid (fun w => rname_any n w)
    have HS := Lib.hid (fun w => shape_any n w)
    have HRS := Lib.hid (fun w => rshape_any n w)
    have HF := Lib.hid (fun w => find_any s w)
    have HRF := Lib.hid (fun w => rfind_any s w)
    generalize nameI n = x at HN HRN
    generalize shapeI n = y at HS HRS
    generalize findV s = z at HF HRF
    go_enter Try.func3, Try.ntmps3
    go_wp2_with (first
      | (go_at_call 9; (with_reducible refine (HN.out _).mono ?_); rintro e w1 ⟨rfl, hb⟩; have B1 := Lib.hid hb; clear hb)
      | (go_at_call 10; (with_reducible refine (HRN.out _).mono ?_); rintro e w2 ⟨rfl, hb⟩; have B2 := Lib.hid (B1.out.trans (hb.mono B1.out.size)); clear hb)
      | (go_at_call 11; (with_reducible refine (HS.out _).mono ?_); rintro e w3 ⟨rfl, hb⟩; have B3 := Lib.hid (B2.out.trans (hb.mono B2.out.size)); clear hb)
      | (go_at_call 12; (with_reducible refine (HRS.out _).mono ?_); rintro e w4 ⟨rfl, rfl⟩)
      | (go_at_call 13; (with_reducible refine (HF.out _).mono ?_); rintro e w5 ⟨rfl, hb⟩; have B5 := Lib.hid (B3.out.trans (hb.mono B3.out.size)); clear hb)
      | (go_at_call 14; (with_reducible refine (HRF.out _).mono ?_); rintro e w6 ⟨rfl, hb⟩; have B6 := Lib.hid (B5.out.trans (hb.mono B5.out.size)); clear hb)
      | (go_at_call 8; (with_reducible refine (HA.out _).mono ?_); rintro e w7 ⟨rfl, hb⟩; have B7 := Lib.hid (B6.out.trans (hb.mono B6.out.size)); clear hb))
    go_ret
    exact ⟨rfl, B7.out⟩

/-- Three boxes stand, and the arguments of the second. -/
structure Trio (w0 w : World) (b1 b2 b3 g : Nat) : Prop where
  h1 : Held w b1 22 4 5 0 8 (.slice none 0 0)
  h2 : Held w b2 28 0 0 0 2 (.slice (some ⟨g, 0, none⟩) 2 2)
  h3 : Held w b3 26 1 0 0 40 (.slice none 0 0)
  a : IsNums .i64 w w.heap.size (.slice (some ⟨g, 0, none⟩) 2 2) [3, 3]
  bel : Below w0.heap.size w0 w
theorem Trio.below {w0 w w' : World} {b1 b2 b3 g : Nat} (h : Trio w0 w b1 b2 b3 g) (hb : Below w.heap.size w w') : Trio w0 w' b1 b2 b3 g :=
  ⟨h.h1.below hb, h.h2.below hb, h.h3.below hb, (h.a.below hb (Nat.le_refl _)).more hb.size, h.bel.trans (hb.mono h.bel.size)⟩
theorem Trio.alloc {w0 w : World} {b1 b2 b3 g : Nat} (h : Trio w0 w b1 b2 b3 g) (o : Obj) : Trio w0 (w.alloc o) b1 b2 b3 g := h.below ((Below.refl _ _).alloc (Nat.le_refl _) _)
theorem Trio.drewN {w0 w : World} {b1 b2 b3 g : Nat} (h : Trio w0 w b1 b2 b3 g) (k : Nat) : Trio w0 (w.drewN k) b1 b2 b3 g := h.below (below_drewN (Below.refl _ _) k)
theorem trio_new {w0 w22 w23 : World} {b1 : Nat} (hA : Below w0.heap.size w0 ((w22.alloc (.cells (insCells 28 0 0 0 2 (.slice (some ⟨w22.heap.size + 1, 0, none⟩) 2 2)) 28)).alloc (.cells #[.int .i64 3, .int .i64 3] 3)))
    (h1 : Held ((w22.alloc (.cells (insCells 28 0 0 0 2 (.slice (some ⟨w22.heap.size + 1, 0, none⟩) 2 2)) 28)).alloc (.cells #[.int .i64 3, .int .i64 3] 3)) b1 22 4 5 0 8 (.slice none 0 0))
    (h2 : Held ((w22.alloc (.cells (insCells 28 0 0 0 2 (.slice (some ⟨w22.heap.size + 1, 0, none⟩) 2 2)) 28)).alloc (.cells #[.int .i64 3, .int .i64 3] 3)) w22.heap.size 28 0 0 0 2 (.slice (some ⟨w22.heap.size + 1, 0, none⟩) 2 2))
    (hn : IsNums .i64 ((w22.alloc (.cells (insCells 28 0 0 0 2 (.slice (some ⟨w22.heap.size + 1, 0, none⟩) 2 2)) 28)).alloc (.cells #[.int .i64 3, .int .i64 3] 3)) ((w22.alloc (.cells (insCells 28 0 0 0 2 (.slice (some ⟨w22.heap.size + 1, 0, none⟩) 2 2)) 28)).heap.size + 1) (.slice (some ⟨(w22.alloc (.cells (insCells 28 0 0 0 2 (.slice (some ⟨w22.heap.size + 1, 0, none⟩) 2 2)) 28)).heap.size, 0, none⟩) 2 2) [3, 3])
    (hb : Below ((w22.alloc (.cells (insCells 28 0 0 0 2 (.slice (some ⟨w22.heap.size + 1, 0, none⟩) 2 2)) 28)).alloc (.cells #[.int .i64 3, .int .i64 3] 3)).heap.size ((w22.alloc (.cells (insCells 28 0 0 0 2 (.slice (some ⟨w22.heap.size + 1, 0, none⟩) 2 2)) 28)).alloc (.cells #[.int .i64 3, .int .i64 3] 3)) w23) :
    Trio w0 (w23.alloc (.cells (insCells 26 1 0 0 40 (.slice none 0 0)) 28)) b1 w22.heap.size w23.heap.size (w22.heap.size + 1) := by
  rw [World.size_alloc] at hn
  refine ⟨(h1.below hb).alloc _, (h2.below hb).alloc _, Held.new w23 26 1 0 0 40 (.slice none 0 0) 28, ?_, (hA.trans (hb.mono hA.size)).alloc (Nat.le_trans hA.size hb.size) _⟩
  have h := (hn.below hb (by simp)).more (B' := w23.heap.size) (by have := hb.size; simp at this; omega)
  exact (h.below ((Below.refl w23.heap.size w23).alloc (Nat.le_refl _) _) (Nat.le_refl _)).more (by simp)
set_option maxHeartbeats 8000000 in
set_option maxRecDepth 100000 in
theorem known_any (w : World) : Calls Try.prog 5 #[] w (Makes w (.bool true)) := by
  have HA := Lib.hid (fun w => awake_any w)
  have HO22 := Lib.hid (fun w => of_any 22 4 5 0 8 w)
  have HO28 := Lib.hid (fun w => of_any 28 0 0 0 2 w)
  have HO26 := Lib.hid (fun w => of_any 26 1 0 0 40 w)
  have HO25 := Lib.hid (fun w => of_any 25 0 0 0 40 w)
  have hF := fun w => find_any addbS w
  rw [find_addb] at hF
  have HF := Lib.hid hF
  have hN := fun w => name_any 33 w
  rw [name_33] at hN
  have HN := Lib.hid hN

  have hC2 := fun w => check_any 3 0 1 3 0 (.slice none 0 0) [] 3 0 w (nums_nil _ _)
  rw [check_2] at hC2
  have HC2 := Lib.hid hC2
  have HO2 := Lib.hid (fun w => of_any 3 0 1 3 0 w)
  clear hC2
  have hC3 := fun w => check_any 3 0 1 2 1 (.slice none 0 0) [] 3 0 w (nums_nil _ _)
  rw [check_3] at hC3
  have HC3 := Lib.hid hC3
  have HO3 := Lib.hid (fun w => of_any 3 0 1 2 1 w)
  clear hC3
  have hC4 := fun w => check_any 33 0 0 0 0 (.slice none 0 0) [] 3 0 w (nums_nil _ _)
  rw [check_4] at hC4
  have HC4 := Lib.hid hC4
  have HO4 := Lib.hid (fun w => of_any 33 0 0 0 0 w)
  clear hC4
  have hC5 := fun w => check_any 21 0 1 0 7 (.slice none 0 0) [] 2 0 w (nums_nil _ _)
  rw [check_5] at hC5
  have HC5 := Lib.hid hC5
  have HO5 := Lib.hid (fun w => of_any 21 0 1 0 7 w)
  clear hC5
  have hC6 := fun w => check_any 20 0 1 0 7 (.slice none 0 0) [] 2 0 w (nums_nil _ _)
  rw [check_6] at hC6
  have HC6 := Lib.hid hC6
  have HO6 := Lib.hid (fun w => of_any 20 0 1 0 7 w)
  clear hC6
  have hC7 := fun w => check_any 23 0 0 0 8 (.slice none 0 0) [] 1 8 w (nums_nil _ _)
  rw [check_7] at hC7
  have HC7 := Lib.hid hC7
  have HO7 := Lib.hid (fun w => of_any 23 0 0 0 8 w)
  clear hC7
  have hC8 := fun w => check_any 23 0 0 0 9 (.slice none 0 0) [] 1 8 w (nums_nil _ _)
  rw [check_8] at hC8
  have HC8 := Lib.hid hC8
  have HO8 := Lib.hid (fun w => of_any 23 0 0 0 9 w)
  clear hC8
  have hR1 := fun w => reads_any 22 4 5 0 8 (.slice none 0 0) [] w (nums_nil _ _) (by rw [items_store]; decide)
  rw [items_store, show readsV [(114, 4), (114, 5), (122, 8)] = [4, 5] from by decide +kernel] at hR1
  have HR1 := Lib.hid hR1
  have hW1 := fun w => writes_any 22 4 5 0 8 (.slice none 0 0) [] w (nums_nil _ _)
  rw [items_store, show firstV 119 [(114, 4), (114, 5), (122, 8)] = -1 from by decide +kernel] at hW1
  have HW1 := Lib.hid hW1
  have hR2 := fun w X h => reads_any 28 0 0 0 2 X [3, 3] w h (by rw [items_call]; decide)
  rw [items_call, show readsV [(119, 0), (99, 2), (108, 3), (108, 3)] = [3, 3] from by decide +kernel] at hR2
  have HR2 := Lib.hid hR2
  have hW2 := fun w X h => writes_any 28 0 0 0 2 X [3, 3] w h
  rw [items_call, show firstV 119 [(119, 0), (99, 2), (108, 3), (108, 3)] = 0 from by decide +kernel] at hW2
  have HW2 := Lib.hid hW2
  have hT := fun w => target_any 26 1 0 0 40 (.slice none 0 0) [] w (nums_nil _ _)
  rw [items_brz, show firstV 116 [(114, 1), (116, 40)] = 40 from by decide +kernel] at hT
  have HT := Lib.hid hT
  have hL3 := fun w => falls_any 26 1 0 0 40 (.slice none 0 0) w
  rw [show fallsV 26 = true from by decide +kernel] at hL3
  have HL3 := Lib.hid hL3
  have hL4 := fun w => falls_any 25 0 0 0 40 (.slice none 0 0) w
  rw [show fallsV 25 = false from by decide +kernel] at hL4
  have HL4 := Lib.hid hL4
  clear hF hN hR1 hW1 hR2 hW2 hT hL3 hL4
  have A := Lib.hid (Below.refl w.heap.size w)
  go_enter Try.func5, Try.ntmps5

  go_wp2_with (first
    | (go_at_call 13; (with_reducible refine (HF.out _).mono ?_); rintro e w1 ⟨rfl, hb⟩; have A := Lib.hid (A.out.trans (hb.mono A.out.size)); clear hb)
    | (go_at_call 9; (with_reducible refine (HN.out _).mono ?_); rintro e w1 ⟨rfl, hb⟩; have A := Lib.hid (A.out.trans (hb.mono A.out.size)); clear hb)
    | (go_at_call 21; (with_reducible refine (HO2.out _).mono ?_); rintro e w1 ⟨rfl, hb⟩; have A := Lib.hid (A.out.trans (hb.mono A.out.size)); clear hb)
    | (go_at_call 16; (with_reducible refine (HC2.out _).mono ?_); rintro e w1 ⟨rfl, hb⟩; have A := Lib.hid (A.out.trans (hb.mono A.out.size)); clear hb)
    | (go_at_call 21; (with_reducible refine (HO3.out _).mono ?_); rintro e w1 ⟨rfl, hb⟩; have A := Lib.hid (A.out.trans (hb.mono A.out.size)); clear hb)
    | (go_at_call 16; (with_reducible refine (HC3.out _).mono ?_); rintro e w1 ⟨rfl, hb⟩; have A := Lib.hid (A.out.trans (hb.mono A.out.size)); clear hb)
    | (go_at_call 21; (with_reducible refine (HO4.out _).mono ?_); rintro e w1 ⟨rfl, hb⟩; have A := Lib.hid (A.out.trans (hb.mono A.out.size)); clear hb)
    | (go_at_call 16; (with_reducible refine (HC4.out _).mono ?_); rintro e w1 ⟨rfl, hb⟩; have A := Lib.hid (A.out.trans (hb.mono A.out.size)); clear hb)
    | (go_at_call 21; (with_reducible refine (HO5.out _).mono ?_); rintro e w1 ⟨rfl, hb⟩; have A := Lib.hid (A.out.trans (hb.mono A.out.size)); clear hb)
    | (go_at_call 16; (with_reducible refine (HC5.out _).mono ?_); rintro e w1 ⟨rfl, hb⟩; have A := Lib.hid (A.out.trans (hb.mono A.out.size)); clear hb)
    | (go_at_call 21; (with_reducible refine (HO6.out _).mono ?_); rintro e w1 ⟨rfl, hb⟩; have A := Lib.hid (A.out.trans (hb.mono A.out.size)); clear hb)
    | (go_at_call 16; (with_reducible refine (HC6.out _).mono ?_); rintro e w1 ⟨rfl, hb⟩; have A := Lib.hid (A.out.trans (hb.mono A.out.size)); clear hb)
    | (go_at_call 21; (with_reducible refine (HO7.out _).mono ?_); rintro e w1 ⟨rfl, hb⟩; have A := Lib.hid (A.out.trans (hb.mono A.out.size)); clear hb)
    | (go_at_call 16; (with_reducible refine (HC7.out _).mono ?_); rintro e w1 ⟨rfl, hb⟩; have A := Lib.hid (A.out.trans (hb.mono A.out.size)); clear hb)
    | (go_at_call 21; (with_reducible refine (HO8.out _).mono ?_); rintro e w1 ⟨rfl, hb⟩; have A := Lib.hid (A.out.trans (hb.mono A.out.size)); clear hb)
    | (go_at_call 16; (with_reducible refine (HC8.out _).mono ?_); rintro e w1 ⟨rfl, hb⟩; have A := Lib.hid (A.out.trans (hb.mono A.out.size)); clear hb)
    | (go_at_call 21; (with_reducible refine (HO22.out _).mono ?_); rintro e w21 ⟨rfl, hb⟩; have A1 := Lib.hid ((A.out.trans (hb.mono A.out.size)).alloc (Nat.le_trans A.out.size hb.size) (.cells (insCells 22 4 5 0 8 (.slice none 0 0)) 28)); have H1 := Lib.hid (Held.new w21 22 4 5 0 8 (.slice none 0 0) 28); clear hb)
    | (go_at_call 21; (with_reducible refine (HO28.out _).mono ?_); rintro e w22 ⟨rfl, hb⟩; have A2 := Lib.hid (((A1.out.trans (hb.mono A1.out.size)).alloc (Nat.le_trans A1.out.size hb.size) (.cells (insCells 28 0 0 0 2 (.slice (some ⟨w22.heap.size + 1, 0, none⟩) 2 2)) 28)).alloc (Nat.le_trans (Nat.le_trans A1.out.size hb.size) (by simp)) (.cells #[.int .i64 3, .int .i64 3] 3)); have H12 := Lib.hid (((H1.out.below hb).alloc (.cells (insCells 28 0 0 0 2 (.slice (some ⟨w22.heap.size + 1, 0, none⟩) 2 2)) 28)).alloc (.cells #[.int .i64 3, .int .i64 3] 3)); have H22 := Lib.hid ((Held.new w22 28 0 0 0 2 (.slice (some ⟨w22.heap.size + 1, 0, none⟩) 2 2) 28).alloc (.cells #[.int .i64 3, .int .i64 3] 3)); have N2 := Lib.hid (two_nums (w22.alloc (.cells (insCells 28 0 0 0 2 (.slice (some ⟨w22.heap.size + 1, 0, none⟩) 2 2)) 28)) 3 3); clear hb)
    | (go_at_call 21; (with_reducible refine (HO26.out _).mono ?_); rintro e w23 ⟨rfl, hb⟩; have T0 := Lib.hid (trio_new A2.out H12.out H22.out N2.out hb); clear hb; obtain ⟨k0, k1, k2, k3, k4, k5⟩ := T0.out.h1.six)
    | (go_at_call 23; (with_reducible refine (HR1.out _).mono ?_); rintro e v1 ⟨u1, rfl, hv, hb⟩; have T1 := Lib.hid ((T0.out.below hb).alloc (.cells #[.int .i64 4, .int .i64 5] 3)); have N1 := Lib.hid ((reads_nums (w' := v1) hv (Nat.le_refl _)).below ((Below.refl _ _).alloc (Nat.le_refl _) (.cells #[.int .i64 4, .int .i64 5] 3)) (Nat.le_refl _)); have Y1 := Lib.hid (two_nums v1 4 5); clear hb hv)
    | (go_at_call 22; (with_reducible refine (sameInts_any _ _ [4, 5] [4, 5] _ _ _ N1.out Y1.out).mono ?_); rintro e v2 ⟨rfl, kd2, rfl⟩; have T2 := Lib.hid (T1.out.drewN kd2); obtain ⟨l0, l1, l2, l3, l4, l5⟩ := T2.out.h1.six)
    | (go_at_call 24; (with_reducible refine (HW1.out _).mono ?_); rintro e v3 ⟨rfl, hb⟩; have T3 := Lib.hid (T2.out.below hb); clear hb; obtain ⟨m0, m1, m2, m3, m4, m5⟩ := T3.out.h2.six)
    | (go_at_call 23; (with_reducible refine (HR2.out _ _ T3.out.a).mono ?_); rintro e v4 ⟨u4, rfl, hv, hb⟩; have T4 := Lib.hid ((T3.out.below hb).alloc (.cells #[.int .i64 3, .int .i64 3] 3)); have N4 := Lib.hid ((reads_nums (w' := v4) hv (Nat.le_refl _)).below ((Below.refl _ _).alloc (Nat.le_refl _) (.cells #[.int .i64 3, .int .i64 3] 3)) (Nat.le_refl _)); have Y4 := Lib.hid (two_nums v4 3 3); clear hb hv)
    | (go_at_call 22; (with_reducible refine (sameInts_any _ _ [3, 3] [3, 3] _ _ _ N4.out Y4.out).mono ?_); rintro e v5 ⟨rfl, kd5, rfl⟩; have T5 := Lib.hid (T4.out.drewN kd5); obtain ⟨n0, n1, n2, n3, n4, n5⟩ := T5.out.h2.six)
    | (go_at_call 24; (with_reducible refine (HW2.out _ _ T5.out.a).mono ?_); rintro e v6 ⟨rfl, hb⟩; have T6 := Lib.hid (T5.out.below hb); clear hb; obtain ⟨p0, p1, p2, p3, p4, p5⟩ := T6.out.h3.six)
    | (go_at_call 25; (with_reducible refine (HT.out _).mono ?_); rintro e v7 ⟨rfl, hb⟩; have T7 := Lib.hid (T6.out.below hb); clear hb; obtain ⟨q0, q1, q2, q3, q4, q5⟩ := T7.out.h3.six)
    | (go_at_call 26; (with_reducible refine (HL3.out _).mono ?_); rintro e v8 ⟨rfl, hb⟩; have T8 := Lib.hid (T7.out.below hb); clear hb)
    | (go_at_call 21; (with_reducible refine (HO25.out _).mono ?_); rintro e v9 ⟨rfl, hb⟩; have T9 := Lib.hid (T8.out.below hb); clear hb)
    | (go_at_call 26; (with_reducible refine (HL4.out _).mono ?_); rintro e v10 ⟨rfl, hb⟩; have T10 := Lib.hid (T9.out.below hb); clear hb)
    | (go_at_call 8; (with_reducible refine (HA.out _).mono ?_); rintro e v11 ⟨rfl, hb⟩; have T11 := Lib.hid (T10.out.below hb); clear hb))
  go_ret
  exact ⟨rfl, T11.out.bel⟩

theorem makes_of {P : Program} {f : FuncId} {args : Array Value} {w : World} {v : Value} (h : Calls P f args w (Makes w v)) : Calls P f args w fun e w' => e = .returned v ∧ Below w.heap.size w w' := h
end Go.Proofs.Ytbcfdjpnckikdaa
