/- The statements of layer 3: their helpers and known examples, walked. No condition. -/
import Derived.Test.YtcglfbjfllohjaaEncB03
import Derived.Test.YtcglfbjfllohjaaDec03
namespace Go.Proofs.Ytcglfbjfllohjaa
open Go.RowKit
set_option linter.unusedVariables false

/-- Which instructions may be, decided. -/
def regB (n : Int) (b : Bool) : Bool := if b then decide (0 ≤ n) && decide (n ≤ 31) else decide (n = 0)
def immB (f : RvForm) (n : Int) : Bool :=
  match f with
  | .I | .S => decide (-2048 ≤ n) && decide (n ≤ 2047)
  | .X => decide (0 ≤ n) && decide (n ≤ 63)
  | .Y => decide (0 ≤ n) && decide (n ≤ 31)
  | .B => decide (-4096 ≤ n) && (decide (n ≤ 4094) && decide (n % 2 = 0))
  | .U => decide (-524288 ≤ n) && decide (n ≤ 524287)
  | .J => decide (-1048576 ≤ n) && (decide (n ≤ 1048574) && decide (n % 2 = 0))
  | _ => decide (n = 0)
def okB (x : RvV) : Bool := decide (1 ≤ x.op) && (decide (x.op ≤ 63) && (regB x.rd (rvRowN x.op.toNat).form.hasRd && (regB x.rs1 (rvRowN x.op.toNat).form.has1 && (regB x.rs2 (rvRowN x.op.toNat).form.has2 && immB (rvRowN x.op.toNat).form x.imm))))
theorem regB_iff (n : Int) (b : Bool) : regB n b = true ↔ regOk n b := by
  unfold regB regOk
  cases b <;> simp
theorem immB_iff (f : RvForm) (n : Int) : immB f n = true ↔ immOk f n := by
  cases f <;> simp [immB, immOk]
theorem okB_iff (x : RvV) : okB x = true ↔ x.ok := by
  unfold okB
  simp only [Bool.and_eq_true, decide_eq_true_eq, regB_iff, immB_iff]
  exact ⟨fun ⟨h1, h2, h3, h4, h5, h6⟩ => ⟨⟨h1, h2⟩, h3, h4, h5, h6⟩, fun h => ⟨h.op.1, h.op.2, h.rd, h.rs1, h.rs2, h.imm⟩⟩
theorem ok_of {x : RvV} (h : okB x = true) : x.ok := (okB_iff x).1 h
theorem not_ok_of {x : RvV} (h : okB x = false) : ¬ x.ok := fun hx => by
  rw [(okB_iff x).2 hx] at h
  cases h
theorem rvIn_of {x : RvV} (h : (decide (-9223372036854775808 ≤ x.op) && (decide (x.op < 9223372036854775808) && (decide (-9223372036854775808 ≤ x.rd) && (decide (x.rd < 9223372036854775808) && (decide (-9223372036854775808 ≤ x.rs1) && (decide (x.rs1 < 9223372036854775808) &&
    (decide (-9223372036854775808 ≤ x.rs2) && (decide (x.rs2 < 9223372036854775808) && (decide (-9223372036854775808 ≤ x.imm) && decide (x.imm < 9223372036854775808)))))))))) = true) : RvIn x := by
  simp only [Bool.and_eq_true, decide_eq_true_eq] at h
  obtain ⟨h1, h2, h3, h4, h5, h6, h7, h8, h9, h10⟩ := h
  exact ⟨⟨h1, h2⟩, ⟨h3, h4⟩, ⟨h5, h6⟩, ⟨h7, h8⟩, ⟨h9, h10⟩⟩
/-- A memory that has grown, step by step. -/
theorem grow_step {w W W' : World} (hR : Hid (Below w.heap.size w W)) (hb : Below W.heap.size W W') : Hid (Below w.heap.size w W') := hR.out.trans (hb.mono hR.out.size)
theorem grow_alloc {w W : World} (hR : Hid (Below w.heap.size w W)) (o : Obj) : Hid (Below w.heap.size w (W.alloc o)) := hR.out.alloc hR.out.size o
def Says (w : World) (e : Ending) (w' : World) : Prop := e = .returned (.bool true) ∧ Below w.heap.size w w'
theorem is_yes {x : RvV} {v : Int} (hx : x.ok) (hi : RvIn x) (hv : encV x = v) (w : World) : Calls Try.prog 21 #[.agg #[.int .i64 x.op, .int .i64 x.rd, .int .i64 x.rs1, .int .i64 x.rs2, .int .i64 x.imm], .int .u32 v] w (Says w) := by
  have hc := fun w => enc_ok hx hi w
  rw [hv] at hc
  have HC := Lib.hid hc
  clear hc hv hx hi
  obtain ⟨op, rd, rs1, rs2, imm⟩ := x
  go_enter Try.func21, Try.ntmps21
  go_wp2_with (go_at_call 10; (with_reducible refine (HC.out _).mono ?_); rintro e w1 ⟨rfl, hb⟩; have HB := Lib.hid hb; clear hb)
  go_ret
  exact ⟨rfl, ((Below.refl _ _).alloc (Nat.le_refl _) _).trans (HB.out.mono (by simp))⟩

theorem is_0 (w : World) : Calls Try.prog 21 #[.agg #[.int .i64 22, .int .i64 1, .int .i64 0, .int .i64 0, .int .i64 (1)], .int .u32 1048723] w (Says w) := is_yes (x := ⟨22, 1, 0, 0, 1⟩) (ok_of (by decide +kernel)) (rvIn_of (by decide +kernel)) (by decide +kernel) w
theorem is_1 (w : World) : Calls Try.prog 21 #[.agg #[.int .i64 21, .int .i64 0, .int .i64 1, .int .i64 2, .int .i64 (0)], .int .u32 2142243] w (Says w) := is_yes (x := ⟨21, 0, 1, 2, 0⟩) (ok_of (by decide +kernel)) (rvIn_of (by decide +kernel)) (by decide +kernel) w
theorem is_2 (w : World) : Calls Try.prog 21 #[.agg #[.int .i64 3, .int .i64 0, .int .i64 0, .int .i64 0, .int .i64 (8)], .int .u32 8388719] w (Says w) := is_yes (x := ⟨3, 0, 0, 0, 8⟩) (ok_of (by decide +kernel)) (rvIn_of (by decide +kernel)) (by decide +kernel) w
theorem is_3 (w : World) : Calls Try.prog 21 #[.agg #[.int .i64 35, .int .i64 2, .int .i64 1, .int .i64 1, .int .i64 (0)], .int .u32 1081651] w (Says w) := is_yes (x := ⟨35, 2, 1, 1, 0⟩) (ok_of (by decide +kernel)) (rvIn_of (by decide +kernel)) (by decide +kernel) w
theorem is_4 (w : World) : Calls Try.prog 21 #[.agg #[.int .i64 5, .int .i64 0, .int .i64 1, .int .i64 2, .int .i64 (-4)], .int .u32 4263546595] w (Says w) := is_yes (x := ⟨5, 0, 1, 2, -4⟩) (ok_of (by decide +kernel)) (rvIn_of (by decide +kernel)) (by decide +kernel) w
theorem is_5 (w : World) : Calls Try.prog 21 #[.agg #[.int .i64 1, .int .i64 5, .int .i64 0, .int .i64 0, .int .i64 (1)], .int .u32 4791] w (Says w) := is_yes (x := ⟨1, 5, 0, 0, 1⟩) (ok_of (by decide +kernel)) (rvIn_of (by decide +kernel)) (by decide +kernel) w
theorem is_6 (w : World) : Calls Try.prog 21 #[.agg #[.int .i64 63, .int .i64 0, .int .i64 0, .int .i64 0, .int .i64 (0)], .int .u32 115] w (Says w) := is_yes (x := ⟨63, 0, 0, 0, 0⟩) (ok_of (by decide +kernel)) (rvIn_of (by decide +kernel)) (by decide +kernel) w
theorem is_7 (w : World) : Calls Try.prog 21 #[.agg #[.int .i64 30, .int .i64 1, .int .i64 1, .int .i64 0, .int .i64 (63)], .int .u32 1139855507] w (Says w) := is_yes (x := ⟨30, 1, 1, 0, 63⟩) (ok_of (by decide +kernel)) (rvIn_of (by decide +kernel)) (by decide +kernel) w
theorem chk_0 (w : World) : Calls Try.prog 12 #[.agg #[.int .i64 22, .int .i64 0, .int .i64 0, .int .i64 1, .int .i64 0]] w (CheckDone w 2) := check_bad (x := ⟨22, 0, 0, 1, 0⟩) (not_ok_of (by decide +kernel)) (rvIn_of (by decide +kernel)) w
theorem chk_1 (w : World) : Calls Try.prog 12 #[.agg #[.int .i64 5, .int .i64 0, .int .i64 0, .int .i64 0, .int .i64 3]] w (CheckDone w 2) := check_bad (x := ⟨5, 0, 0, 0, 3⟩) (not_ok_of (by decide +kernel)) (rvIn_of (by decide +kernel)) w
theorem chk_2 (w : World) : Calls Try.prog 12 #[.agg #[.int .i64 64, .int .i64 0, .int .i64 0, .int .i64 0, .int .i64 0]] w (CheckDone w 2) := check_bad (x := ⟨64, 0, 0, 0, 0⟩) (not_ok_of (by decide +kernel)) (rvIn_of (by decide +kernel)) w
theorem word_115 : IsWord ⟨63, 0, 0, 0, 0⟩ 115 := ⟨ok_of (by decide +kernel), by decide +kernel⟩
theorem dec_115 (w : World) : Calls Try.prog 19 #[.int .u32 115] w fun e w' => e = .returned (.tuple #[.agg #[.int .i64 63, .int .i64 0, .int .i64 0, .int .i64 0, .int .i64 0], .int .i64 0]) ∧ Below w.heap.size w w' := dec_yes word_115 w
theorem no_word {x : Int} (h : ∀ k : Fin 63, ((rvRowN (k + 1)).a : Int) ≠ x % 128) : ∀ y, ¬ IsWord y x := fun y hy => by
  obtain ⟨h1, h2, h3, _⟩ := isWord_at hy
  have := h ⟨y.op.toNat - 1, by omega⟩
  rw [show y.op.toNat - 1 + 1 = y.op.toNat by omega] at this
  exact this h3.symm
theorem dec_0 (w : World) : Calls Try.prog 19 #[.int .u32 0] w fun e w' => e = .returned (.tuple #[.agg #[.int .i64 0, .int .i64 0, .int .i64 0, .int .i64 0, .int .i64 0], .int .i64 16]) ∧ Below w.heap.size w w' := dec_no (by omega) (by omega) (no_word (by decide +kernel)) w
theorem dec_f (w : World) : Calls Try.prog 19 #[.int .u32 4294967295] w fun e w' => e = .returned (.tuple #[.agg #[.int .i64 0, .int .i64 0, .int .i64 0, .int .i64 0, .int .i64 0], .int .i64 16]) ∧ Below w.heap.size w w' := dec_no (by omega) (by omega) (no_word (by decide +kernel)) w
theorem name_63 (w : World) : Calls Try.prog 14 #[.int .i64 63] w (TextDone w ⟨#[101, 99, 97, 108, 108]⟩) := name_any 63 w
theorem form_35 (w : World) : Calls Try.prog 16 #[.int .i64 35] w (TextDone w ⟨#[82]⟩) := form_any 35 w

set_option maxHeartbeats 2000000 in
theorem awake_any (w : World) : Calls Try.prog 18 #[] w (Says w) := by
  have hR := Lib.hid (Below.refl w.heap.size w)
  go_enter Try.func18, Try.ntmps18
  go_wp2_with (first
    | (go_at_call 19; (with_reducible refine (dec_115 _).mono ?_); rintro e w1 ⟨rfl, hb⟩; have hR := grow_alloc (grow_step hR hb) (.cells #[.int .i64 63, .int .i64 0, .int .i64 0, .int .i64 0, .int .i64 0] 23); have z1 := Lib.hid (new_cell w1 #[.int .i64 63, .int .i64 0, .int .i64 0, .int .i64 0, .int .i64 0] 23 w1.heap.size); clear hb)
    | (go_at_call 21; (with_reducible refine (is_0 _).mono ?_); rintro e w2 ⟨rfl, hb⟩; have hR := grow_step hR hb; have y0 := (hb.cell (p := ⟨w1.heap.size, 0, none⟩) (by simp)).trans (z1.out 0 _ trivial rfl); have y1 := (hb.cell (p := ⟨w1.heap.size, 1, none⟩) (by simp)).trans (z1.out 1 _ trivial rfl); have y2 := (hb.cell (p := ⟨w1.heap.size, 2, none⟩) (by simp)).trans (z1.out 2 _ trivial rfl); have y3 := (hb.cell (p := ⟨w1.heap.size, 3, none⟩) (by simp)).trans (z1.out 3 _ trivial rfl); have y4 := (hb.cell (p := ⟨w1.heap.size, 4, none⟩) (by simp)).trans (z1.out 4 _ trivial rfl); have s2 := hb.size; simp at s2 y0 y1 y2 y3 y4; clear hb)
    | (go_at_call 21; (with_reducible refine (is_1 _).mono ?_); rintro e w3 ⟨rfl, hb⟩; have hR := grow_step hR hb; have y0 := (hb.cell (p := ⟨w1.heap.size, 0, none⟩) (by simp; omega)).trans y0; have y1 := (hb.cell (p := ⟨w1.heap.size, 1, none⟩) (by simp; omega)).trans y1; have y2 := (hb.cell (p := ⟨w1.heap.size, 2, none⟩) (by simp; omega)).trans y2; have y3 := (hb.cell (p := ⟨w1.heap.size, 3, none⟩) (by simp; omega)).trans y3; have y4 := (hb.cell (p := ⟨w1.heap.size, 4, none⟩) (by simp; omega)).trans y4; have s3 := hb.size; clear hb)
    | (go_at_call 21; (with_reducible refine (is_2 _).mono ?_); rintro e w4 ⟨rfl, hb⟩; have hR := grow_step hR hb; have y0 := (hb.cell (p := ⟨w1.heap.size, 0, none⟩) (by simp; omega)).trans y0; have y1 := (hb.cell (p := ⟨w1.heap.size, 1, none⟩) (by simp; omega)).trans y1; have y2 := (hb.cell (p := ⟨w1.heap.size, 2, none⟩) (by simp; omega)).trans y2; have y3 := (hb.cell (p := ⟨w1.heap.size, 3, none⟩) (by simp; omega)).trans y3; have y4 := (hb.cell (p := ⟨w1.heap.size, 4, none⟩) (by simp; omega)).trans y4; clear hb))
  go_ret
  exact ⟨rfl, hR.out⟩
set_option maxHeartbeats 4000000 in
set_option maxRecDepth 100000 in
theorem known_any (w : World) : Calls Try.prog 5 #[] w (Says w) := by
  have hR := Lib.hid (Below.refl w.heap.size w)
  go_enter Try.func5, Try.ntmps5
  go_wp2_with (first
    | (go_at_call 19; (first | (with_reducible refine (dec_0 _).mono ?_) | (with_reducible refine (dec_f _).mono ?_)); rintro e wn ⟨rfl, hb⟩; have hR := grow_alloc (grow_step hR hb) (.cells #[.int .i64 0, .int .i64 0, .int .i64 0, .int .i64 0, .int .i64 0] 23); clear hb)
    | (go_at_call 12; (first | (with_reducible refine (chk_0 _).mono ?_) | (with_reducible refine (chk_1 _).mono ?_) | (with_reducible refine (chk_2 _).mono ?_)); rintro e wn ⟨rfl, hb⟩; have hR := grow_step hR hb; clear hb)
    | (go_at_call 21; (first | (with_reducible refine (is_3 _).mono ?_) | (with_reducible refine (is_4 _).mono ?_) | (with_reducible refine (is_5 _).mono ?_) | (with_reducible refine (is_6 _).mono ?_) | (with_reducible refine (is_7 _).mono ?_)); rintro e wn ⟨rfl, hb⟩; have hR := grow_step hR hb; clear hb)
    | (go_at_call 18; (with_reducible refine (awake_any _).mono ?_); rintro e wn ⟨rfl, hb⟩; have hR := grow_step hR hb; clear hb)
    | (go_at_call 14; (with_reducible refine (name_63 _).mono ?_); rintro e wn ⟨rfl, hb⟩; have hR := grow_step hR hb; clear hb)
    | (go_at_call 16; (with_reducible refine (form_35 _).mono ?_); rintro e wn ⟨rfl, hb⟩; have hR := grow_step hR hb; clear hb))
  go_ret
  exact ⟨rfl, hR.out⟩
end Go.Proofs.Ytcglfbjfllohjaa
