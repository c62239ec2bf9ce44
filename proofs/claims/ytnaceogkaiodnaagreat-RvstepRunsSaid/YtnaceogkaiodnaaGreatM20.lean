/- The document's own way of layer 3: which word an instruction is: contracts, form by form. No condition but what each names. -/
import Derived.Test.YtnaceogkaiodnaaGreatM14
import Derived.Test.YtnaceogkaiodnaaGreatM16
import Derived.Test.YtnaceogkaiodnaaGreatM5
import Derived.BigQuiet
import Derived.Deep.QuietTactic
namespace Go.Proofs.YtnaceogkaiodnaaGreat
open Go.RowKit
set_option linter.unusedVariables false
set_option linter.unusedSimpArgs false
theorem quiet_left3 {v : Value} {f : FuncId} {args : Array Value} {w : World} {n : Nat} (h : Calls Tryz.prog f args (w.drewN n) fun e w' => e = .returned v ∧ w.drewN n = w') : Calls Tryz.prog f args (w.drewN n) fun e w'' => e = .returned v ∧ ∃ m, w'' = w.drewN m :=
  h.mono fun _ _ ⟨he, hm⟩ => ⟨he, n, hm.symm⟩
theorem quiet_add_left3 {v : Value} {f : FuncId} {args : Array Value} {w : World} {a n : Nat} (h : Calls Tryz.prog f args (w.drewN (a + n)) fun e w' => e = .returned v ∧ w.drewN (a + n) = w') : Calls Tryz.prog f args (w.drewN (a + n)) fun e w'' => e = .returned v ∧ ∃ m, w'' = w.drewN (a + m) :=
  h.mono fun _ _ ⟨he, hm⟩ => ⟨he, n, hm.symm⟩
set_option maxHeartbeats 2000000 in
set_option maxRecDepth 100000 in
theorem renc_R (op rd rs1 rs2 imm I : Int) (k : Nat) (s : ByteArray) (a b c : Int) (w : World) (hc : ∀ w, Calls Tryz.prog 123 #[.agg #[.int .i64 op, .int .i64 rd, .int .i64 rs1, .int .i64 rs2, .int .i64 imm]] w (RCheckDone w 0))
    (hr : ∀ w, Calls Tryz.prog 70 #[.int .i64 op] w (RRowYes w k s ⟨#[82]⟩ a b c)) (hi : ∀ w, Calls Tryz.prog 124 #[(.string ⟨#[82]⟩), .int .i64 imm] w fun e w' => e = .returned (.int .u32 I) ∧ w = w')
    (h1 : 0 ≤ rd ∧ rd ≤ 31) (h2 : 0 ≤ rs1 ∧ rs1 ≤ 31) (h3 : 0 ≤ rs2 ∧ rs2 ≤ 31) (ha : 0 ≤ a) (hb : 0 ≤ b) (hcc : 0 ≤ c) (hI : 0 ≤ I) (hb' : b < 256) (hc' : c < 128) (ht : a + I + rd * 128 + rs1 * 32768 + rs2 * 1048576 + b * 4096 + c * 33554432 < 4294967296) :
    Calls Tryz.prog 85 #[.agg #[.int .i64 op, .int .i64 rd, .int .i64 rs1, .int .i64 rs2, .int .i64 imm]] w (EncDone w (a + I + rd * 128 + rs1 * 32768 + rs2 * 1048576 + b * 4096 + c * 33554432) 0) := by
  have HC := Lib.hid hc
  have HR := Lib.hid hr
  have HI := Lib.hid hi
  have HX0 := Lib.hid (show ∀ j v, #[Value.int .i64 op, .int .i64 rd, .int .i64 rs1, .int .i64 rs2, .int .i64 imm][j]? = some v → (w.alloc (.cells #[.int .i64 op, .int .i64 rd, .int .i64 rs1, .int .i64 rs2, .int .i64 imm] 76)).cell? ⟨w.heap.size, j, none⟩ = some v from fun j v hv => new_cell _ _ _ _ _ _ rfl hv)
  clear hc hr hi
  go_enter Tryz.func85, Tryz.ntmps85
  go_wp2_with (first
    | (go_at_call 123; (with_reducible refine (HC.out _).mono ?_); rintro e w1 ⟨rfl, hbb⟩; have x0 := (hbb.cell (p := ⟨w.heap.size, 0, none⟩) (by simp)).trans (HX0.out 0 (.int .i64 op) rfl); have x1 := (hbb.cell (p := ⟨w.heap.size, 1, none⟩) (by simp)).trans (HX0.out 1 (.int .i64 rd) rfl); have x2 := (hbb.cell (p := ⟨w.heap.size, 2, none⟩) (by simp)).trans (HX0.out 2 (.int .i64 rs1) rfl); have x3 := (hbb.cell (p := ⟨w.heap.size, 3, none⟩) (by simp)).trans (HX0.out 3 (.int .i64 rs2) rfl); have x4 := (hbb.cell (p := ⟨w.heap.size, 4, none⟩) (by simp)).trans (HX0.out 4 (.int .i64 imm) rfl); have HB1 := Lib.hid hbb; have z1 : w.heap.size < w1.heap.size := (by have := hbb.size; simp at this; omega); clear hbb)
    | (go_at_call 70; (with_reducible refine (HR.out _).mono ?_); rintro e w2 ⟨rfl, hbb⟩; have y0 := (hbb.cell (p := ⟨w.heap.size, 0, none⟩) z1).trans x0; have y1 := (hbb.cell (p := ⟨w.heap.size, 1, none⟩) z1).trans x1; have y2 := (hbb.cell (p := ⟨w.heap.size, 2, none⟩) z1).trans x2; have y3 := (hbb.cell (p := ⟨w.heap.size, 3, none⟩) z1).trans x3; have y4 := (hbb.cell (p := ⟨w.heap.size, 4, none⟩) z1).trans x4; have HB2 := Lib.hid hbb; have z2 := hbb.size; have z3 : w.heap.size < w2.heap.size := (by omega); clear hbb))
  have hw : IntKind.u32.wrap (a + I) = a + I := by rw [IntKind.wrap_u32]; omega
  go_quiet ((go_at_call 124; with_reducible exact quiet_left3 (HI.out _)))
  clear hw
  go_wp2

  have hw1 : IntKind.u32.wrap (c * 33554432) = c * 33554432 := by rw [IntKind.wrap_u32]; omega
  have hw2 : IntKind.u32.wrap (a + I + rd * 128 + rs1 * 32768 + rs2 * 1048576 + b * 4096 + c * 33554432) = a + I + rd * 128 + rs1 * 32768 + rs2 * 1048576 + b * 4096 + c * 33554432 := by rw [IntKind.wrap_u32]; omega
  have hw3 : c * 33554432 % 4294967296 = c * 33554432 := by omega
  go_quiet ((go_at_call 125; first | (with_reducible exact quiet_add_left3 (above_R _)) | (with_reducible exact quiet_left3 (above_R _))))
  clear hw1 hw2 hw3
  go_wp2

  go_ret2
  refine ⟨ret_int2 ?_ rfl, ?_⟩
  · rfl
  · first
      | exact below_drewN (below_drewN ((((Below.refl _ _).alloc (Nat.le_refl _) _).trans ((HB1.out.trans (HB2.out.mono HB1.out.size)).mono (by simp))).alloc (Nat.le_of_lt z3) _) _) _
      | exact below_drewN ((((Below.refl _ _).alloc (Nat.le_refl _) _).trans ((HB1.out.trans (HB2.out.mono HB1.out.size)).mono (by simp))).alloc (Nat.le_of_lt z3) _) _

set_option maxHeartbeats 2000000 in
set_option maxRecDepth 100000 in
theorem renc_I (op rd rs1 rs2 imm I : Int) (k : Nat) (s : ByteArray) (a b c : Int) (w : World) (hc : ∀ w, Calls Tryz.prog 123 #[.agg #[.int .i64 op, .int .i64 rd, .int .i64 rs1, .int .i64 rs2, .int .i64 imm]] w (RCheckDone w 0))
    (hr : ∀ w, Calls Tryz.prog 70 #[.int .i64 op] w (RRowYes w k s ⟨#[73]⟩ a b c)) (hi : ∀ w, Calls Tryz.prog 124 #[(.string ⟨#[73]⟩), .int .i64 imm] w fun e w' => e = .returned (.int .u32 I) ∧ w = w')
    (h1 : 0 ≤ rd ∧ rd ≤ 31) (h2 : 0 ≤ rs1 ∧ rs1 ≤ 31) (h3 : 0 ≤ rs2 ∧ rs2 ≤ 31) (ha : 0 ≤ a) (hb : 0 ≤ b) (hcc : 0 ≤ c) (hI : 0 ≤ I) (hb' : b < 256) (hc' : c < 128) (ht : a + I + rd * 128 + rs1 * 32768 + rs2 * 1048576 + b * 4096 < 4294967296) :
    Calls Tryz.prog 85 #[.agg #[.int .i64 op, .int .i64 rd, .int .i64 rs1, .int .i64 rs2, .int .i64 imm]] w (EncDone w (a + I + rd * 128 + rs1 * 32768 + rs2 * 1048576 + b * 4096) 0) := by
  have HC := Lib.hid hc
  have HR := Lib.hid hr
  have HI := Lib.hid hi
  have HX0 := Lib.hid (show ∀ j v, #[Value.int .i64 op, .int .i64 rd, .int .i64 rs1, .int .i64 rs2, .int .i64 imm][j]? = some v → (w.alloc (.cells #[.int .i64 op, .int .i64 rd, .int .i64 rs1, .int .i64 rs2, .int .i64 imm] 76)).cell? ⟨w.heap.size, j, none⟩ = some v from fun j v hv => new_cell _ _ _ _ _ _ rfl hv)
  clear hc hr hi
  go_enter Tryz.func85, Tryz.ntmps85
  go_wp2_with (first
    | (go_at_call 123; (with_reducible refine (HC.out _).mono ?_); rintro e w1 ⟨rfl, hbb⟩; have x0 := (hbb.cell (p := ⟨w.heap.size, 0, none⟩) (by simp)).trans (HX0.out 0 (.int .i64 op) rfl); have x1 := (hbb.cell (p := ⟨w.heap.size, 1, none⟩) (by simp)).trans (HX0.out 1 (.int .i64 rd) rfl); have x2 := (hbb.cell (p := ⟨w.heap.size, 2, none⟩) (by simp)).trans (HX0.out 2 (.int .i64 rs1) rfl); have x3 := (hbb.cell (p := ⟨w.heap.size, 3, none⟩) (by simp)).trans (HX0.out 3 (.int .i64 rs2) rfl); have x4 := (hbb.cell (p := ⟨w.heap.size, 4, none⟩) (by simp)).trans (HX0.out 4 (.int .i64 imm) rfl); have HB1 := Lib.hid hbb; have z1 : w.heap.size < w1.heap.size := (by have := hbb.size; simp at this; omega); clear hbb)
    | (go_at_call 70; (with_reducible refine (HR.out _).mono ?_); rintro e w2 ⟨rfl, hbb⟩; have y0 := (hbb.cell (p := ⟨w.heap.size, 0, none⟩) z1).trans x0; have y1 := (hbb.cell (p := ⟨w.heap.size, 1, none⟩) z1).trans x1; have y2 := (hbb.cell (p := ⟨w.heap.size, 2, none⟩) z1).trans x2; have y3 := (hbb.cell (p := ⟨w.heap.size, 3, none⟩) z1).trans x3; have y4 := (hbb.cell (p := ⟨w.heap.size, 4, none⟩) z1).trans x4; have HB2 := Lib.hid hbb; have z2 := hbb.size; have z3 : w.heap.size < w2.heap.size := (by omega); clear hbb))
  have hw : IntKind.u32.wrap (a + I) = a + I := by rw [IntKind.wrap_u32]; omega
  go_quiet ((go_at_call 124; with_reducible exact quiet_left3 (HI.out _)))
  clear hw
  go_wp2

  go_ret2
  refine ⟨ret_int2 ?_ rfl, ?_⟩
  · rfl
  · first
      | exact below_drewN (below_drewN ((((Below.refl _ _).alloc (Nat.le_refl _) _).trans ((HB1.out.trans (HB2.out.mono HB1.out.size)).mono (by simp))).alloc (Nat.le_of_lt z3) _) _) _
      | exact below_drewN ((((Below.refl _ _).alloc (Nat.le_refl _) _).trans ((HB1.out.trans (HB2.out.mono HB1.out.size)).mono (by simp))).alloc (Nat.le_of_lt z3) _) _

set_option maxHeartbeats 2000000 in
set_option maxRecDepth 100000 in
theorem renc_X (op rd rs1 rs2 imm I : Int) (k : Nat) (s : ByteArray) (a b c : Int) (w : World) (hc : ∀ w, Calls Tryz.prog 123 #[.agg #[.int .i64 op, .int .i64 rd, .int .i64 rs1, .int .i64 rs2, .int .i64 imm]] w (RCheckDone w 0))
    (hr : ∀ w, Calls Tryz.prog 70 #[.int .i64 op] w (RRowYes w k s ⟨#[88]⟩ a b c)) (hi : ∀ w, Calls Tryz.prog 124 #[(.string ⟨#[88]⟩), .int .i64 imm] w fun e w' => e = .returned (.int .u32 I) ∧ w = w')
    (h1 : 0 ≤ rd ∧ rd ≤ 31) (h2 : 0 ≤ rs1 ∧ rs1 ≤ 31) (h3 : 0 ≤ rs2 ∧ rs2 ≤ 31) (ha : 0 ≤ a) (hb : 0 ≤ b) (hcc : 0 ≤ c) (hI : 0 ≤ I) (hb' : b < 256) (hc' : c < 128) (ht : a + I + rd * 128 + rs1 * 32768 + rs2 * 1048576 + b * 4096 + c * 67108864 < 4294967296) :
    Calls Tryz.prog 85 #[.agg #[.int .i64 op, .int .i64 rd, .int .i64 rs1, .int .i64 rs2, .int .i64 imm]] w (EncDone w (a + I + rd * 128 + rs1 * 32768 + rs2 * 1048576 + b * 4096 + c * 67108864) 0) := by
  have HC := Lib.hid hc
  have HR := Lib.hid hr
  have HI := Lib.hid hi
  have HX0 := Lib.hid (show ∀ j v, #[Value.int .i64 op, .int .i64 rd, .int .i64 rs1, .int .i64 rs2, .int .i64 imm][j]? = some v → (w.alloc (.cells #[.int .i64 op, .int .i64 rd, .int .i64 rs1, .int .i64 rs2, .int .i64 imm] 76)).cell? ⟨w.heap.size, j, none⟩ = some v from fun j v hv => new_cell _ _ _ _ _ _ rfl hv)
  clear hc hr hi
  go_enter Tryz.func85, Tryz.ntmps85
  go_wp2_with (first
    | (go_at_call 123; (with_reducible refine (HC.out _).mono ?_); rintro e w1 ⟨rfl, hbb⟩; have x0 := (hbb.cell (p := ⟨w.heap.size, 0, none⟩) (by simp)).trans (HX0.out 0 (.int .i64 op) rfl); have x1 := (hbb.cell (p := ⟨w.heap.size, 1, none⟩) (by simp)).trans (HX0.out 1 (.int .i64 rd) rfl); have x2 := (hbb.cell (p := ⟨w.heap.size, 2, none⟩) (by simp)).trans (HX0.out 2 (.int .i64 rs1) rfl); have x3 := (hbb.cell (p := ⟨w.heap.size, 3, none⟩) (by simp)).trans (HX0.out 3 (.int .i64 rs2) rfl); have x4 := (hbb.cell (p := ⟨w.heap.size, 4, none⟩) (by simp)).trans (HX0.out 4 (.int .i64 imm) rfl); have HB1 := Lib.hid hbb; have z1 : w.heap.size < w1.heap.size := (by have := hbb.size; simp at this; omega); clear hbb)
    | (go_at_call 70; (with_reducible refine (HR.out _).mono ?_); rintro e w2 ⟨rfl, hbb⟩; have y0 := (hbb.cell (p := ⟨w.heap.size, 0, none⟩) z1).trans x0; have y1 := (hbb.cell (p := ⟨w.heap.size, 1, none⟩) z1).trans x1; have y2 := (hbb.cell (p := ⟨w.heap.size, 2, none⟩) z1).trans x2; have y3 := (hbb.cell (p := ⟨w.heap.size, 3, none⟩) z1).trans x3; have y4 := (hbb.cell (p := ⟨w.heap.size, 4, none⟩) z1).trans x4; have HB2 := Lib.hid hbb; have z2 := hbb.size; have z3 : w.heap.size < w2.heap.size := (by omega); clear hbb))
  have hw : IntKind.u32.wrap (a + I) = a + I := by rw [IntKind.wrap_u32]; omega
  go_quiet ((go_at_call 124; with_reducible exact quiet_left3 (HI.out _)))
  clear hw
  go_wp2

  have hw1 : IntKind.u32.wrap (c * 67108864) = c * 67108864 := by rw [IntKind.wrap_u32]; omega
  have hw2 : IntKind.u32.wrap (a + I + rd * 128 + rs1 * 32768 + rs2 * 1048576 + b * 4096 + c * 67108864) = a + I + rd * 128 + rs1 * 32768 + rs2 * 1048576 + b * 4096 + c * 67108864 := by rw [IntKind.wrap_u32]; omega
  have hw3 : c * 67108864 % 4294967296 = c * 67108864 := by omega
  go_quiet ((go_at_call 125; first | (with_reducible exact quiet_add_left3 (above_X _)) | (with_reducible exact quiet_left3 (above_X _))))
  clear hw1 hw2 hw3
  go_wp2

  go_ret2
  refine ⟨ret_int2 ?_ rfl, ?_⟩
  · rfl
  · first
      | exact below_drewN (below_drewN ((((Below.refl _ _).alloc (Nat.le_refl _) _).trans ((HB1.out.trans (HB2.out.mono HB1.out.size)).mono (by simp))).alloc (Nat.le_of_lt z3) _) _) _
      | exact below_drewN ((((Below.refl _ _).alloc (Nat.le_refl _) _).trans ((HB1.out.trans (HB2.out.mono HB1.out.size)).mono (by simp))).alloc (Nat.le_of_lt z3) _) _

set_option maxHeartbeats 2000000 in
set_option maxRecDepth 100000 in
theorem renc_Y (op rd rs1 rs2 imm I : Int) (k : Nat) (s : ByteArray) (a b c : Int) (w : World) (hc : ∀ w, Calls Tryz.prog 123 #[.agg #[.int .i64 op, .int .i64 rd, .int .i64 rs1, .int .i64 rs2, .int .i64 imm]] w (RCheckDone w 0))
    (hr : ∀ w, Calls Tryz.prog 70 #[.int .i64 op] w (RRowYes w k s ⟨#[89]⟩ a b c)) (hi : ∀ w, Calls Tryz.prog 124 #[(.string ⟨#[89]⟩), .int .i64 imm] w fun e w' => e = .returned (.int .u32 I) ∧ w = w')
    (h1 : 0 ≤ rd ∧ rd ≤ 31) (h2 : 0 ≤ rs1 ∧ rs1 ≤ 31) (h3 : 0 ≤ rs2 ∧ rs2 ≤ 31) (ha : 0 ≤ a) (hb : 0 ≤ b) (hcc : 0 ≤ c) (hI : 0 ≤ I) (hb' : b < 256) (hc' : c < 128) (ht : a + I + rd * 128 + rs1 * 32768 + rs2 * 1048576 + b * 4096 + c * 33554432 < 4294967296) :
    Calls Tryz.prog 85 #[.agg #[.int .i64 op, .int .i64 rd, .int .i64 rs1, .int .i64 rs2, .int .i64 imm]] w (EncDone w (a + I + rd * 128 + rs1 * 32768 + rs2 * 1048576 + b * 4096 + c * 33554432) 0) := by
  have HC := Lib.hid hc
  have HR := Lib.hid hr
  have HI := Lib.hid hi
  have HX0 := Lib.hid (show ∀ j v, #[Value.int .i64 op, .int .i64 rd, .int .i64 rs1, .int .i64 rs2, .int .i64 imm][j]? = some v → (w.alloc (.cells #[.int .i64 op, .int .i64 rd, .int .i64 rs1, .int .i64 rs2, .int .i64 imm] 76)).cell? ⟨w.heap.size, j, none⟩ = some v from fun j v hv => new_cell _ _ _ _ _ _ rfl hv)
  clear hc hr hi
  go_enter Tryz.func85, Tryz.ntmps85
  go_wp2_with (first
    | (go_at_call 123; (with_reducible refine (HC.out _).mono ?_); rintro e w1 ⟨rfl, hbb⟩; have x0 := (hbb.cell (p := ⟨w.heap.size, 0, none⟩) (by simp)).trans (HX0.out 0 (.int .i64 op) rfl); have x1 := (hbb.cell (p := ⟨w.heap.size, 1, none⟩) (by simp)).trans (HX0.out 1 (.int .i64 rd) rfl); have x2 := (hbb.cell (p := ⟨w.heap.size, 2, none⟩) (by simp)).trans (HX0.out 2 (.int .i64 rs1) rfl); have x3 := (hbb.cell (p := ⟨w.heap.size, 3, none⟩) (by simp)).trans (HX0.out 3 (.int .i64 rs2) rfl); have x4 := (hbb.cell (p := ⟨w.heap.size, 4, none⟩) (by simp)).trans (HX0.out 4 (.int .i64 imm) rfl); have HB1 := Lib.hid hbb; have z1 : w.heap.size < w1.heap.size := (by have := hbb.size; simp at this; omega); clear hbb)
    | (go_at_call 70; (with_reducible refine (HR.out _).mono ?_); rintro e w2 ⟨rfl, hbb⟩; have y0 := (hbb.cell (p := ⟨w.heap.size, 0, none⟩) z1).trans x0; have y1 := (hbb.cell (p := ⟨w.heap.size, 1, none⟩) z1).trans x1; have y2 := (hbb.cell (p := ⟨w.heap.size, 2, none⟩) z1).trans x2; have y3 := (hbb.cell (p := ⟨w.heap.size, 3, none⟩) z1).trans x3; have y4 := (hbb.cell (p := ⟨w.heap.size, 4, none⟩) z1).trans x4; have HB2 := Lib.hid hbb; have z2 := hbb.size; have z3 : w.heap.size < w2.heap.size := (by omega); clear hbb))
  have hw : IntKind.u32.wrap (a + I) = a + I := by rw [IntKind.wrap_u32]; omega
  go_quiet ((go_at_call 124; with_reducible exact quiet_left3 (HI.out _)))
  clear hw
  go_wp2

  have hw1 : IntKind.u32.wrap (c * 33554432) = c * 33554432 := by rw [IntKind.wrap_u32]; omega
  have hw2 : IntKind.u32.wrap (a + I + rd * 128 + rs1 * 32768 + rs2 * 1048576 + b * 4096 + c * 33554432) = a + I + rd * 128 + rs1 * 32768 + rs2 * 1048576 + b * 4096 + c * 33554432 := by rw [IntKind.wrap_u32]; omega
  have hw3 : c * 33554432 % 4294967296 = c * 33554432 := by omega
  go_quiet ((go_at_call 125; first | (with_reducible exact quiet_add_left3 (above_Y _)) | (with_reducible exact quiet_left3 (above_Y _))))
  clear hw1 hw2 hw3
  go_wp2

  go_ret2
  refine ⟨ret_int2 ?_ rfl, ?_⟩
  · rfl
  · first
      | exact below_drewN (below_drewN ((((Below.refl _ _).alloc (Nat.le_refl _) _).trans ((HB1.out.trans (HB2.out.mono HB1.out.size)).mono (by simp))).alloc (Nat.le_of_lt z3) _) _) _
      | exact below_drewN ((((Below.refl _ _).alloc (Nat.le_refl _) _).trans ((HB1.out.trans (HB2.out.mono HB1.out.size)).mono (by simp))).alloc (Nat.le_of_lt z3) _) _

set_option maxHeartbeats 2000000 in
set_option maxRecDepth 100000 in
theorem renc_S (op rd rs1 rs2 imm I : Int) (k : Nat) (s : ByteArray) (a b c : Int) (w : World) (hc : ∀ w, Calls Tryz.prog 123 #[.agg #[.int .i64 op, .int .i64 rd, .int .i64 rs1, .int .i64 rs2, .int .i64 imm]] w (RCheckDone w 0))
    (hr : ∀ w, Calls Tryz.prog 70 #[.int .i64 op] w (RRowYes w k s ⟨#[83]⟩ a b c)) (hi : ∀ w, Calls Tryz.prog 124 #[(.string ⟨#[83]⟩), .int .i64 imm] w fun e w' => e = .returned (.int .u32 I) ∧ w = w')
    (h1 : 0 ≤ rd ∧ rd ≤ 31) (h2 : 0 ≤ rs1 ∧ rs1 ≤ 31) (h3 : 0 ≤ rs2 ∧ rs2 ≤ 31) (ha : 0 ≤ a) (hb : 0 ≤ b) (hcc : 0 ≤ c) (hI : 0 ≤ I) (hb' : b < 256) (hc' : c < 128) (ht : a + I + rd * 128 + rs1 * 32768 + rs2 * 1048576 + b * 4096 < 4294967296) :
    Calls Tryz.prog 85 #[.agg #[.int .i64 op, .int .i64 rd, .int .i64 rs1, .int .i64 rs2, .int .i64 imm]] w (EncDone w (a + I + rd * 128 + rs1 * 32768 + rs2 * 1048576 + b * 4096) 0) := by
  have HC := Lib.hid hc
  have HR := Lib.hid hr
  have HI := Lib.hid hi
  have HX0 := Lib.hid (show ∀ j v, #[Value.int .i64 op, .int .i64 rd, .int .i64 rs1, .int .i64 rs2, .int .i64 imm][j]? = some v → (w.alloc (.cells #[.int .i64 op, .int .i64 rd, .int .i64 rs1, .int .i64 rs2, .int .i64 imm] 76)).cell? ⟨w.heap.size, j, none⟩ = some v from fun j v hv => new_cell _ _ _ _ _ _ rfl hv)
  clear hc hr hi
  go_enter Tryz.func85, Tryz.ntmps85
  go_wp2_with (first
    | (go_at_call 123; (with_reducible refine (HC.out _).mono ?_); rintro e w1 ⟨rfl, hbb⟩; have x0 := (hbb.cell (p := ⟨w.heap.size, 0, none⟩) (by simp)).trans (HX0.out 0 (.int .i64 op) rfl); have x1 := (hbb.cell (p := ⟨w.heap.size, 1, none⟩) (by simp)).trans (HX0.out 1 (.int .i64 rd) rfl); have x2 := (hbb.cell (p := ⟨w.heap.size, 2, none⟩) (by simp)).trans (HX0.out 2 (.int .i64 rs1) rfl); have x3 := (hbb.cell (p := ⟨w.heap.size, 3, none⟩) (by simp)).trans (HX0.out 3 (.int .i64 rs2) rfl); have x4 := (hbb.cell (p := ⟨w.heap.size, 4, none⟩) (by simp)).trans (HX0.out 4 (.int .i64 imm) rfl); have HB1 := Lib.hid hbb; have z1 : w.heap.size < w1.heap.size := (by have := hbb.size; simp at this; omega); clear hbb)
    | (go_at_call 70; (with_reducible refine (HR.out _).mono ?_); rintro e w2 ⟨rfl, hbb⟩; have y0 := (hbb.cell (p := ⟨w.heap.size, 0, none⟩) z1).trans x0; have y1 := (hbb.cell (p := ⟨w.heap.size, 1, none⟩) z1).trans x1; have y2 := (hbb.cell (p := ⟨w.heap.size, 2, none⟩) z1).trans x2; have y3 := (hbb.cell (p := ⟨w.heap.size, 3, none⟩) z1).trans x3; have y4 := (hbb.cell (p := ⟨w.heap.size, 4, none⟩) z1).trans x4; have HB2 := Lib.hid hbb; have z2 := hbb.size; have z3 : w.heap.size < w2.heap.size := (by omega); clear hbb))
  have hw : IntKind.u32.wrap (a + I) = a + I := by rw [IntKind.wrap_u32]; omega
  go_quiet ((go_at_call 124; with_reducible exact quiet_left3 (HI.out _)))
  clear hw
  go_wp2

  go_ret2
  refine ⟨ret_int2 ?_ rfl, ?_⟩
  · rfl
  · first
      | exact below_drewN (below_drewN ((((Below.refl _ _).alloc (Nat.le_refl _) _).trans ((HB1.out.trans (HB2.out.mono HB1.out.size)).mono (by simp))).alloc (Nat.le_of_lt z3) _) _) _
      | exact below_drewN ((((Below.refl _ _).alloc (Nat.le_refl _) _).trans ((HB1.out.trans (HB2.out.mono HB1.out.size)).mono (by simp))).alloc (Nat.le_of_lt z3) _) _

set_option maxHeartbeats 2000000 in
set_option maxRecDepth 100000 in
theorem renc_B (op rd rs1 rs2 imm I : Int) (k : Nat) (s : ByteArray) (a b c : Int) (w : World) (hc : ∀ w, Calls Tryz.prog 123 #[.agg #[.int .i64 op, .int .i64 rd, .int .i64 rs1, .int .i64 rs2, .int .i64 imm]] w (RCheckDone w 0))
    (hr : ∀ w, Calls Tryz.prog 70 #[.int .i64 op] w (RRowYes w k s ⟨#[66]⟩ a b c)) (hi : ∀ w, Calls Tryz.prog 124 #[(.string ⟨#[66]⟩), .int .i64 imm] w fun e w' => e = .returned (.int .u32 I) ∧ w = w')
    (h1 : 0 ≤ rd ∧ rd ≤ 31) (h2 : 0 ≤ rs1 ∧ rs1 ≤ 31) (h3 : 0 ≤ rs2 ∧ rs2 ≤ 31) (ha : 0 ≤ a) (hb : 0 ≤ b) (hcc : 0 ≤ c) (hI : 0 ≤ I) (hb' : b < 256) (hc' : c < 128) (ht : a + I + rd * 128 + rs1 * 32768 + rs2 * 1048576 + b * 4096 < 4294967296) :
    Calls Tryz.prog 85 #[.agg #[.int .i64 op, .int .i64 rd, .int .i64 rs1, .int .i64 rs2, .int .i64 imm]] w (EncDone w (a + I + rd * 128 + rs1 * 32768 + rs2 * 1048576 + b * 4096) 0) := by
  have HC := Lib.hid hc
  have HR := Lib.hid hr
  have HI := Lib.hid hi
  have HX0 := Lib.hid (show ∀ j v, #[Value.int .i64 op, .int .i64 rd, .int .i64 rs1, .int .i64 rs2, .int .i64 imm][j]? = some v → (w.alloc (.cells #[.int .i64 op, .int .i64 rd, .int .i64 rs1, .int .i64 rs2, .int .i64 imm] 76)).cell? ⟨w.heap.size, j, none⟩ = some v from fun j v hv => new_cell _ _ _ _ _ _ rfl hv)
  clear hc hr hi
  go_enter Tryz.func85, Tryz.ntmps85
  go_wp2_with (first
    | (go_at_call 123; (with_reducible refine (HC.out _).mono ?_); rintro e w1 ⟨rfl, hbb⟩; have x0 := (hbb.cell (p := ⟨w.heap.size, 0, none⟩) (by simp)).trans (HX0.out 0 (.int .i64 op) rfl); have x1 := (hbb.cell (p := ⟨w.heap.size, 1, none⟩) (by simp)).trans (HX0.out 1 (.int .i64 rd) rfl); have x2 := (hbb.cell (p := ⟨w.heap.size, 2, none⟩) (by simp)).trans (HX0.out 2 (.int .i64 rs1) rfl); have x3 := (hbb.cell (p := ⟨w.heap.size, 3, none⟩) (by simp)).trans (HX0.out 3 (.int .i64 rs2) rfl); have x4 := (hbb.cell (p := ⟨w.heap.size, 4, none⟩) (by simp)).trans (HX0.out 4 (.int .i64 imm) rfl); have HB1 := Lib.hid hbb; have z1 : w.heap.size < w1.heap.size := (by have := hbb.size; simp at this; omega); clear hbb)
    | (go_at_call 70; (with_reducible refine (HR.out _).mono ?_); rintro e w2 ⟨rfl, hbb⟩; have y0 := (hbb.cell (p := ⟨w.heap.size, 0, none⟩) z1).trans x0; have y1 := (hbb.cell (p := ⟨w.heap.size, 1, none⟩) z1).trans x1; have y2 := (hbb.cell (p := ⟨w.heap.size, 2, none⟩) z1).trans x2; have y3 := (hbb.cell (p := ⟨w.heap.size, 3, none⟩) z1).trans x3; have y4 := (hbb.cell (p := ⟨w.heap.size, 4, none⟩) z1).trans x4; have HB2 := Lib.hid hbb; have z2 := hbb.size; have z3 : w.heap.size < w2.heap.size := (by omega); clear hbb))
  have hw : IntKind.u32.wrap (a + I) = a + I := by rw [IntKind.wrap_u32]; omega
  go_quiet ((go_at_call 124; with_reducible exact quiet_left3 (HI.out _)))
  clear hw
  go_wp2

  go_ret2
  refine ⟨ret_int2 ?_ rfl, ?_⟩
  · rfl
  · first
      | exact below_drewN (below_drewN ((((Below.refl _ _).alloc (Nat.le_refl _) _).trans ((HB1.out.trans (HB2.out.mono HB1.out.size)).mono (by simp))).alloc (Nat.le_of_lt z3) _) _) _
      | exact below_drewN ((((Below.refl _ _).alloc (Nat.le_refl _) _).trans ((HB1.out.trans (HB2.out.mono HB1.out.size)).mono (by simp))).alloc (Nat.le_of_lt z3) _) _

set_option maxHeartbeats 2000000 in
set_option maxRecDepth 100000 in
theorem renc_U (op rd rs1 rs2 imm I : Int) (k : Nat) (s : ByteArray) (a b c : Int) (w : World) (hc : ∀ w, Calls Tryz.prog 123 #[.agg #[.int .i64 op, .int .i64 rd, .int .i64 rs1, .int .i64 rs2, .int .i64 imm]] w (RCheckDone w 0))
    (hr : ∀ w, Calls Tryz.prog 70 #[.int .i64 op] w (RRowYes w k s ⟨#[85]⟩ a b c)) (hi : ∀ w, Calls Tryz.prog 124 #[(.string ⟨#[85]⟩), .int .i64 imm] w fun e w' => e = .returned (.int .u32 I) ∧ w = w')
    (h1 : 0 ≤ rd ∧ rd ≤ 31) (h2 : 0 ≤ rs1 ∧ rs1 ≤ 31) (h3 : 0 ≤ rs2 ∧ rs2 ≤ 31) (ha : 0 ≤ a) (hb : 0 ≤ b) (hcc : 0 ≤ c) (hI : 0 ≤ I) (hb' : b < 256) (hc' : c < 128) (ht : a + I + rd * 128 + rs1 * 32768 + rs2 * 1048576 < 4294967296) :
    Calls Tryz.prog 85 #[.agg #[.int .i64 op, .int .i64 rd, .int .i64 rs1, .int .i64 rs2, .int .i64 imm]] w (EncDone w (a + I + rd * 128 + rs1 * 32768 + rs2 * 1048576) 0) := by
  have HC := Lib.hid hc
  have HR := Lib.hid hr
  have HI := Lib.hid hi
  have HX0 := Lib.hid (show ∀ j v, #[Value.int .i64 op, .int .i64 rd, .int .i64 rs1, .int .i64 rs2, .int .i64 imm][j]? = some v → (w.alloc (.cells #[.int .i64 op, .int .i64 rd, .int .i64 rs1, .int .i64 rs2, .int .i64 imm] 76)).cell? ⟨w.heap.size, j, none⟩ = some v from fun j v hv => new_cell _ _ _ _ _ _ rfl hv)
  clear hc hr hi
  go_enter Tryz.func85, Tryz.ntmps85
  go_wp2_with (first
    | (go_at_call 123; (with_reducible refine (HC.out _).mono ?_); rintro e w1 ⟨rfl, hbb⟩; have x0 := (hbb.cell (p := ⟨w.heap.size, 0, none⟩) (by simp)).trans (HX0.out 0 (.int .i64 op) rfl); have x1 := (hbb.cell (p := ⟨w.heap.size, 1, none⟩) (by simp)).trans (HX0.out 1 (.int .i64 rd) rfl); have x2 := (hbb.cell (p := ⟨w.heap.size, 2, none⟩) (by simp)).trans (HX0.out 2 (.int .i64 rs1) rfl); have x3 := (hbb.cell (p := ⟨w.heap.size, 3, none⟩) (by simp)).trans (HX0.out 3 (.int .i64 rs2) rfl); have x4 := (hbb.cell (p := ⟨w.heap.size, 4, none⟩) (by simp)).trans (HX0.out 4 (.int .i64 imm) rfl); have HB1 := Lib.hid hbb; have z1 : w.heap.size < w1.heap.size := (by have := hbb.size; simp at this; omega); clear hbb)
    | (go_at_call 70; (with_reducible refine (HR.out _).mono ?_); rintro e w2 ⟨rfl, hbb⟩; have y0 := (hbb.cell (p := ⟨w.heap.size, 0, none⟩) z1).trans x0; have y1 := (hbb.cell (p := ⟨w.heap.size, 1, none⟩) z1).trans x1; have y2 := (hbb.cell (p := ⟨w.heap.size, 2, none⟩) z1).trans x2; have y3 := (hbb.cell (p := ⟨w.heap.size, 3, none⟩) z1).trans x3; have y4 := (hbb.cell (p := ⟨w.heap.size, 4, none⟩) z1).trans x4; have HB2 := Lib.hid hbb; have z2 := hbb.size; have z3 : w.heap.size < w2.heap.size := (by omega); clear hbb))
  have hw : IntKind.u32.wrap (a + I) = a + I := by rw [IntKind.wrap_u32]; omega
  go_quiet ((go_at_call 124; with_reducible exact quiet_left3 (HI.out _)))
  clear hw
  go_wp2

  go_ret2
  refine ⟨ret_int2 ?_ rfl, ?_⟩
  · rfl
  · first
      | exact below_drewN (below_drewN ((((Below.refl _ _).alloc (Nat.le_refl _) _).trans ((HB1.out.trans (HB2.out.mono HB1.out.size)).mono (by simp))).alloc (Nat.le_of_lt z3) _) _) _
      | exact below_drewN ((((Below.refl _ _).alloc (Nat.le_refl _) _).trans ((HB1.out.trans (HB2.out.mono HB1.out.size)).mono (by simp))).alloc (Nat.le_of_lt z3) _) _

set_option maxHeartbeats 2000000 in
set_option maxRecDepth 100000 in
theorem renc_J (op rd rs1 rs2 imm I : Int) (k : Nat) (s : ByteArray) (a b c : Int) (w : World) (hc : ∀ w, Calls Tryz.prog 123 #[.agg #[.int .i64 op, .int .i64 rd, .int .i64 rs1, .int .i64 rs2, .int .i64 imm]] w (RCheckDone w 0))
    (hr : ∀ w, Calls Tryz.prog 70 #[.int .i64 op] w (RRowYes w k s ⟨#[74]⟩ a b c)) (hi : ∀ w, Calls Tryz.prog 124 #[(.string ⟨#[74]⟩), .int .i64 imm] w fun e w' => e = .returned (.int .u32 I) ∧ w = w')
    (h1 : 0 ≤ rd ∧ rd ≤ 31) (h2 : 0 ≤ rs1 ∧ rs1 ≤ 31) (h3 : 0 ≤ rs2 ∧ rs2 ≤ 31) (ha : 0 ≤ a) (hb : 0 ≤ b) (hcc : 0 ≤ c) (hI : 0 ≤ I) (hb' : b < 256) (hc' : c < 128) (ht : a + I + rd * 128 + rs1 * 32768 + rs2 * 1048576 < 4294967296) :
    Calls Tryz.prog 85 #[.agg #[.int .i64 op, .int .i64 rd, .int .i64 rs1, .int .i64 rs2, .int .i64 imm]] w (EncDone w (a + I + rd * 128 + rs1 * 32768 + rs2 * 1048576) 0) := by
  have HC := Lib.hid hc
  have HR := Lib.hid hr
  have HI := Lib.hid hi
  have HX0 := Lib.hid (show ∀ j v, #[Value.int .i64 op, .int .i64 rd, .int .i64 rs1, .int .i64 rs2, .int .i64 imm][j]? = some v → (w.alloc (.cells #[.int .i64 op, .int .i64 rd, .int .i64 rs1, .int .i64 rs2, .int .i64 imm] 76)).cell? ⟨w.heap.size, j, none⟩ = some v from fun j v hv => new_cell _ _ _ _ _ _ rfl hv)
  clear hc hr hi
  go_enter Tryz.func85, Tryz.ntmps85
  go_wp2_with (first
    | (go_at_call 123; (with_reducible refine (HC.out _).mono ?_); rintro e w1 ⟨rfl, hbb⟩; have x0 := (hbb.cell (p := ⟨w.heap.size, 0, none⟩) (by simp)).trans (HX0.out 0 (.int .i64 op) rfl); have x1 := (hbb.cell (p := ⟨w.heap.size, 1, none⟩) (by simp)).trans (HX0.out 1 (.int .i64 rd) rfl); have x2 := (hbb.cell (p := ⟨w.heap.size, 2, none⟩) (by simp)).trans (HX0.out 2 (.int .i64 rs1) rfl); have x3 := (hbb.cell (p := ⟨w.heap.size, 3, none⟩) (by simp)).trans (HX0.out 3 (.int .i64 rs2) rfl); have x4 := (hbb.cell (p := ⟨w.heap.size, 4, none⟩) (by simp)).trans (HX0.out 4 (.int .i64 imm) rfl); have HB1 := Lib.hid hbb; have z1 : w.heap.size < w1.heap.size := (by have := hbb.size; simp at this; omega); clear hbb)
    | (go_at_call 70; (with_reducible refine (HR.out _).mono ?_); rintro e w2 ⟨rfl, hbb⟩; have y0 := (hbb.cell (p := ⟨w.heap.size, 0, none⟩) z1).trans x0; have y1 := (hbb.cell (p := ⟨w.heap.size, 1, none⟩) z1).trans x1; have y2 := (hbb.cell (p := ⟨w.heap.size, 2, none⟩) z1).trans x2; have y3 := (hbb.cell (p := ⟨w.heap.size, 3, none⟩) z1).trans x3; have y4 := (hbb.cell (p := ⟨w.heap.size, 4, none⟩) z1).trans x4; have HB2 := Lib.hid hbb; have z2 := hbb.size; have z3 : w.heap.size < w2.heap.size := (by omega); clear hbb))
  have hw : IntKind.u32.wrap (a + I) = a + I := by rw [IntKind.wrap_u32]; omega
  go_quiet ((go_at_call 124; with_reducible exact quiet_left3 (HI.out _)))
  clear hw
  go_wp2

  go_ret2
  refine ⟨ret_int2 ?_ rfl, ?_⟩
  · rfl
  · first
      | exact below_drewN (below_drewN ((((Below.refl _ _).alloc (Nat.le_refl _) _).trans ((HB1.out.trans (HB2.out.mono HB1.out.size)).mono (by simp))).alloc (Nat.le_of_lt z3) _) _) _
      | exact below_drewN ((((Below.refl _ _).alloc (Nat.le_refl _) _).trans ((HB1.out.trans (HB2.out.mono HB1.out.size)).mono (by simp))).alloc (Nat.le_of_lt z3) _) _

set_option maxHeartbeats 2000000 in
set_option maxRecDepth 100000 in
theorem renc_E (op rd rs1 rs2 imm I : Int) (k : Nat) (s : ByteArray) (a b c : Int) (w : World) (hc : ∀ w, Calls Tryz.prog 123 #[.agg #[.int .i64 op, .int .i64 rd, .int .i64 rs1, .int .i64 rs2, .int .i64 imm]] w (RCheckDone w 0))
    (hr : ∀ w, Calls Tryz.prog 70 #[.int .i64 op] w (RRowYes w k s ⟨#[69]⟩ a b c)) (hi : ∀ w, Calls Tryz.prog 124 #[(.string ⟨#[69]⟩), .int .i64 imm] w fun e w' => e = .returned (.int .u32 I) ∧ w = w')
    (h1 : 0 ≤ rd ∧ rd ≤ 31) (h2 : 0 ≤ rs1 ∧ rs1 ≤ 31) (h3 : 0 ≤ rs2 ∧ rs2 ≤ 31) (ha : 0 ≤ a) (hb : 0 ≤ b) (hcc : 0 ≤ c) (hI : 0 ≤ I) (hb' : b < 256) (hc' : c < 128) (ht : a + I + rd * 128 + rs1 * 32768 + rs2 * 1048576 < 4294967296) :
    Calls Tryz.prog 85 #[.agg #[.int .i64 op, .int .i64 rd, .int .i64 rs1, .int .i64 rs2, .int .i64 imm]] w (EncDone w (a + I + rd * 128 + rs1 * 32768 + rs2 * 1048576) 0) := by
  have HC := Lib.hid hc
  have HR := Lib.hid hr
  have HI := Lib.hid hi
  have HX0 := Lib.hid (show ∀ j v, #[Value.int .i64 op, .int .i64 rd, .int .i64 rs1, .int .i64 rs2, .int .i64 imm][j]? = some v → (w.alloc (.cells #[.int .i64 op, .int .i64 rd, .int .i64 rs1, .int .i64 rs2, .int .i64 imm] 76)).cell? ⟨w.heap.size, j, none⟩ = some v from fun j v hv => new_cell _ _ _ _ _ _ rfl hv)
  clear hc hr hi
  go_enter Tryz.func85, Tryz.ntmps85
  go_wp2_with (first
    | (go_at_call 123; (with_reducible refine (HC.out _).mono ?_); rintro e w1 ⟨rfl, hbb⟩; have x0 := (hbb.cell (p := ⟨w.heap.size, 0, none⟩) (by simp)).trans (HX0.out 0 (.int .i64 op) rfl); have x1 := (hbb.cell (p := ⟨w.heap.size, 1, none⟩) (by simp)).trans (HX0.out 1 (.int .i64 rd) rfl); have x2 := (hbb.cell (p := ⟨w.heap.size, 2, none⟩) (by simp)).trans (HX0.out 2 (.int .i64 rs1) rfl); have x3 := (hbb.cell (p := ⟨w.heap.size, 3, none⟩) (by simp)).trans (HX0.out 3 (.int .i64 rs2) rfl); have x4 := (hbb.cell (p := ⟨w.heap.size, 4, none⟩) (by simp)).trans (HX0.out 4 (.int .i64 imm) rfl); have HB1 := Lib.hid hbb; have z1 : w.heap.size < w1.heap.size := (by have := hbb.size; simp at this; omega); clear hbb)
    | (go_at_call 70; (with_reducible refine (HR.out _).mono ?_); rintro e w2 ⟨rfl, hbb⟩; have y0 := (hbb.cell (p := ⟨w.heap.size, 0, none⟩) z1).trans x0; have y1 := (hbb.cell (p := ⟨w.heap.size, 1, none⟩) z1).trans x1; have y2 := (hbb.cell (p := ⟨w.heap.size, 2, none⟩) z1).trans x2; have y3 := (hbb.cell (p := ⟨w.heap.size, 3, none⟩) z1).trans x3; have y4 := (hbb.cell (p := ⟨w.heap.size, 4, none⟩) z1).trans x4; have HB2 := Lib.hid hbb; have z2 := hbb.size; have z3 : w.heap.size < w2.heap.size := (by omega); clear hbb))
  have hw : IntKind.u32.wrap (a + I) = a + I := by rw [IntKind.wrap_u32]; omega
  go_quiet ((go_at_call 124; with_reducible exact quiet_left3 (HI.out _)))
  clear hw
  go_wp2

  go_ret2
  refine ⟨ret_int2 ?_ rfl, ?_⟩
  · rfl
  · first
      | exact below_drewN (below_drewN ((((Below.refl _ _).alloc (Nat.le_refl _) _).trans ((HB1.out.trans (HB2.out.mono HB1.out.size)).mono (by simp))).alloc (Nat.le_of_lt z3) _) _) _
      | exact below_drewN ((((Below.refl _ _).alloc (Nat.le_refl _) _).trans ((HB1.out.trans (HB2.out.mono HB1.out.size)).mono (by simp))).alloc (Nat.le_of_lt z3) _) _

end Go.Proofs.YtnaceogkaiodnaaGreat
