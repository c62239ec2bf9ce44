/- The document's own way of layer 3: which instructions may be (UJE): contracts, form by form. No condition but what each names. -/
import Derived.Test.YtnaceogkaiodnaaGreatM14
import Derived.Test.YtnaceogkaiodnaaGreatM16
namespace Go.Proofs.YtnaceogkaiodnaaGreat
open Go.RowKit
set_option linter.unusedVariables false
set_option linter.unusedSimpArgs false

set_option maxHeartbeats 2000000 in
set_option maxRecDepth 100000 in
theorem rcheck_U_0 (op rd rs1 rs2 imm : Int) (k : Nat) (s : ByteArray) (a b c : Int) (w : World) (hr : ∀ w, Calls Tryz.prog 70 #[.int .i64 op] w (RRowYes w k s ⟨#[85]⟩ a b c)) (h0 : ∀ w, Calls Tryz.prog 143 #[.int .i64 rd, .bool true] w (SaysB w true)) (h1 : ∀ w, Calls Tryz.prog 143 #[.int .i64 rs1, .bool false] w (SaysB w true)) (h2 : ∀ w, Calls Tryz.prog 143 #[.int .i64 rs2, .bool false] w (SaysB w true)) (h3 : ∀ w, Calls Tryz.prog 144 #[(.string ⟨#[85]⟩), .int .i64 imm] w (SaysB w true)) :
    Calls Tryz.prog 123 #[.agg #[.int .i64 op, .int .i64 rd, .int .i64 rs1, .int .i64 rs2, .int .i64 imm]] w (RCheckDone w 0) := by
  have HR := Lib.hid hr
  have HX0 := Lib.hid (show ∀ j v, #[Value.int .i64 op, .int .i64 rd, .int .i64 rs1, .int .i64 rs2, .int .i64 imm][j]? = some v → (w.alloc (.cells #[.int .i64 op, .int .i64 rd, .int .i64 rs1, .int .i64 rs2, .int .i64 imm] 76)).cell? ⟨w.heap.size, j, none⟩ = some v from fun j v hv => new_cell _ _ _ _ _ _ rfl hv)
  have H0 := Lib.hid h0
  have H1 := Lib.hid h1
  have H2 := Lib.hid h2
  have H3 := Lib.hid h3
  clear hr h0 h1 h2 h3
  go_enter Tryz.func123, Tryz.ntmps123
  go_wp2_with (first
    | (go_at_call 70; (with_reducible refine (HR.out _).mono ?_); rintro e w1 ⟨rfl, hb⟩; have x0 := (hb.cell (p := ⟨w.heap.size, 0, none⟩) (by simp)).trans (HX0.out 0 _ rfl); have x1 := (hb.cell (p := ⟨w.heap.size, 1, none⟩) (by simp)).trans (HX0.out 1 _ rfl); have x2 := (hb.cell (p := ⟨w.heap.size, 2, none⟩) (by simp)).trans (HX0.out 2 _ rfl); have x3 := (hb.cell (p := ⟨w.heap.size, 3, none⟩) (by simp)).trans (HX0.out 3 _ rfl); have x4 := (hb.cell (p := ⟨w.heap.size, 4, none⟩) (by simp)).trans (HX0.out 4 _ rfl); have HB := Lib.hid hb; have zz : w.heap.size < w1.heap.size := (by have := hb.size; simp at this; omega); clear hb)
    | (go_at_call 143; (with_reducible refine (H0.out _).mono ?_); rintro e w' ⟨rfl, rfl⟩)
    | (go_at_call 143; (with_reducible refine (H1.out _).mono ?_); rintro e w' ⟨rfl, rfl⟩)
    | (go_at_call 143; (with_reducible refine (H2.out _).mono ?_); rintro e w' ⟨rfl, rfl⟩)
    | (go_at_call 144; (with_reducible refine (H3.out _).mono ?_); rintro e w' ⟨rfl, rfl⟩))
  go_ret
  exact ⟨rfl, (((Below.refl _ _).alloc (Nat.le_refl _) _).trans (HB.out.mono (by simp))).alloc (Nat.le_of_lt zz) _⟩

set_option maxHeartbeats 2000000 in
set_option maxRecDepth 100000 in
theorem rcheck_J_0 (op rd rs1 rs2 imm : Int) (k : Nat) (s : ByteArray) (a b c : Int) (w : World) (hr : ∀ w, Calls Tryz.prog 70 #[.int .i64 op] w (RRowYes w k s ⟨#[74]⟩ a b c)) (h0 : ∀ w, Calls Tryz.prog 143 #[.int .i64 rd, .bool true] w (SaysB w true)) (h1 : ∀ w, Calls Tryz.prog 143 #[.int .i64 rs1, .bool false] w (SaysB w true)) (h2 : ∀ w, Calls Tryz.prog 143 #[.int .i64 rs2, .bool false] w (SaysB w true)) (h3 : ∀ w, Calls Tryz.prog 144 #[(.string ⟨#[74]⟩), .int .i64 imm] w (SaysB w true)) :
    Calls Tryz.prog 123 #[.agg #[.int .i64 op, .int .i64 rd, .int .i64 rs1, .int .i64 rs2, .int .i64 imm]] w (RCheckDone w 0) := by
  have HR := Lib.hid hr
  have HX0 := Lib.hid (show ∀ j v, #[Value.int .i64 op, .int .i64 rd, .int .i64 rs1, .int .i64 rs2, .int .i64 imm][j]? = some v → (w.alloc (.cells #[.int .i64 op, .int .i64 rd, .int .i64 rs1, .int .i64 rs2, .int .i64 imm] 76)).cell? ⟨w.heap.size, j, none⟩ = some v from fun j v hv => new_cell _ _ _ _ _ _ rfl hv)
  have H0 := Lib.hid h0
  have H1 := Lib.hid h1
  have H2 := Lib.hid h2
  have H3 := Lib.hid h3
  clear hr h0 h1 h2 h3
  go_enter Tryz.func123, Tryz.ntmps123
  go_wp2_with (first
    | (go_at_call 70; (with_reducible refine (HR.out _).mono ?_); rintro e w1 ⟨rfl, hb⟩; have x0 := (hb.cell (p := ⟨w.heap.size, 0, none⟩) (by simp)).trans (HX0.out 0 _ rfl); have x1 := (hb.cell (p := ⟨w.heap.size, 1, none⟩) (by simp)).trans (HX0.out 1 _ rfl); have x2 := (hb.cell (p := ⟨w.heap.size, 2, none⟩) (by simp)).trans (HX0.out 2 _ rfl); have x3 := (hb.cell (p := ⟨w.heap.size, 3, none⟩) (by simp)).trans (HX0.out 3 _ rfl); have x4 := (hb.cell (p := ⟨w.heap.size, 4, none⟩) (by simp)).trans (HX0.out 4 _ rfl); have HB := Lib.hid hb; have zz : w.heap.size < w1.heap.size := (by have := hb.size; simp at this; omega); clear hb)
    | (go_at_call 143; (with_reducible refine (H0.out _).mono ?_); rintro e w' ⟨rfl, rfl⟩)
    | (go_at_call 143; (with_reducible refine (H1.out _).mono ?_); rintro e w' ⟨rfl, rfl⟩)
    | (go_at_call 143; (with_reducible refine (H2.out _).mono ?_); rintro e w' ⟨rfl, rfl⟩)
    | (go_at_call 144; (with_reducible refine (H3.out _).mono ?_); rintro e w' ⟨rfl, rfl⟩))
  go_ret
  exact ⟨rfl, (((Below.refl _ _).alloc (Nat.le_refl _) _).trans (HB.out.mono (by simp))).alloc (Nat.le_of_lt zz) _⟩

set_option maxHeartbeats 2000000 in
set_option maxRecDepth 100000 in
theorem rcheck_E_0 (op rd rs1 rs2 imm : Int) (k : Nat) (s : ByteArray) (a b c : Int) (w : World) (hr : ∀ w, Calls Tryz.prog 70 #[.int .i64 op] w (RRowYes w k s ⟨#[69]⟩ a b c)) (h0 : ∀ w, Calls Tryz.prog 143 #[.int .i64 rd, .bool false] w (SaysB w true)) (h1 : ∀ w, Calls Tryz.prog 143 #[.int .i64 rs1, .bool false] w (SaysB w true)) (h2 : ∀ w, Calls Tryz.prog 143 #[.int .i64 rs2, .bool false] w (SaysB w true)) (h3 : ∀ w, Calls Tryz.prog 144 #[(.string ⟨#[69]⟩), .int .i64 imm] w (SaysB w true)) :
    Calls Tryz.prog 123 #[.agg #[.int .i64 op, .int .i64 rd, .int .i64 rs1, .int .i64 rs2, .int .i64 imm]] w (RCheckDone w 0) := by
  have HR := Lib.hid hr
  have HX0 := Lib.hid (show ∀ j v, #[Value.int .i64 op, .int .i64 rd, .int .i64 rs1, .int .i64 rs2, .int .i64 imm][j]? = some v → (w.alloc (.cells #[.int .i64 op, .int .i64 rd, .int .i64 rs1, .int .i64 rs2, .int .i64 imm] 76)).cell? ⟨w.heap.size, j, none⟩ = some v from fun j v hv => new_cell _ _ _ _ _ _ rfl hv)
  have H0 := Lib.hid h0
  have H1 := Lib.hid h1
  have H2 := Lib.hid h2
  have H3 := Lib.hid h3
  clear hr h0 h1 h2 h3
  go_enter Tryz.func123, Tryz.ntmps123
  go_wp2_with (first
    | (go_at_call 70; (with_reducible refine (HR.out _).mono ?_); rintro e w1 ⟨rfl, hb⟩; have x0 := (hb.cell (p := ⟨w.heap.size, 0, none⟩) (by simp)).trans (HX0.out 0 _ rfl); have x1 := (hb.cell (p := ⟨w.heap.size, 1, none⟩) (by simp)).trans (HX0.out 1 _ rfl); have x2 := (hb.cell (p := ⟨w.heap.size, 2, none⟩) (by simp)).trans (HX0.out 2 _ rfl); have x3 := (hb.cell (p := ⟨w.heap.size, 3, none⟩) (by simp)).trans (HX0.out 3 _ rfl); have x4 := (hb.cell (p := ⟨w.heap.size, 4, none⟩) (by simp)).trans (HX0.out 4 _ rfl); have HB := Lib.hid hb; have zz : w.heap.size < w1.heap.size := (by have := hb.size; simp at this; omega); clear hb)
    | (go_at_call 143; (with_reducible refine (H0.out _).mono ?_); rintro e w' ⟨rfl, rfl⟩)
    | (go_at_call 143; (with_reducible refine (H1.out _).mono ?_); rintro e w' ⟨rfl, rfl⟩)
    | (go_at_call 143; (with_reducible refine (H2.out _).mono ?_); rintro e w' ⟨rfl, rfl⟩)
    | (go_at_call 144; (with_reducible refine (H3.out _).mono ?_); rintro e w' ⟨rfl, rfl⟩))
  go_ret
  exact ⟨rfl, (((Below.refl _ _).alloc (Nat.le_refl _) _).trans (HB.out.mono (by simp))).alloc (Nat.le_of_lt zz) _⟩

end Go.Proofs.YtnaceogkaiodnaaGreat
