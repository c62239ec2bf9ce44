/- The document's own way of layer 3: what is read of a word: contracts, form by form. No condition but what each names. -/
import Derived.Test.YtnaceogkaiodnaaGreatM14
import Derived.Test.YtnaceogkaiodnaaGreatM16
namespace Go.Proofs.YtnaceogkaiodnaaGreat
open Go.RowKit
set_option linter.unusedVariables false
set_option linter.unusedSimpArgs false
theorem five_set {w1 : World} {g : Nat} {t : TypeId} {v0 v1 v2 v3 v4 c0 c1 c2 c3 c4 : Value} (h : w1.heap[g]? = some (.cells #[c0, c1, c2, c3, c4] t (0, 0))) :
    (((((w1.setCell ⟨g, 0, none⟩ v0).setCell ⟨g, 1, none⟩ v1).setCell ⟨g, 2, none⟩ v2).setCell ⟨g, 3, none⟩ v3).setCell ⟨g, 4, none⟩ v4).heap[g]? = some (.cells #[v0, v1, v2, v3, v4] t (0, 0)) := by
  have e0 := heap_setCell_same w1 g 0 _ t v0 h
  have e1 := heap_setCell_same _ g 1 _ t v1 e0
  have e2 := heap_setCell_same _ g 2 _ t v2 e1
  have e3 := heap_setCell_same _ g 3 _ t v3 e2
  have e4 := heap_setCell_same _ g 4 _ t v4 e3
  exact e4
theorem five_below {B : Nat} {w w1 : World} {g : Nat} {v0 v1 v2 v3 v4 : Value} (h : Below B w w1) (hg : B ≤ g) :
    Below B w (((((w1.setCell ⟨g, 0, none⟩ v0).setCell ⟨g, 1, none⟩ v1).setCell ⟨g, 2, none⟩ v2).setCell ⟨g, 3, none⟩ v3).setCell ⟨g, 4, none⟩ v4) :=
  ((((h.setCell (p := ⟨g, 0, none⟩) hg _).setCell (p := ⟨g, 1, none⟩) hg _).setCell (p := ⟨g, 2, none⟩) hg _).setCell (p := ⟨g, 3, none⟩) hg _).setCell (p := ⟨g, 4, none⟩) hg _
theorem block_free {w : World} {g : Nat} {cs : Array Value} {t : TypeId} (h : w.heap[g]? = some (.cells cs t (0, 0))) (j : Nat) : w.frozen? ⟨g, j, none⟩ = false := by simp [World.frozen?, h]
theorem rv_size : (Tryz.prog.info? 76).map (·.size) = some 5 := by kernel_rfl
def ReadsDone (w : World) (y : RvV) (e : Ending) (w' : World) : Prop := e = .returned (.agg #[.int .i64 y.op, .int .i64 y.rd, .int .i64 y.rs1, .int .i64 y.rs2, .int .i64 y.imm]) ∧ Below w.heap.size w w'

set_option maxHeartbeats 2000000 in
set_option maxRecDepth 100000 in
theorem reads_R (op x : Int) (k : Nat) (s : ByteArray) (a b c : Int) (w : World) (hx : 0 ≤ x) (hx' : x < 4294967296)
    (hr : ∀ w, Calls Tryz.prog 70 #[.int .i64 op] w (RRowYes w k s ⟨#[82]⟩ a b c)) :
    Calls Tryz.prog 84 #[.int .i64 op, .int .u32 x] w (ReadsDone w (readsR .R op x)) := by
  have HR := Lib.hid hr
  have ht := fun w => told_R x w hx hx'
  obtain ⟨T, hT⟩ : ∃ T, T = toldV .R x := ⟨_, rfl⟩
  rw [← hT] at ht
  have HT := Lib.hid ht
  have HTT := Lib.hid (show readsR .R op x = ⟨op, x / 128 % 32, x / 32768 % 32, x / 1048576 % 32, T⟩ by rw [hT]; rfl)
  have HX0 := Lib.hid (show ∀ j v, #[Value.int .i64 0, .int .i64 0, .int .i64 0, .int .i64 0, .int .i64 0][j]? = some v → (w.alloc (.cells #[.int .i64 0, .int .i64 0, .int .i64 0, .int .i64 0, .int .i64 0] 76)).cell? ⟨w.heap.size, j, none⟩ = some v from fun j v hv => new_cell _ _ _ _ _ _ rfl hv)
  have HF0 := Lib.hid (show ∀ j, (w.alloc (.cells #[.int .i64 0, .int .i64 0, .int .i64 0, .int .i64 0, .int .i64 0] 76)).frozen? ⟨w.heap.size, j, none⟩ = false from fun j => block_free (heap_alloc_new w _) j)
  have b1 : 0 ≤ x / 128 % 32 ∧ x / 128 % 32 ≤ 31 := by omega
  have b2 : 0 ≤ x / 32768 % 32 ∧ x / 32768 % 32 ≤ 31 := by omega
  have b3 : 0 ≤ x / 1048576 % 32 ∧ x / 1048576 % 32 ≤ 31 := by omega
  clear hr ht hT
  go_enter Tryz.func84, Tryz.ntmps84
  go_wp2_with (first
    | (go_at_call 70; (with_reducible refine (HR.out _).mono ?_); rintro e w1 ⟨rfl, hbb⟩; have HB := Lib.hid hbb; have x0 := (hbb.cell (p := ⟨w.heap.size, 0, none⟩) (by simp)).trans (HX0.out 0 (.int .i64 0) rfl); have x1 := (hbb.cell (p := ⟨w.heap.size, 1, none⟩) (by simp)).trans (HX0.out 1 (.int .i64 0) rfl); have x2 := (hbb.cell (p := ⟨w.heap.size, 2, none⟩) (by simp)).trans (HX0.out 2 (.int .i64 0) rfl); have x3 := (hbb.cell (p := ⟨w.heap.size, 3, none⟩) (by simp)).trans (HX0.out 3 (.int .i64 0) rfl); have x4 := (hbb.cell (p := ⟨w.heap.size, 4, none⟩) (by simp)).trans (HX0.out 4 (.int .i64 0) rfl); have f0 := (hbb.frozen (p := ⟨w.heap.size, 0, none⟩) (by simp)).trans (HF0.out 0); have f1 := (hbb.frozen (p := ⟨w.heap.size, 1, none⟩) (by simp)).trans (HF0.out 1); have f2 := (hbb.frozen (p := ⟨w.heap.size, 2, none⟩) (by simp)).trans (HF0.out 2); have f3 := (hbb.frozen (p := ⟨w.heap.size, 3, none⟩) (by simp)).trans (HF0.out 3); have f4 := (hbb.frozen (p := ⟨w.heap.size, 4, none⟩) (by simp)).trans (HF0.out 4); have z1 : w.heap.size < w1.heap.size := (by have := hbb.size; simp at this; omega); clear hbb)
    | (go_at_call 121; (with_reducible refine (HT.out _).mono ?_); rintro e w' ⟨rfl, rfl⟩)
    | (go_at_call 122; (with_reducible refine (field_7_5 x _ hx hx').mono ?_); rintro e w' ⟨rfl, rfl⟩)
    | (go_at_call 122; (with_reducible refine (field_15_5 x _ hx hx').mono ?_); rintro e w' ⟨rfl, rfl⟩)
    | (go_at_call 122; (with_reducible refine (field_20_5 x _ hx hx').mono ?_); rintro e w' ⟨rfl, rfl⟩))
  have hrow : w1.heap[w.heap.size]? = some (.cells #[.int .i64 0, .int .i64 0, .int .i64 0, .int .i64 0, .int .i64 0] 76 (0, 0)) := (HB.out.block _ (by simp)).trans (heap_alloc_new w _)
  have hrow5 := five_set (v0 := .int .i64 op) (v1 := .int .i64 (x / 128 % 32)) (v2 := .int .i64 (x / 32768 % 32)) (v3 := .int .i64 (x / 1048576 % 32)) (v4 := .int .i64 T) hrow
  have hb5 := five_below (v0 := .int .i64 op) (v1 := .int .i64 (x / 128 % 32)) (v2 := .int .i64 (x / 32768 % 32)) (v3 := .int .i64 (x / 1048576 % 32)) (v4 := .int .i64 T) (((Below.refl _ _).alloc (Nat.le_refl _) _).trans (HB.out.mono (by simp))) (Nat.le_refl w.heap.size)
  have hz5 : w.heap.size < (((((w1.setCell ⟨w.heap.size, 0, none⟩ (.int .i64 op)).setCell ⟨w.heap.size, 1, none⟩ (.int .i64 (x / 128 % 32))).setCell ⟨w.heap.size, 2, none⟩ (.int .i64 (x / 32768 % 32))).setCell ⟨w.heap.size, 3, none⟩ (.int .i64 (x / 1048576 % 32))).setCell ⟨w.heap.size, 4, none⟩ (.int .i64 T)).heap.size := by simpa using z1
  generalize ((((w1.setCell ⟨w.heap.size, 0, none⟩ (.int .i64 op)).setCell ⟨w.heap.size, 1, none⟩ (.int .i64 (x / 128 % 32))).setCell ⟨w.heap.size, 2, none⟩ (.int .i64 (x / 32768 % 32))).setCell ⟨w.heap.size, 3, none⟩ (.int .i64 (x / 1048576 % 32))).setCell ⟨w.heap.size, 4, none⟩ (.int .i64 T) = A at hrow5 hb5 hz5 ⊢
  have h1 := (heap_alloc_old A (.cells #[.string s, .string ⟨#[82]⟩, .int .u32 a, .int .u32 b, .int .u32 c] 116) hz5).trans hrow5
  have hz6 : w.heap.size < (A.alloc (.cells #[.string s, .string ⟨#[82]⟩, .int .u32 a, .int .u32 b, .int .u32 c] 116)).heap.size := by simp; omega
  have hfin := (heap_alloc_old (A.alloc (.cells #[.string s, .string ⟨#[82]⟩, .int .u32 a, .int .u32 b, .int .u32 c] 116)) (.cells #[.int .i64 op, .int .i64 (x / 128 % 32), .int .i64 (x / 32768 % 32), .int .i64 (x / 1048576 % 32), .int .i64 T] 76) hz6).trans h1
  exact bodyPost_ret (v := .agg #[.int .i64 op, .int .i64 (x / 128 % 32), .int .i64 (x / 32768 % 32), .int .i64 (x / 1048576 % 32), .int .i64 T]) (results_cell_row (fn := Tryz.f84) Tryz.results84 _ _ w.heap.size 76 _ (0, 0) _ rfl hfin Tryz.underlying76 rfl rv_size) rfl ⟨by rw [HTT.out], (hb5.alloc (Nat.le_of_lt hz5) _).alloc (Nat.le_of_lt hz6) _⟩

set_option maxHeartbeats 2000000 in
set_option maxRecDepth 100000 in
theorem reads_I (op x : Int) (k : Nat) (s : ByteArray) (a b c : Int) (w : World) (hx : 0 ≤ x) (hx' : x < 4294967296)
    (hr : ∀ w, Calls Tryz.prog 70 #[.int .i64 op] w (RRowYes w k s ⟨#[73]⟩ a b c)) :
    Calls Tryz.prog 84 #[.int .i64 op, .int .u32 x] w (ReadsDone w (readsR .I op x)) := by
  have HR := Lib.hid hr
  have ht := fun w => told_I x w hx hx'
  obtain ⟨T, hT⟩ : ∃ T, T = toldV .I x := ⟨_, rfl⟩
  rw [← hT] at ht
  have HT := Lib.hid ht
  have HTT := Lib.hid (show readsR .I op x = ⟨op, x / 128 % 32, x / 32768 % 32, 0, T⟩ by rw [hT]; rfl)
  have HX0 := Lib.hid (show ∀ j v, #[Value.int .i64 0, .int .i64 0, .int .i64 0, .int .i64 0, .int .i64 0][j]? = some v → (w.alloc (.cells #[.int .i64 0, .int .i64 0, .int .i64 0, .int .i64 0, .int .i64 0] 76)).cell? ⟨w.heap.size, j, none⟩ = some v from fun j v hv => new_cell _ _ _ _ _ _ rfl hv)
  have HF0 := Lib.hid (show ∀ j, (w.alloc (.cells #[.int .i64 0, .int .i64 0, .int .i64 0, .int .i64 0, .int .i64 0] 76)).frozen? ⟨w.heap.size, j, none⟩ = false from fun j => block_free (heap_alloc_new w _) j)
  have b1 : 0 ≤ x / 128 % 32 ∧ x / 128 % 32 ≤ 31 := by omega
  have b2 : 0 ≤ x / 32768 % 32 ∧ x / 32768 % 32 ≤ 31 := by omega
  have b3 : 0 ≤ x / 1048576 % 32 ∧ x / 1048576 % 32 ≤ 31 := by omega
  clear hr ht hT
  go_enter Tryz.func84, Tryz.ntmps84
  go_wp2_with (first
    | (go_at_call 70; (with_reducible refine (HR.out _).mono ?_); rintro e w1 ⟨rfl, hbb⟩; have HB := Lib.hid hbb; have x0 := (hbb.cell (p := ⟨w.heap.size, 0, none⟩) (by simp)).trans (HX0.out 0 (.int .i64 0) rfl); have x1 := (hbb.cell (p := ⟨w.heap.size, 1, none⟩) (by simp)).trans (HX0.out 1 (.int .i64 0) rfl); have x2 := (hbb.cell (p := ⟨w.heap.size, 2, none⟩) (by simp)).trans (HX0.out 2 (.int .i64 0) rfl); have x3 := (hbb.cell (p := ⟨w.heap.size, 3, none⟩) (by simp)).trans (HX0.out 3 (.int .i64 0) rfl); have x4 := (hbb.cell (p := ⟨w.heap.size, 4, none⟩) (by simp)).trans (HX0.out 4 (.int .i64 0) rfl); have f0 := (hbb.frozen (p := ⟨w.heap.size, 0, none⟩) (by simp)).trans (HF0.out 0); have f1 := (hbb.frozen (p := ⟨w.heap.size, 1, none⟩) (by simp)).trans (HF0.out 1); have f2 := (hbb.frozen (p := ⟨w.heap.size, 2, none⟩) (by simp)).trans (HF0.out 2); have f3 := (hbb.frozen (p := ⟨w.heap.size, 3, none⟩) (by simp)).trans (HF0.out 3); have f4 := (hbb.frozen (p := ⟨w.heap.size, 4, none⟩) (by simp)).trans (HF0.out 4); have z1 : w.heap.size < w1.heap.size := (by have := hbb.size; simp at this; omega); clear hbb)
    | (go_at_call 121; (with_reducible refine (HT.out _).mono ?_); rintro e w' ⟨rfl, rfl⟩)
    | (go_at_call 122; (with_reducible refine (field_7_5 x _ hx hx').mono ?_); rintro e w' ⟨rfl, rfl⟩)
    | (go_at_call 122; (with_reducible refine (field_15_5 x _ hx hx').mono ?_); rintro e w' ⟨rfl, rfl⟩))
  have hrow : w1.heap[w.heap.size]? = some (.cells #[.int .i64 0, .int .i64 0, .int .i64 0, .int .i64 0, .int .i64 0] 76 (0, 0)) := (HB.out.block _ (by simp)).trans (heap_alloc_new w _)
  have hrow5 := five_set (v0 := .int .i64 op) (v1 := .int .i64 (x / 128 % 32)) (v2 := .int .i64 (x / 32768 % 32)) (v3 := .int .i64 (0)) (v4 := .int .i64 T) hrow
  have hb5 := five_below (v0 := .int .i64 op) (v1 := .int .i64 (x / 128 % 32)) (v2 := .int .i64 (x / 32768 % 32)) (v3 := .int .i64 (0)) (v4 := .int .i64 T) (((Below.refl _ _).alloc (Nat.le_refl _) _).trans (HB.out.mono (by simp))) (Nat.le_refl w.heap.size)
  have hz5 : w.heap.size < (((((w1.setCell ⟨w.heap.size, 0, none⟩ (.int .i64 op)).setCell ⟨w.heap.size, 1, none⟩ (.int .i64 (x / 128 % 32))).setCell ⟨w.heap.size, 2, none⟩ (.int .i64 (x / 32768 % 32))).setCell ⟨w.heap.size, 3, none⟩ (.int .i64 (0))).setCell ⟨w.heap.size, 4, none⟩ (.int .i64 T)).heap.size := by simpa using z1
  generalize ((((w1.setCell ⟨w.heap.size, 0, none⟩ (.int .i64 op)).setCell ⟨w.heap.size, 1, none⟩ (.int .i64 (x / 128 % 32))).setCell ⟨w.heap.size, 2, none⟩ (.int .i64 (x / 32768 % 32))).setCell ⟨w.heap.size, 3, none⟩ (.int .i64 (0))).setCell ⟨w.heap.size, 4, none⟩ (.int .i64 T) = A at hrow5 hb5 hz5 ⊢
  have h1 := (heap_alloc_old A (.cells #[.string s, .string ⟨#[73]⟩, .int .u32 a, .int .u32 b, .int .u32 c] 116) hz5).trans hrow5
  have hz6 : w.heap.size < (A.alloc (.cells #[.string s, .string ⟨#[73]⟩, .int .u32 a, .int .u32 b, .int .u32 c] 116)).heap.size := by simp; omega
  have hfin := (heap_alloc_old (A.alloc (.cells #[.string s, .string ⟨#[73]⟩, .int .u32 a, .int .u32 b, .int .u32 c] 116)) (.cells #[.int .i64 op, .int .i64 (x / 128 % 32), .int .i64 (x / 32768 % 32), .int .i64 (0), .int .i64 T] 76) hz6).trans h1
  exact bodyPost_ret (v := .agg #[.int .i64 op, .int .i64 (x / 128 % 32), .int .i64 (x / 32768 % 32), .int .i64 (0), .int .i64 T]) (results_cell_row (fn := Tryz.f84) Tryz.results84 _ _ w.heap.size 76 _ (0, 0) _ rfl hfin Tryz.underlying76 rfl rv_size) rfl ⟨by rw [HTT.out], (hb5.alloc (Nat.le_of_lt hz5) _).alloc (Nat.le_of_lt hz6) _⟩

set_option maxHeartbeats 2000000 in
set_option maxRecDepth 100000 in
theorem reads_X (op x : Int) (k : Nat) (s : ByteArray) (a b c : Int) (w : World) (hx : 0 ≤ x) (hx' : x < 4294967296)
    (hr : ∀ w, Calls Tryz.prog 70 #[.int .i64 op] w (RRowYes w k s ⟨#[88]⟩ a b c)) :
    Calls Tryz.prog 84 #[.int .i64 op, .int .u32 x] w (ReadsDone w (readsR .X op x)) := by
  have HR := Lib.hid hr
  have ht := fun w => told_X x w hx hx'
  obtain ⟨T, hT⟩ : ∃ T, T = toldV .X x := ⟨_, rfl⟩
  rw [← hT] at ht
  have HT := Lib.hid ht
  have HTT := Lib.hid (show readsR .X op x = ⟨op, x / 128 % 32, x / 32768 % 32, 0, T⟩ by rw [hT]; rfl)
  have HX0 := Lib.hid (show ∀ j v, #[Value.int .i64 0, .int .i64 0, .int .i64 0, .int .i64 0, .int .i64 0][j]? = some v → (w.alloc (.cells #[.int .i64 0, .int .i64 0, .int .i64 0, .int .i64 0, .int .i64 0] 76)).cell? ⟨w.heap.size, j, none⟩ = some v from fun j v hv => new_cell _ _ _ _ _ _ rfl hv)
  have HF0 := Lib.hid (show ∀ j, (w.alloc (.cells #[.int .i64 0, .int .i64 0, .int .i64 0, .int .i64 0, .int .i64 0] 76)).frozen? ⟨w.heap.size, j, none⟩ = false from fun j => block_free (heap_alloc_new w _) j)
  have b1 : 0 ≤ x / 128 % 32 ∧ x / 128 % 32 ≤ 31 := by omega
  have b2 : 0 ≤ x / 32768 % 32 ∧ x / 32768 % 32 ≤ 31 := by omega
  have b3 : 0 ≤ x / 1048576 % 32 ∧ x / 1048576 % 32 ≤ 31 := by omega
  clear hr ht hT
  go_enter Tryz.func84, Tryz.ntmps84
  go_wp2_with (first
    | (go_at_call 70; (with_reducible refine (HR.out _).mono ?_); rintro e w1 ⟨rfl, hbb⟩; have HB := Lib.hid hbb; have x0 := (hbb.cell (p := ⟨w.heap.size, 0, none⟩) (by simp)).trans (HX0.out 0 (.int .i64 0) rfl); have x1 := (hbb.cell (p := ⟨w.heap.size, 1, none⟩) (by simp)).trans (HX0.out 1 (.int .i64 0) rfl); have x2 := (hbb.cell (p := ⟨w.heap.size, 2, none⟩) (by simp)).trans (HX0.out 2 (.int .i64 0) rfl); have x3 := (hbb.cell (p := ⟨w.heap.size, 3, none⟩) (by simp)).trans (HX0.out 3 (.int .i64 0) rfl); have x4 := (hbb.cell (p := ⟨w.heap.size, 4, none⟩) (by simp)).trans (HX0.out 4 (.int .i64 0) rfl); have f0 := (hbb.frozen (p := ⟨w.heap.size, 0, none⟩) (by simp)).trans (HF0.out 0); have f1 := (hbb.frozen (p := ⟨w.heap.size, 1, none⟩) (by simp)).trans (HF0.out 1); have f2 := (hbb.frozen (p := ⟨w.heap.size, 2, none⟩) (by simp)).trans (HF0.out 2); have f3 := (hbb.frozen (p := ⟨w.heap.size, 3, none⟩) (by simp)).trans (HF0.out 3); have f4 := (hbb.frozen (p := ⟨w.heap.size, 4, none⟩) (by simp)).trans (HF0.out 4); have z1 : w.heap.size < w1.heap.size := (by have := hbb.size; simp at this; omega); clear hbb)
    | (go_at_call 121; (with_reducible refine (HT.out _).mono ?_); rintro e w' ⟨rfl, rfl⟩)
    | (go_at_call 122; (with_reducible refine (field_7_5 x _ hx hx').mono ?_); rintro e w' ⟨rfl, rfl⟩)
    | (go_at_call 122; (with_reducible refine (field_15_5 x _ hx hx').mono ?_); rintro e w' ⟨rfl, rfl⟩))
  have hrow : w1.heap[w.heap.size]? = some (.cells #[.int .i64 0, .int .i64 0, .int .i64 0, .int .i64 0, .int .i64 0] 76 (0, 0)) := (HB.out.block _ (by simp)).trans (heap_alloc_new w _)
  have hrow5 := five_set (v0 := .int .i64 op) (v1 := .int .i64 (x / 128 % 32)) (v2 := .int .i64 (x / 32768 % 32)) (v3 := .int .i64 (0)) (v4 := .int .i64 T) hrow
  have hb5 := five_below (v0 := .int .i64 op) (v1 := .int .i64 (x / 128 % 32)) (v2 := .int .i64 (x / 32768 % 32)) (v3 := .int .i64 (0)) (v4 := .int .i64 T) (((Below.refl _ _).alloc (Nat.le_refl _) _).trans (HB.out.mono (by simp))) (Nat.le_refl w.heap.size)
  have hz5 : w.heap.size < (((((w1.setCell ⟨w.heap.size, 0, none⟩ (.int .i64 op)).setCell ⟨w.heap.size, 1, none⟩ (.int .i64 (x / 128 % 32))).setCell ⟨w.heap.size, 2, none⟩ (.int .i64 (x / 32768 % 32))).setCell ⟨w.heap.size, 3, none⟩ (.int .i64 (0))).setCell ⟨w.heap.size, 4, none⟩ (.int .i64 T)).heap.size := by simpa using z1
  generalize ((((w1.setCell ⟨w.heap.size, 0, none⟩ (.int .i64 op)).setCell ⟨w.heap.size, 1, none⟩ (.int .i64 (x / 128 % 32))).setCell ⟨w.heap.size, 2, none⟩ (.int .i64 (x / 32768 % 32))).setCell ⟨w.heap.size, 3, none⟩ (.int .i64 (0))).setCell ⟨w.heap.size, 4, none⟩ (.int .i64 T) = A at hrow5 hb5 hz5 ⊢
  have h1 := (heap_alloc_old A (.cells #[.string s, .string ⟨#[88]⟩, .int .u32 a, .int .u32 b, .int .u32 c] 116) hz5).trans hrow5
  have hz6 : w.heap.size < (A.alloc (.cells #[.string s, .string ⟨#[88]⟩, .int .u32 a, .int .u32 b, .int .u32 c] 116)).heap.size := by simp; omega
  have hfin := (heap_alloc_old (A.alloc (.cells #[.string s, .string ⟨#[88]⟩, .int .u32 a, .int .u32 b, .int .u32 c] 116)) (.cells #[.int .i64 op, .int .i64 (x / 128 % 32), .int .i64 (x / 32768 % 32), .int .i64 (0), .int .i64 T] 76) hz6).trans h1
  exact bodyPost_ret (v := .agg #[.int .i64 op, .int .i64 (x / 128 % 32), .int .i64 (x / 32768 % 32), .int .i64 (0), .int .i64 T]) (results_cell_row (fn := Tryz.f84) Tryz.results84 _ _ w.heap.size 76 _ (0, 0) _ rfl hfin Tryz.underlying76 rfl rv_size) rfl ⟨by rw [HTT.out], (hb5.alloc (Nat.le_of_lt hz5) _).alloc (Nat.le_of_lt hz6) _⟩

set_option maxHeartbeats 2000000 in
set_option maxRecDepth 100000 in
theorem reads_Y (op x : Int) (k : Nat) (s : ByteArray) (a b c : Int) (w : World) (hx : 0 ≤ x) (hx' : x < 4294967296)
    (hr : ∀ w, Calls Tryz.prog 70 #[.int .i64 op] w (RRowYes w k s ⟨#[89]⟩ a b c)) :
    Calls Tryz.prog 84 #[.int .i64 op, .int .u32 x] w (ReadsDone w (readsR .Y op x)) := by
  have HR := Lib.hid hr
  have ht := fun w => told_Y x w hx hx'
  obtain ⟨T, hT⟩ : ∃ T, T = toldV .Y x := ⟨_, rfl⟩
  rw [← hT] at ht
  have HT := Lib.hid ht
  have HTT := Lib.hid (show readsR .Y op x = ⟨op, x / 128 % 32, x / 32768 % 32, 0, T⟩ by rw [hT]; rfl)
  have HX0 := Lib.hid (show ∀ j v, #[Value.int .i64 0, .int .i64 0, .int .i64 0, .int .i64 0, .int .i64 0][j]? = some v → (w.alloc (.cells #[.int .i64 0, .int .i64 0, .int .i64 0, .int .i64 0, .int .i64 0] 76)).cell? ⟨w.heap.size, j, none⟩ = some v from fun j v hv => new_cell _ _ _ _ _ _ rfl hv)
  have HF0 := Lib.hid (show ∀ j, (w.alloc (.cells #[.int .i64 0, .int .i64 0, .int .i64 0, .int .i64 0, .int .i64 0] 76)).frozen? ⟨w.heap.size, j, none⟩ = false from fun j => block_free (heap_alloc_new w _) j)
  have b1 : 0 ≤ x / 128 % 32 ∧ x / 128 % 32 ≤ 31 := by omega
  have b2 : 0 ≤ x / 32768 % 32 ∧ x / 32768 % 32 ≤ 31 := by omega
  have b3 : 0 ≤ x / 1048576 % 32 ∧ x / 1048576 % 32 ≤ 31 := by omega
  clear hr ht hT
  go_enter Tryz.func84, Tryz.ntmps84
  go_wp2_with (first
    | (go_at_call 70; (with_reducible refine (HR.out _).mono ?_); rintro e w1 ⟨rfl, hbb⟩; have HB := Lib.hid hbb; have x0 := (hbb.cell (p := ⟨w.heap.size, 0, none⟩) (by simp)).trans (HX0.out 0 (.int .i64 0) rfl); have x1 := (hbb.cell (p := ⟨w.heap.size, 1, none⟩) (by simp)).trans (HX0.out 1 (.int .i64 0) rfl); have x2 := (hbb.cell (p := ⟨w.heap.size, 2, none⟩) (by simp)).trans (HX0.out 2 (.int .i64 0) rfl); have x3 := (hbb.cell (p := ⟨w.heap.size, 3, none⟩) (by simp)).trans (HX0.out 3 (.int .i64 0) rfl); have x4 := (hbb.cell (p := ⟨w.heap.size, 4, none⟩) (by simp)).trans (HX0.out 4 (.int .i64 0) rfl); have f0 := (hbb.frozen (p := ⟨w.heap.size, 0, none⟩) (by simp)).trans (HF0.out 0); have f1 := (hbb.frozen (p := ⟨w.heap.size, 1, none⟩) (by simp)).trans (HF0.out 1); have f2 := (hbb.frozen (p := ⟨w.heap.size, 2, none⟩) (by simp)).trans (HF0.out 2); have f3 := (hbb.frozen (p := ⟨w.heap.size, 3, none⟩) (by simp)).trans (HF0.out 3); have f4 := (hbb.frozen (p := ⟨w.heap.size, 4, none⟩) (by simp)).trans (HF0.out 4); have z1 : w.heap.size < w1.heap.size := (by have := hbb.size; simp at this; omega); clear hbb)
    | (go_at_call 121; (with_reducible refine (HT.out _).mono ?_); rintro e w' ⟨rfl, rfl⟩)
    | (go_at_call 122; (with_reducible refine (field_7_5 x _ hx hx').mono ?_); rintro e w' ⟨rfl, rfl⟩)
    | (go_at_call 122; (with_reducible refine (field_15_5 x _ hx hx').mono ?_); rintro e w' ⟨rfl, rfl⟩))
  have hrow : w1.heap[w.heap.size]? = some (.cells #[.int .i64 0, .int .i64 0, .int .i64 0, .int .i64 0, .int .i64 0] 76 (0, 0)) := (HB.out.block _ (by simp)).trans (heap_alloc_new w _)
  have hrow5 := five_set (v0 := .int .i64 op) (v1 := .int .i64 (x / 128 % 32)) (v2 := .int .i64 (x / 32768 % 32)) (v3 := .int .i64 (0)) (v4 := .int .i64 T) hrow
  have hb5 := five_below (v0 := .int .i64 op) (v1 := .int .i64 (x / 128 % 32)) (v2 := .int .i64 (x / 32768 % 32)) (v3 := .int .i64 (0)) (v4 := .int .i64 T) (((Below.refl _ _).alloc (Nat.le_refl _) _).trans (HB.out.mono (by simp))) (Nat.le_refl w.heap.size)
  have hz5 : w.heap.size < (((((w1.setCell ⟨w.heap.size, 0, none⟩ (.int .i64 op)).setCell ⟨w.heap.size, 1, none⟩ (.int .i64 (x / 128 % 32))).setCell ⟨w.heap.size, 2, none⟩ (.int .i64 (x / 32768 % 32))).setCell ⟨w.heap.size, 3, none⟩ (.int .i64 (0))).setCell ⟨w.heap.size, 4, none⟩ (.int .i64 T)).heap.size := by simpa using z1
  generalize ((((w1.setCell ⟨w.heap.size, 0, none⟩ (.int .i64 op)).setCell ⟨w.heap.size, 1, none⟩ (.int .i64 (x / 128 % 32))).setCell ⟨w.heap.size, 2, none⟩ (.int .i64 (x / 32768 % 32))).setCell ⟨w.heap.size, 3, none⟩ (.int .i64 (0))).setCell ⟨w.heap.size, 4, none⟩ (.int .i64 T) = A at hrow5 hb5 hz5 ⊢
  have h1 := (heap_alloc_old A (.cells #[.string s, .string ⟨#[89]⟩, .int .u32 a, .int .u32 b, .int .u32 c] 116) hz5).trans hrow5
  have hz6 : w.heap.size < (A.alloc (.cells #[.string s, .string ⟨#[89]⟩, .int .u32 a, .int .u32 b, .int .u32 c] 116)).heap.size := by simp; omega
  have hfin := (heap_alloc_old (A.alloc (.cells #[.string s, .string ⟨#[89]⟩, .int .u32 a, .int .u32 b, .int .u32 c] 116)) (.cells #[.int .i64 op, .int .i64 (x / 128 % 32), .int .i64 (x / 32768 % 32), .int .i64 (0), .int .i64 T] 76) hz6).trans h1
  exact bodyPost_ret (v := .agg #[.int .i64 op, .int .i64 (x / 128 % 32), .int .i64 (x / 32768 % 32), .int .i64 (0), .int .i64 T]) (results_cell_row (fn := Tryz.f84) Tryz.results84 _ _ w.heap.size 76 _ (0, 0) _ rfl hfin Tryz.underlying76 rfl rv_size) rfl ⟨by rw [HTT.out], (hb5.alloc (Nat.le_of_lt hz5) _).alloc (Nat.le_of_lt hz6) _⟩

set_option maxHeartbeats 2000000 in
set_option maxRecDepth 100000 in
theorem reads_S (op x : Int) (k : Nat) (s : ByteArray) (a b c : Int) (w : World) (hx : 0 ≤ x) (hx' : x < 4294967296)
    (hr : ∀ w, Calls Tryz.prog 70 #[.int .i64 op] w (RRowYes w k s ⟨#[83]⟩ a b c)) :
    Calls Tryz.prog 84 #[.int .i64 op, .int .u32 x] w (ReadsDone w (readsR .S op x)) := by
  have HR := Lib.hid hr
  have ht := fun w => told_S x w hx hx'
  obtain ⟨T, hT⟩ : ∃ T, T = toldV .S x := ⟨_, rfl⟩
  rw [← hT] at ht
  have HT := Lib.hid ht
  have HTT := Lib.hid (show readsR .S op x = ⟨op, 0, x / 32768 % 32, x / 1048576 % 32, T⟩ by rw [hT]; rfl)
  have HX0 := Lib.hid (show ∀ j v, #[Value.int .i64 0, .int .i64 0, .int .i64 0, .int .i64 0, .int .i64 0][j]? = some v → (w.alloc (.cells #[.int .i64 0, .int .i64 0, .int .i64 0, .int .i64 0, .int .i64 0] 76)).cell? ⟨w.heap.size, j, none⟩ = some v from fun j v hv => new_cell _ _ _ _ _ _ rfl hv)
  have HF0 := Lib.hid (show ∀ j, (w.alloc (.cells #[.int .i64 0, .int .i64 0, .int .i64 0, .int .i64 0, .int .i64 0] 76)).frozen? ⟨w.heap.size, j, none⟩ = false from fun j => block_free (heap_alloc_new w _) j)
  have b1 : 0 ≤ x / 128 % 32 ∧ x / 128 % 32 ≤ 31 := by omega
  have b2 : 0 ≤ x / 32768 % 32 ∧ x / 32768 % 32 ≤ 31 := by omega
  have b3 : 0 ≤ x / 1048576 % 32 ∧ x / 1048576 % 32 ≤ 31 := by omega
  clear hr ht hT
  go_enter Tryz.func84, Tryz.ntmps84
  go_wp2_with (first
    | (go_at_call 70; (with_reducible refine (HR.out _).mono ?_); rintro e w1 ⟨rfl, hbb⟩; have HB := Lib.hid hbb; have x0 := (hbb.cell (p := ⟨w.heap.size, 0, none⟩) (by simp)).trans (HX0.out 0 (.int .i64 0) rfl); have x1 := (hbb.cell (p := ⟨w.heap.size, 1, none⟩) (by simp)).trans (HX0.out 1 (.int .i64 0) rfl); have x2 := (hbb.cell (p := ⟨w.heap.size, 2, none⟩) (by simp)).trans (HX0.out 2 (.int .i64 0) rfl); have x3 := (hbb.cell (p := ⟨w.heap.size, 3, none⟩) (by simp)).trans (HX0.out 3 (.int .i64 0) rfl); have x4 := (hbb.cell (p := ⟨w.heap.size, 4, none⟩) (by simp)).trans (HX0.out 4 (.int .i64 0) rfl); have f0 := (hbb.frozen (p := ⟨w.heap.size, 0, none⟩) (by simp)).trans (HF0.out 0); have f1 := (hbb.frozen (p := ⟨w.heap.size, 1, none⟩) (by simp)).trans (HF0.out 1); have f2 := (hbb.frozen (p := ⟨w.heap.size, 2, none⟩) (by simp)).trans (HF0.out 2); have f3 := (hbb.frozen (p := ⟨w.heap.size, 3, none⟩) (by simp)).trans (HF0.out 3); have f4 := (hbb.frozen (p := ⟨w.heap.size, 4, none⟩) (by simp)).trans (HF0.out 4); have z1 : w.heap.size < w1.heap.size := (by have := hbb.size; simp at this; omega); clear hbb)
    | (go_at_call 121; (with_reducible refine (HT.out _).mono ?_); rintro e w' ⟨rfl, rfl⟩)
    | (go_at_call 122; (with_reducible refine (field_15_5 x _ hx hx').mono ?_); rintro e w' ⟨rfl, rfl⟩)
    | (go_at_call 122; (with_reducible refine (field_20_5 x _ hx hx').mono ?_); rintro e w' ⟨rfl, rfl⟩))
  have hrow : w1.heap[w.heap.size]? = some (.cells #[.int .i64 0, .int .i64 0, .int .i64 0, .int .i64 0, .int .i64 0] 76 (0, 0)) := (HB.out.block _ (by simp)).trans (heap_alloc_new w _)
  have hrow5 := five_set (v0 := .int .i64 op) (v1 := .int .i64 (0)) (v2 := .int .i64 (x / 32768 % 32)) (v3 := .int .i64 (x / 1048576 % 32)) (v4 := .int .i64 T) hrow
  have hb5 := five_below (v0 := .int .i64 op) (v1 := .int .i64 (0)) (v2 := .int .i64 (x / 32768 % 32)) (v3 := .int .i64 (x / 1048576 % 32)) (v4 := .int .i64 T) (((Below.refl _ _).alloc (Nat.le_refl _) _).trans (HB.out.mono (by simp))) (Nat.le_refl w.heap.size)
  have hz5 : w.heap.size < (((((w1.setCell ⟨w.heap.size, 0, none⟩ (.int .i64 op)).setCell ⟨w.heap.size, 1, none⟩ (.int .i64 (0))).setCell ⟨w.heap.size, 2, none⟩ (.int .i64 (x / 32768 % 32))).setCell ⟨w.heap.size, 3, none⟩ (.int .i64 (x / 1048576 % 32))).setCell ⟨w.heap.size, 4, none⟩ (.int .i64 T)).heap.size := by simpa using z1
  generalize ((((w1.setCell ⟨w.heap.size, 0, none⟩ (.int .i64 op)).setCell ⟨w.heap.size, 1, none⟩ (.int .i64 (0))).setCell ⟨w.heap.size, 2, none⟩ (.int .i64 (x / 32768 % 32))).setCell ⟨w.heap.size, 3, none⟩ (.int .i64 (x / 1048576 % 32))).setCell ⟨w.heap.size, 4, none⟩ (.int .i64 T) = A at hrow5 hb5 hz5 ⊢
  have h1 := (heap_alloc_old A (.cells #[.string s, .string ⟨#[83]⟩, .int .u32 a, .int .u32 b, .int .u32 c] 116) hz5).trans hrow5
  have hz6 : w.heap.size < (A.alloc (.cells #[.string s, .string ⟨#[83]⟩, .int .u32 a, .int .u32 b, .int .u32 c] 116)).heap.size := by simp; omega
  have hfin := (heap_alloc_old (A.alloc (.cells #[.string s, .string ⟨#[83]⟩, .int .u32 a, .int .u32 b, .int .u32 c] 116)) (.cells #[.int .i64 op, .int .i64 (0), .int .i64 (x / 32768 % 32), .int .i64 (x / 1048576 % 32), .int .i64 T] 76) hz6).trans h1
  exact bodyPost_ret (v := .agg #[.int .i64 op, .int .i64 (0), .int .i64 (x / 32768 % 32), .int .i64 (x / 1048576 % 32), .int .i64 T]) (results_cell_row (fn := Tryz.f84) Tryz.results84 _ _ w.heap.size 76 _ (0, 0) _ rfl hfin Tryz.underlying76 rfl rv_size) rfl ⟨by rw [HTT.out], (hb5.alloc (Nat.le_of_lt hz5) _).alloc (Nat.le_of_lt hz6) _⟩

set_option maxHeartbeats 2000000 in
set_option maxRecDepth 100000 in
theorem reads_B (op x : Int) (k : Nat) (s : ByteArray) (a b c : Int) (w : World) (hx : 0 ≤ x) (hx' : x < 4294967296)
    (hr : ∀ w, Calls Tryz.prog 70 #[.int .i64 op] w (RRowYes w k s ⟨#[66]⟩ a b c)) :
    Calls Tryz.prog 84 #[.int .i64 op, .int .u32 x] w (ReadsDone w (readsR .B op x)) := by
  have HR := Lib.hid hr
  have ht := fun w => told_B x w hx hx'
  obtain ⟨T, hT⟩ : ∃ T, T = toldV .B x := ⟨_, rfl⟩
  rw [← hT] at ht
  have HT := Lib.hid ht
  have HTT := Lib.hid (show readsR .B op x = ⟨op, 0, x / 32768 % 32, x / 1048576 % 32, T⟩ by rw [hT]; rfl)
  have HX0 := Lib.hid (show ∀ j v, #[Value.int .i64 0, .int .i64 0, .int .i64 0, .int .i64 0, .int .i64 0][j]? = some v → (w.alloc (.cells #[.int .i64 0, .int .i64 0, .int .i64 0, .int .i64 0, .int .i64 0] 76)).cell? ⟨w.heap.size, j, none⟩ = some v from fun j v hv => new_cell _ _ _ _ _ _ rfl hv)
  have HF0 := Lib.hid (show ∀ j, (w.alloc (.cells #[.int .i64 0, .int .i64 0, .int .i64 0, .int .i64 0, .int .i64 0] 76)).frozen? ⟨w.heap.size, j, none⟩ = false from fun j => block_free (heap_alloc_new w _) j)
  have b1 : 0 ≤ x / 128 % 32 ∧ x / 128 % 32 ≤ 31 := by omega
  have b2 : 0 ≤ x / 32768 % 32 ∧ x / 32768 % 32 ≤ 31 := by omega
  have b3 : 0 ≤ x / 1048576 % 32 ∧ x / 1048576 % 32 ≤ 31 := by omega
  clear hr ht hT
  go_enter Tryz.func84, Tryz.ntmps84
  go_wp2_with (first
    | (go_at_call 70; (with_reducible refine (HR.out _).mono ?_); rintro e w1 ⟨rfl, hbb⟩; have HB := Lib.hid hbb; have x0 := (hbb.cell (p := ⟨w.heap.size, 0, none⟩) (by simp)).trans (HX0.out 0 (.int .i64 0) rfl); have x1 := (hbb.cell (p := ⟨w.heap.size, 1, none⟩) (by simp)).trans (HX0.out 1 (.int .i64 0) rfl); have x2 := (hbb.cell (p := ⟨w.heap.size, 2, none⟩) (by simp)).trans (HX0.out 2 (.int .i64 0) rfl); have x3 := (hbb.cell (p := ⟨w.heap.size, 3, none⟩) (by simp)).trans (HX0.out 3 (.int .i64 0) rfl); have x4 := (hbb.cell (p := ⟨w.heap.size, 4, none⟩) (by simp)).trans (HX0.out 4 (.int .i64 0) rfl); have f0 := (hbb.frozen (p := ⟨w.heap.size, 0, none⟩) (by simp)).trans (HF0.out 0); have f1 := (hbb.frozen (p := ⟨w.heap.size, 1, none⟩) (by simp)).trans (HF0.out 1); have f2 := (hbb.frozen (p := ⟨w.heap.size, 2, none⟩) (by simp)).trans (HF0.out 2); have f3 := (hbb.frozen (p := ⟨w.heap.size, 3, none⟩) (by simp)).trans (HF0.out 3); have f4 := (hbb.frozen (p := ⟨w.heap.size, 4, none⟩) (by simp)).trans (HF0.out 4); have z1 : w.heap.size < w1.heap.size := (by have := hbb.size; simp at this; omega); clear hbb)
    | (go_at_call 121; (with_reducible refine (HT.out _).mono ?_); rintro e w' ⟨rfl, rfl⟩)
    | (go_at_call 122; (with_reducible refine (field_15_5 x _ hx hx').mono ?_); rintro e w' ⟨rfl, rfl⟩)
    | (go_at_call 122; (with_reducible refine (field_20_5 x _ hx hx').mono ?_); rintro e w' ⟨rfl, rfl⟩))
  have hrow : w1.heap[w.heap.size]? = some (.cells #[.int .i64 0, .int .i64 0, .int .i64 0, .int .i64 0, .int .i64 0] 76 (0, 0)) := (HB.out.block _ (by simp)).trans (heap_alloc_new w _)
  have hrow5 := five_set (v0 := .int .i64 op) (v1 := .int .i64 (0)) (v2 := .int .i64 (x / 32768 % 32)) (v3 := .int .i64 (x / 1048576 % 32)) (v4 := .int .i64 T) hrow
  have hb5 := five_below (v0 := .int .i64 op) (v1 := .int .i64 (0)) (v2 := .int .i64 (x / 32768 % 32)) (v3 := .int .i64 (x / 1048576 % 32)) (v4 := .int .i64 T) (((Below.refl _ _).alloc (Nat.le_refl _) _).trans (HB.out.mono (by simp))) (Nat.le_refl w.heap.size)
  have hz5 : w.heap.size < (((((w1.setCell ⟨w.heap.size, 0, none⟩ (.int .i64 op)).setCell ⟨w.heap.size, 1, none⟩ (.int .i64 (0))).setCell ⟨w.heap.size, 2, none⟩ (.int .i64 (x / 32768 % 32))).setCell ⟨w.heap.size, 3, none⟩ (.int .i64 (x / 1048576 % 32))).setCell ⟨w.heap.size, 4, none⟩ (.int .i64 T)).heap.size := by simpa using z1
  generalize ((((w1.setCell ⟨w.heap.size, 0, none⟩ (.int .i64 op)).setCell ⟨w.heap.size, 1, none⟩ (.int .i64 (0))).setCell ⟨w.heap.size, 2, none⟩ (.int .i64 (x / 32768 % 32))).setCell ⟨w.heap.size, 3, none⟩ (.int .i64 (x / 1048576 % 32))).setCell ⟨w.heap.size, 4, none⟩ (.int .i64 T) = A at hrow5 hb5 hz5 ⊢
  have h1 := (heap_alloc_old A (.cells #[.string s, .string ⟨#[66]⟩, .int .u32 a, .int .u32 b, .int .u32 c] 116) hz5).trans hrow5
  have hz6 : w.heap.size < (A.alloc (.cells #[.string s, .string ⟨#[66]⟩, .int .u32 a, .int .u32 b, .int .u32 c] 116)).heap.size := by simp; omega
  have hfin := (heap_alloc_old (A.alloc (.cells #[.string s, .string ⟨#[66]⟩, .int .u32 a, .int .u32 b, .int .u32 c] 116)) (.cells #[.int .i64 op, .int .i64 (0), .int .i64 (x / 32768 % 32), .int .i64 (x / 1048576 % 32), .int .i64 T] 76) hz6).trans h1
  exact bodyPost_ret (v := .agg #[.int .i64 op, .int .i64 (0), .int .i64 (x / 32768 % 32), .int .i64 (x / 1048576 % 32), .int .i64 T]) (results_cell_row (fn := Tryz.f84) Tryz.results84 _ _ w.heap.size 76 _ (0, 0) _ rfl hfin Tryz.underlying76 rfl rv_size) rfl ⟨by rw [HTT.out], (hb5.alloc (Nat.le_of_lt hz5) _).alloc (Nat.le_of_lt hz6) _⟩

set_option maxHeartbeats 2000000 in
set_option maxRecDepth 100000 in
theorem reads_U (op x : Int) (k : Nat) (s : ByteArray) (a b c : Int) (w : World) (hx : 0 ≤ x) (hx' : x < 4294967296)
    (hr : ∀ w, Calls Tryz.prog 70 #[.int .i64 op] w (RRowYes w k s ⟨#[85]⟩ a b c)) :
    Calls Tryz.prog 84 #[.int .i64 op, .int .u32 x] w (ReadsDone w (readsR .U op x)) := by
  have HR := Lib.hid hr
  have ht := fun w => told_U x w hx hx'
  obtain ⟨T, hT⟩ : ∃ T, T = toldV .U x := ⟨_, rfl⟩
  rw [← hT] at ht
  have HT := Lib.hid ht
  have HTT := Lib.hid (show readsR .U op x = ⟨op, x / 128 % 32, 0, 0, T⟩ by rw [hT]; rfl)
  have HX0 := Lib.hid (show ∀ j v, #[Value.int .i64 0, .int .i64 0, .int .i64 0, .int .i64 0, .int .i64 0][j]? = some v → (w.alloc (.cells #[.int .i64 0, .int .i64 0, .int .i64 0, .int .i64 0, .int .i64 0] 76)).cell? ⟨w.heap.size, j, none⟩ = some v from fun j v hv => new_cell _ _ _ _ _ _ rfl hv)
  have HF0 := Lib.hid (show ∀ j, (w.alloc (.cells #[.int .i64 0, .int .i64 0, .int .i64 0, .int .i64 0, .int .i64 0] 76)).frozen? ⟨w.heap.size, j, none⟩ = false from fun j => block_free (heap_alloc_new w _) j)
  have b1 : 0 ≤ x / 128 % 32 ∧ x / 128 % 32 ≤ 31 := by omega
  have b2 : 0 ≤ x / 32768 % 32 ∧ x / 32768 % 32 ≤ 31 := by omega
  have b3 : 0 ≤ x / 1048576 % 32 ∧ x / 1048576 % 32 ≤ 31 := by omega
  clear hr ht hT
  go_enter Tryz.func84, Tryz.ntmps84
  go_wp2_with (first
    | (go_at_call 70; (with_reducible refine (HR.out _).mono ?_); rintro e w1 ⟨rfl, hbb⟩; have HB := Lib.hid hbb; have x0 := (hbb.cell (p := ⟨w.heap.size, 0, none⟩) (by simp)).trans (HX0.out 0 (.int .i64 0) rfl); have x1 := (hbb.cell (p := ⟨w.heap.size, 1, none⟩) (by simp)).trans (HX0.out 1 (.int .i64 0) rfl); have x2 := (hbb.cell (p := ⟨w.heap.size, 2, none⟩) (by simp)).trans (HX0.out 2 (.int .i64 0) rfl); have x3 := (hbb.cell (p := ⟨w.heap.size, 3, none⟩) (by simp)).trans (HX0.out 3 (.int .i64 0) rfl); have x4 := (hbb.cell (p := ⟨w.heap.size, 4, none⟩) (by simp)).trans (HX0.out 4 (.int .i64 0) rfl); have f0 := (hbb.frozen (p := ⟨w.heap.size, 0, none⟩) (by simp)).trans (HF0.out 0); have f1 := (hbb.frozen (p := ⟨w.heap.size, 1, none⟩) (by simp)).trans (HF0.out 1); have f2 := (hbb.frozen (p := ⟨w.heap.size, 2, none⟩) (by simp)).trans (HF0.out 2); have f3 := (hbb.frozen (p := ⟨w.heap.size, 3, none⟩) (by simp)).trans (HF0.out 3); have f4 := (hbb.frozen (p := ⟨w.heap.size, 4, none⟩) (by simp)).trans (HF0.out 4); have z1 : w.heap.size < w1.heap.size := (by have := hbb.size; simp at this; omega); clear hbb)
    | (go_at_call 121; (with_reducible refine (HT.out _).mono ?_); rintro e w' ⟨rfl, rfl⟩)
    | (go_at_call 122; (with_reducible refine (field_7_5 x _ hx hx').mono ?_); rintro e w' ⟨rfl, rfl⟩))
  have hrow : w1.heap[w.heap.size]? = some (.cells #[.int .i64 0, .int .i64 0, .int .i64 0, .int .i64 0, .int .i64 0] 76 (0, 0)) := (HB.out.block _ (by simp)).trans (heap_alloc_new w _)
  have hrow5 := five_set (v0 := .int .i64 op) (v1 := .int .i64 (x / 128 % 32)) (v2 := .int .i64 (0)) (v3 := .int .i64 (0)) (v4 := .int .i64 T) hrow
  have hb5 := five_below (v0 := .int .i64 op) (v1 := .int .i64 (x / 128 % 32)) (v2 := .int .i64 (0)) (v3 := .int .i64 (0)) (v4 := .int .i64 T) (((Below.refl _ _).alloc (Nat.le_refl _) _).trans (HB.out.mono (by simp))) (Nat.le_refl w.heap.size)
  have hz5 : w.heap.size < (((((w1.setCell ⟨w.heap.size, 0, none⟩ (.int .i64 op)).setCell ⟨w.heap.size, 1, none⟩ (.int .i64 (x / 128 % 32))).setCell ⟨w.heap.size, 2, none⟩ (.int .i64 (0))).setCell ⟨w.heap.size, 3, none⟩ (.int .i64 (0))).setCell ⟨w.heap.size, 4, none⟩ (.int .i64 T)).heap.size := by simpa using z1
  generalize ((((w1.setCell ⟨w.heap.size, 0, none⟩ (.int .i64 op)).setCell ⟨w.heap.size, 1, none⟩ (.int .i64 (x / 128 % 32))).setCell ⟨w.heap.size, 2, none⟩ (.int .i64 (0))).setCell ⟨w.heap.size, 3, none⟩ (.int .i64 (0))).setCell ⟨w.heap.size, 4, none⟩ (.int .i64 T) = A at hrow5 hb5 hz5 ⊢
  have h1 := (heap_alloc_old A (.cells #[.string s, .string ⟨#[85]⟩, .int .u32 a, .int .u32 b, .int .u32 c] 116) hz5).trans hrow5
  have hz6 : w.heap.size < (A.alloc (.cells #[.string s, .string ⟨#[85]⟩, .int .u32 a, .int .u32 b, .int .u32 c] 116)).heap.size := by simp; omega
  have hfin := (heap_alloc_old (A.alloc (.cells #[.string s, .string ⟨#[85]⟩, .int .u32 a, .int .u32 b, .int .u32 c] 116)) (.cells #[.int .i64 op, .int .i64 (x / 128 % 32), .int .i64 (0), .int .i64 (0), .int .i64 T] 76) hz6).trans h1
  exact bodyPost_ret (v := .agg #[.int .i64 op, .int .i64 (x / 128 % 32), .int .i64 (0), .int .i64 (0), .int .i64 T]) (results_cell_row (fn := Tryz.f84) Tryz.results84 _ _ w.heap.size 76 _ (0, 0) _ rfl hfin Tryz.underlying76 rfl rv_size) rfl ⟨by rw [HTT.out], (hb5.alloc (Nat.le_of_lt hz5) _).alloc (Nat.le_of_lt hz6) _⟩

set_option maxHeartbeats 2000000 in
set_option maxRecDepth 100000 in
theorem reads_J (op x : Int) (k : Nat) (s : ByteArray) (a b c : Int) (w : World) (hx : 0 ≤ x) (hx' : x < 4294967296)
    (hr : ∀ w, Calls Tryz.prog 70 #[.int .i64 op] w (RRowYes w k s ⟨#[74]⟩ a b c)) :
    Calls Tryz.prog 84 #[.int .i64 op, .int .u32 x] w (ReadsDone w (readsR .J op x)) := by
  have HR := Lib.hid hr
  have ht := fun w => told_J x w hx hx'
  obtain ⟨T, hT⟩ : ∃ T, T = toldV .J x := ⟨_, rfl⟩
  rw [← hT] at ht
  have HT := Lib.hid ht
  have HTT := Lib.hid (show readsR .J op x = ⟨op, x / 128 % 32, 0, 0, T⟩ by rw [hT]; rfl)
  have HX0 := Lib.hid (show ∀ j v, #[Value.int .i64 0, .int .i64 0, .int .i64 0, .int .i64 0, .int .i64 0][j]? = some v → (w.alloc (.cells #[.int .i64 0, .int .i64 0, .int .i64 0, .int .i64 0, .int .i64 0] 76)).cell? ⟨w.heap.size, j, none⟩ = some v from fun j v hv => new_cell _ _ _ _ _ _ rfl hv)
  have HF0 := Lib.hid (show ∀ j, (w.alloc (.cells #[.int .i64 0, .int .i64 0, .int .i64 0, .int .i64 0, .int .i64 0] 76)).frozen? ⟨w.heap.size, j, none⟩ = false from fun j => block_free (heap_alloc_new w _) j)
  have b1 : 0 ≤ x / 128 % 32 ∧ x / 128 % 32 ≤ 31 := by omega
  have b2 : 0 ≤ x / 32768 % 32 ∧ x / 32768 % 32 ≤ 31 := by omega
  have b3 : 0 ≤ x / 1048576 % 32 ∧ x / 1048576 % 32 ≤ 31 := by omega
  clear hr ht hT
  go_enter Tryz.func84, Tryz.ntmps84
  go_wp2_with (first
    | (go_at_call 70; (with_reducible refine (HR.out _).mono ?_); rintro e w1 ⟨rfl, hbb⟩; have HB := Lib.hid hbb; have x0 := (hbb.cell (p := ⟨w.heap.size, 0, none⟩) (by simp)).trans (HX0.out 0 (.int .i64 0) rfl); have x1 := (hbb.cell (p := ⟨w.heap.size, 1, none⟩) (by simp)).trans (HX0.out 1 (.int .i64 0) rfl); have x2 := (hbb.cell (p := ⟨w.heap.size, 2, none⟩) (by simp)).trans (HX0.out 2 (.int .i64 0) rfl); have x3 := (hbb.cell (p := ⟨w.heap.size, 3, none⟩) (by simp)).trans (HX0.out 3 (.int .i64 0) rfl); have x4 := (hbb.cell (p := ⟨w.heap.size, 4, none⟩) (by simp)).trans (HX0.out 4 (.int .i64 0) rfl); have f0 := (hbb.frozen (p := ⟨w.heap.size, 0, none⟩) (by simp)).trans (HF0.out 0); have f1 := (hbb.frozen (p := ⟨w.heap.size, 1, none⟩) (by simp)).trans (HF0.out 1); have f2 := (hbb.frozen (p := ⟨w.heap.size, 2, none⟩) (by simp)).trans (HF0.out 2); have f3 := (hbb.frozen (p := ⟨w.heap.size, 3, none⟩) (by simp)).trans (HF0.out 3); have f4 := (hbb.frozen (p := ⟨w.heap.size, 4, none⟩) (by simp)).trans (HF0.out 4); have z1 : w.heap.size < w1.heap.size := (by have := hbb.size; simp at this; omega); clear hbb)
    | (go_at_call 121; (with_reducible refine (HT.out _).mono ?_); rintro e w' ⟨rfl, rfl⟩)
    | (go_at_call 122; (with_reducible refine (field_7_5 x _ hx hx').mono ?_); rintro e w' ⟨rfl, rfl⟩))
  have hrow : w1.heap[w.heap.size]? = some (.cells #[.int .i64 0, .int .i64 0, .int .i64 0, .int .i64 0, .int .i64 0] 76 (0, 0)) := (HB.out.block _ (by simp)).trans (heap_alloc_new w _)
  have hrow5 := five_set (v0 := .int .i64 op) (v1 := .int .i64 (x / 128 % 32)) (v2 := .int .i64 (0)) (v3 := .int .i64 (0)) (v4 := .int .i64 T) hrow
  have hb5 := five_below (v0 := .int .i64 op) (v1 := .int .i64 (x / 128 % 32)) (v2 := .int .i64 (0)) (v3 := .int .i64 (0)) (v4 := .int .i64 T) (((Below.refl _ _).alloc (Nat.le_refl _) _).trans (HB.out.mono (by simp))) (Nat.le_refl w.heap.size)
  have hz5 : w.heap.size < (((((w1.setCell ⟨w.heap.size, 0, none⟩ (.int .i64 op)).setCell ⟨w.heap.size, 1, none⟩ (.int .i64 (x / 128 % 32))).setCell ⟨w.heap.size, 2, none⟩ (.int .i64 (0))).setCell ⟨w.heap.size, 3, none⟩ (.int .i64 (0))).setCell ⟨w.heap.size, 4, none⟩ (.int .i64 T)).heap.size := by simpa using z1
  generalize ((((w1.setCell ⟨w.heap.size, 0, none⟩ (.int .i64 op)).setCell ⟨w.heap.size, 1, none⟩ (.int .i64 (x / 128 % 32))).setCell ⟨w.heap.size, 2, none⟩ (.int .i64 (0))).setCell ⟨w.heap.size, 3, none⟩ (.int .i64 (0))).setCell ⟨w.heap.size, 4, none⟩ (.int .i64 T) = A at hrow5 hb5 hz5 ⊢
  have h1 := (heap_alloc_old A (.cells #[.string s, .string ⟨#[74]⟩, .int .u32 a, .int .u32 b, .int .u32 c] 116) hz5).trans hrow5
  have hz6 : w.heap.size < (A.alloc (.cells #[.string s, .string ⟨#[74]⟩, .int .u32 a, .int .u32 b, .int .u32 c] 116)).heap.size := by simp; omega
  have hfin := (heap_alloc_old (A.alloc (.cells #[.string s, .string ⟨#[74]⟩, .int .u32 a, .int .u32 b, .int .u32 c] 116)) (.cells #[.int .i64 op, .int .i64 (x / 128 % 32), .int .i64 (0), .int .i64 (0), .int .i64 T] 76) hz6).trans h1
  exact bodyPost_ret (v := .agg #[.int .i64 op, .int .i64 (x / 128 % 32), .int .i64 (0), .int .i64 (0), .int .i64 T]) (results_cell_row (fn := Tryz.f84) Tryz.results84 _ _ w.heap.size 76 _ (0, 0) _ rfl hfin Tryz.underlying76 rfl rv_size) rfl ⟨by rw [HTT.out], (hb5.alloc (Nat.le_of_lt hz5) _).alloc (Nat.le_of_lt hz6) _⟩

set_option maxHeartbeats 2000000 in
set_option maxRecDepth 100000 in
theorem reads_E (op x : Int) (k : Nat) (s : ByteArray) (a b c : Int) (w : World) (hx : 0 ≤ x) (hx' : x < 4294967296)
    (hr : ∀ w, Calls Tryz.prog 70 #[.int .i64 op] w (RRowYes w k s ⟨#[69]⟩ a b c)) :
    Calls Tryz.prog 84 #[.int .i64 op, .int .u32 x] w (ReadsDone w (readsR .E op x)) := by
  have HR := Lib.hid hr
  have ht := fun w => told_E x w hx hx'
  obtain ⟨T, hT⟩ : ∃ T, T = toldV .E x := ⟨_, rfl⟩
  rw [← hT] at ht
  have HT := Lib.hid ht
  have HTT := Lib.hid (show readsR .E op x = ⟨op, 0, 0, 0, T⟩ by rw [hT]; rfl)
  have HX0 := Lib.hid (show ∀ j v, #[Value.int .i64 0, .int .i64 0, .int .i64 0, .int .i64 0, .int .i64 0][j]? = some v → (w.alloc (.cells #[.int .i64 0, .int .i64 0, .int .i64 0, .int .i64 0, .int .i64 0] 76)).cell? ⟨w.heap.size, j, none⟩ = some v from fun j v hv => new_cell _ _ _ _ _ _ rfl hv)
  have HF0 := Lib.hid (show ∀ j, (w.alloc (.cells #[.int .i64 0, .int .i64 0, .int .i64 0, .int .i64 0, .int .i64 0] 76)).frozen? ⟨w.heap.size, j, none⟩ = false from fun j => block_free (heap_alloc_new w _) j)
  have b1 : 0 ≤ x / 128 % 32 ∧ x / 128 % 32 ≤ 31 := by omega
  have b2 : 0 ≤ x / 32768 % 32 ∧ x / 32768 % 32 ≤ 31 := by omega
  have b3 : 0 ≤ x / 1048576 % 32 ∧ x / 1048576 % 32 ≤ 31 := by omega
  clear hr ht hT
  go_enter Tryz.func84, Tryz.ntmps84
  go_wp2_with (first
    | (go_at_call 70; (with_reducible refine (HR.out _).mono ?_); rintro e w1 ⟨rfl, hbb⟩; have HB := Lib.hid hbb; have x0 := (hbb.cell (p := ⟨w.heap.size, 0, none⟩) (by simp)).trans (HX0.out 0 (.int .i64 0) rfl); have x1 := (hbb.cell (p := ⟨w.heap.size, 1, none⟩) (by simp)).trans (HX0.out 1 (.int .i64 0) rfl); have x2 := (hbb.cell (p := ⟨w.heap.size, 2, none⟩) (by simp)).trans (HX0.out 2 (.int .i64 0) rfl); have x3 := (hbb.cell (p := ⟨w.heap.size, 3, none⟩) (by simp)).trans (HX0.out 3 (.int .i64 0) rfl); have x4 := (hbb.cell (p := ⟨w.heap.size, 4, none⟩) (by simp)).trans (HX0.out 4 (.int .i64 0) rfl); have f0 := (hbb.frozen (p := ⟨w.heap.size, 0, none⟩) (by simp)).trans (HF0.out 0); have f1 := (hbb.frozen (p := ⟨w.heap.size, 1, none⟩) (by simp)).trans (HF0.out 1); have f2 := (hbb.frozen (p := ⟨w.heap.size, 2, none⟩) (by simp)).trans (HF0.out 2); have f3 := (hbb.frozen (p := ⟨w.heap.size, 3, none⟩) (by simp)).trans (HF0.out 3); have f4 := (hbb.frozen (p := ⟨w.heap.size, 4, none⟩) (by simp)).trans (HF0.out 4); have z1 : w.heap.size < w1.heap.size := (by have := hbb.size; simp at this; omega); clear hbb)
    | (go_at_call 121; (with_reducible refine (HT.out _).mono ?_); rintro e w' ⟨rfl, rfl⟩))
  have hrow : w1.heap[w.heap.size]? = some (.cells #[.int .i64 0, .int .i64 0, .int .i64 0, .int .i64 0, .int .i64 0] 76 (0, 0)) := (HB.out.block _ (by simp)).trans (heap_alloc_new w _)
  have hrow5 := five_set (v0 := .int .i64 op) (v1 := .int .i64 (0)) (v2 := .int .i64 (0)) (v3 := .int .i64 (0)) (v4 := .int .i64 T) hrow
  have hb5 := five_below (v0 := .int .i64 op) (v1 := .int .i64 (0)) (v2 := .int .i64 (0)) (v3 := .int .i64 (0)) (v4 := .int .i64 T) (((Below.refl _ _).alloc (Nat.le_refl _) _).trans (HB.out.mono (by simp))) (Nat.le_refl w.heap.size)
  have hz5 : w.heap.size < (((((w1.setCell ⟨w.heap.size, 0, none⟩ (.int .i64 op)).setCell ⟨w.heap.size, 1, none⟩ (.int .i64 (0))).setCell ⟨w.heap.size, 2, none⟩ (.int .i64 (0))).setCell ⟨w.heap.size, 3, none⟩ (.int .i64 (0))).setCell ⟨w.heap.size, 4, none⟩ (.int .i64 T)).heap.size := by simpa using z1
  generalize ((((w1.setCell ⟨w.heap.size, 0, none⟩ (.int .i64 op)).setCell ⟨w.heap.size, 1, none⟩ (.int .i64 (0))).setCell ⟨w.heap.size, 2, none⟩ (.int .i64 (0))).setCell ⟨w.heap.size, 3, none⟩ (.int .i64 (0))).setCell ⟨w.heap.size, 4, none⟩ (.int .i64 T) = A at hrow5 hb5 hz5 ⊢
  have h1 := (heap_alloc_old A (.cells #[.string s, .string ⟨#[69]⟩, .int .u32 a, .int .u32 b, .int .u32 c] 116) hz5).trans hrow5
  have hz6 : w.heap.size < (A.alloc (.cells #[.string s, .string ⟨#[69]⟩, .int .u32 a, .int .u32 b, .int .u32 c] 116)).heap.size := by simp; omega
  have hfin := (heap_alloc_old (A.alloc (.cells #[.string s, .string ⟨#[69]⟩, .int .u32 a, .int .u32 b, .int .u32 c] 116)) (.cells #[.int .i64 op, .int .i64 (0), .int .i64 (0), .int .i64 (0), .int .i64 T] 76) hz6).trans h1
  exact bodyPost_ret (v := .agg #[.int .i64 op, .int .i64 (0), .int .i64 (0), .int .i64 (0), .int .i64 T]) (results_cell_row (fn := Tryz.f84) Tryz.results84 _ _ w.heap.size 76 _ (0, 0) _ rfl hfin Tryz.underlying76 rfl rv_size) rfl ⟨by rw [HTT.out], (hb5.alloc (Nat.le_of_lt hz5) _).alloc (Nat.le_of_lt hz6) _⟩

end Go.Proofs.YtnaceogkaiodnaaGreat
