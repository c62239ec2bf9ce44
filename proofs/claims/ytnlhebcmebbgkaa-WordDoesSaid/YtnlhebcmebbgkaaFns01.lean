/- What each function of package word's table returns, and what the document's way returns: contracts of the Go functions of numbers of 64 bits. Each is said for all numbers of 64 bits (a division's own case of zero apart), in whatever memory; memory stays as it was, but for the table's own new block. -/
import Derived.Test.YtnlhebcmebbgkaaRows
import Derived.Test.YtnlhebcmebbgkaaMath01
import Derived.WalkKit
import Derived.WalkSpells
import Derived.WalkLawsBesides
import Derived.ProofKit
import Derived.Lib.Hide
import Derived.Deep.WholeRow
namespace Go.Proofs.Ytnlhebcmebbgkaa
open Go.RowKit
set_option linter.unusedVariables false

theorem fAdd (a b : Int) (w : World)  :
    Calls Try.prog 37 #[.int .u64 a, .int .u64 b] w fun e w' => e = .returned (.int .u64 (doV 1 a b)) ∧ w = w' := by
  go_enter Try.func37, Try.ntmps37
  go_wp2
  go_ret
  exact ⟨ret_int (by simp [doV, IntKind.wrap_u64]), rfl⟩

theorem fSub (a b : Int) (w : World)  :
    Calls Try.prog 38 #[.int .u64 a, .int .u64 b] w fun e w' => e = .returned (.int .u64 (doV 2 a b)) ∧ w = w' := by
  go_enter Try.func38, Try.ntmps38
  go_wp2
  go_ret
  exact ⟨ret_int (by simp [doV, IntKind.wrap_u64]), rfl⟩

theorem fMul (a b : Int) (w : World)  :
    Calls Try.prog 39 #[.int .u64 a, .int .u64 b] w fun e w' => e = .returned (.int .u64 (doV 3 a b)) ∧ w = w' := by
  go_enter Try.func39, Try.ntmps39
  go_wp2
  go_ret
  exact ⟨ret_int (by simp [doV, IntKind.wrap_u64]), rfl⟩

theorem fAnd (a b : Int) (w : World)  :
    Calls Try.prog 48 #[.int .u64 a, .int .u64 b] w fun e w' => e = .returned (.int .u64 (doV 11 a b)) ∧ w = w' := by
  go_enter Try.func48, Try.ntmps48
  go_wp2
  go_ret
  exact ⟨ret_int (by simp [doV]), rfl⟩

theorem fOr (a b : Int) (w : World)  :
    Calls Try.prog 49 #[.int .u64 a, .int .u64 b] w fun e w' => e = .returned (.int .u64 (doV 12 a b)) ∧ w = w' := by
  go_enter Try.func49, Try.ntmps49
  go_wp2
  go_ret
  exact ⟨ret_int (by simp [doV]), rfl⟩

theorem fXor (a b : Int) (w : World)  :
    Calls Try.prog 50 #[.int .u64 a, .int .u64 b] w fun e w' => e = .returned (.int .u64 (doV 13 a b)) ∧ w = w' := by
  go_enter Try.func50, Try.ntmps50
  go_wp2
  go_ret
  exact ⟨ret_int (by simp [doV]), rfl⟩

theorem fShl (a b : Int) (w : World) (ha : 0 ≤ a) (ha' : a < 18446744073709551616) (hb : 0 ≤ b) (hb' : b < 18446744073709551616) :
    Calls Try.prog 51 #[.int .u64 a, .int .u64 b] w fun e w' => e = .returned (.int .u64 (doV 14 a b)) ∧ w = w' := by
  go_enter Try.func51, Try.ntmps51
  go_wp2
  go_ret
  exact ⟨ret_int (by simp [doV, shlV, IntKind.wrap_u64]), rfl⟩

theorem fShr (a b : Int) (w : World) (ha : 0 ≤ a) (ha' : a < 18446744073709551616) (hb : 0 ≤ b) (hb' : b < 18446744073709551616) :
    Calls Try.prog 52 #[.int .u64 a, .int .u64 b] w fun e w' => e = .returned (.int .u64 (doV 15 a b)) ∧ w = w' := by
  go_enter Try.func52, Try.ntmps52
  go_wp2
  go_ret
  exact ⟨ret_int (by simp [doV, shrV]), rfl⟩

theorem fSar (a b : Int) (w : World) (ha : 0 ≤ a) (ha' : a < 18446744073709551616) (hb : 0 ≤ b) (hb' : b < 18446744073709551616) :
    Calls Try.prog 53 #[.int .u64 a, .int .u64 b] w fun e w' => e = .returned (.int .u64 (doV 16 a b)) ∧ w = w' := by
  go_enter Try.func53, Try.ntmps53
  go_wp2
  go_ret
  exact ⟨ret_int (by simp [doV, sarV, IntKind.wrap_u64, wrap64_sg ha ha']), rfl⟩

theorem mul64_any (a b : Int) (w : World) (ha : 0 ≤ a) (ha' : a < 18446744073709551616) (hb : 0 ≤ b) (hb' : b < 18446744073709551616) :
    Calls Try.prog 64 #[.int .u64 a, .int .u64 b] w fun e w' => e = .returned (.tuple #[.int .u64 (mulhuV a b), .int .u64 (a * b % 18446744073709551616)]) ∧ w = w' := by
  have hl := and_low32 a ha ha'
  have hr := and_low32 b hb hb'
  have key := mul64_arith a b ha ha' hb hb'
  have hm : ∀ z : Int, bits .and .u64 (z % 18446744073709551616) 4294967295 = z % 18446744073709551616 % 4294967296 := fun z => and_low32 _ (by omega) (by omega)
  have Hl := Lib.hid hl
  have Hr := Lib.hid hr
  have Hk := Lib.hid key
  have Hm := Lib.hid hm
  clear hl hr key hm
  go_enter Try.func64, Try.ntmps64
  go_wp2
  go_ret2
  refine ⟨ret_int2 ?_ ?_, rfl⟩
  · simp only [IntKind.wrap_u64, Hl.out, Hr.out, Hm.out]
    exact Hk.out
  · exact IntKind.wrap_u64 _
theorem upper_any (a b : Int) (w : World) (ha : 0 ≤ a) (ha' : a < 18446744073709551616) (hb : 0 ≤ b) (hb' : b < 18446744073709551616) :
    Calls Try.prog 41 #[.int .u64 a, .int .u64 b] w fun e w' => e = .returned (.int .u64 (doV 5 a b)) ∧ w = w' := by
  go_enter Try.func41, Try.ntmps41
  go_wp2_with (go_at_call 64; refine (mul64_any _ _ _ ha ha' hb hb').mono ?_; rintro e w' ⟨rfl, rfl⟩)
  go_ret
  exact ⟨ret_int (by simp [doV]), rfl⟩
theorem below_any (a b : Int) (w : World) (ha : 0 ≤ a) (ha' : a < 18446744073709551616) (hb : 0 ≤ b) (hb' : b < 18446744073709551616) :
    Calls Try.prog 42 #[.int .u64 a, .int .u64 b] w fun e w' => e = .returned (.int .u64 (low0 a b)) ∧ w = w' := by
  have hs := wrap64_sg ha ha'
  by_cases hc : a < 9223372036854775808
  · have h1 : ¬ wrap64 a < 0 := by rw [hs]; unfold sg; rw [if_pos hc]; omega
    have hd : decide (wrap64 a < 0) = false := by simpa using h1
    have Hc := Lib.hid hc
    clear hs h1 hc
    go_enter Try.func42, Try.ntmps42
    go_wp2
    go_ret
    exact ⟨ret_int (by unfold low0; rw [if_pos Hc.out]), rfl⟩
  · have h1 : wrap64 a < 0 := by rw [hs]; unfold sg; rw [if_neg hc]; omega
    have hd : decide (wrap64 a < 0) = true := by simpa using h1
    have Hc := Lib.hid hc
    clear hs h1 hc
    go_enter Try.func42, Try.ntmps42
    go_wp2
    go_ret
    exact ⟨ret_int (by unfold low0; rw [if_neg (by have := Hc.out; omega)]), rfl⟩

theorem fMulh (a b : Int) (w : World) (ha : 0 ≤ a) (ha' : a < 18446744073709551616) (hb : 0 ≤ b) (hb' : b < 18446744073709551616) :
    Calls Try.prog 40 #[.int .u64 a, .int .u64 b] w fun e w' => e = .returned (.int .u64 (doV 4 a b)) ∧ w = w' := by
  go_enter Try.func40, Try.ntmps40
  go_wp2_with (first
    | (go_at_call 41; refine (upper_any _ _ _ (by omega) (by omega) (by omega) (by omega)).mono ?_; rintro e w' ⟨rfl, rfl⟩)
    | (go_at_call 42; refine (below_any _ _ _ (by omega) (by omega) (by omega) (by omega)).mono ?_; rintro e w' ⟨rfl, rfl⟩))
  go_ret
  exact ⟨ret_int (by simp [doV, mulhV, IntKind.wrap_u64]), rfl⟩

theorem fMulhsu (a b : Int) (w : World) (ha : 0 ≤ a) (ha' : a < 18446744073709551616) (hb : 0 ≤ b) (hb' : b < 18446744073709551616) :
    Calls Try.prog 43 #[.int .u64 a, .int .u64 b] w fun e w' => e = .returned (.int .u64 (doV 6 a b)) ∧ w = w' := by
  go_enter Try.func43, Try.ntmps43
  go_wp2_with (first
    | (go_at_call 41; refine (upper_any _ _ _ (by omega) (by omega) (by omega) (by omega)).mono ?_; rintro e w' ⟨rfl, rfl⟩)
    | (go_at_call 42; refine (below_any _ _ _ (by omega) (by omega) (by omega) (by omega)).mono ?_; rintro e w' ⟨rfl, rfl⟩))
  go_ret
  exact ⟨ret_int (by simp [doV, mulhsuV, IntKind.wrap_u64]), rfl⟩

theorem truth_any (b : Bool) (w : World) :
    Calls Try.prog 55 #[.bool b] w fun e w' => e = .returned (.int .u64 (bitV b)) ∧ w = w' := by
  cases b
  · go_enter Try.func55, Try.ntmps55
    go_wp2
    go_ret
    exact ⟨rfl, rfl⟩
  · go_enter Try.func55, Try.ntmps55
    go_wp2
    go_ret
    exact ⟨rfl, rfl⟩

theorem fLt (a b : Int) (w : World) (ha : 0 ≤ a) (ha' : a < 18446744073709551616) (hb : 0 ≤ b) (hb' : b < 18446744073709551616) :
    Calls Try.prog 54 #[.int .u64 a, .int .u64 b] w fun e w' => e = .returned (.int .u64 (doV 17 a b)) ∧ w = w' := by
  go_enter Try.func54, Try.ntmps54
  go_wp2_with (go_at_call 55; refine (truth_any _ _).mono ?_; rintro e w' ⟨rfl, rfl⟩)
  go_ret
  exact ⟨ret_int (by simp [doV, wrap64_sg ha ha', wrap64_sg hb hb']), rfl⟩

theorem fLtu (a b : Int) (w : World) (ha : 0 ≤ a) (ha' : a < 18446744073709551616) (hb : 0 ≤ b) (hb' : b < 18446744073709551616) :
    Calls Try.prog 56 #[.int .u64 a, .int .u64 b] w fun e w' => e = .returned (.int .u64 (doV 18 a b)) ∧ w = w' := by
  go_enter Try.func56, Try.ntmps56
  go_wp2_with (go_at_call 55; refine (truth_any _ _).mono ?_; rintro e w' ⟨rfl, rfl⟩)
  go_ret
  exact ⟨ret_int (by simp [doV]), rfl⟩

theorem fEq (a b : Int) (w : World) (ha : 0 ≤ a) (ha' : a < 18446744073709551616) (hb : 0 ≤ b) (hb' : b < 18446744073709551616) :
    Calls Try.prog 57 #[.int .u64 a, .int .u64 b] w fun e w' => e = .returned (.int .u64 (doV 19 a b)) ∧ w = w' := by
  go_enter Try.func57, Try.ntmps57
  go_wp2_with (go_at_call 55; refine (truth_any _ _).mono ?_; rintro e w' ⟨rfl, rfl⟩)
  go_ret
  exact ⟨ret_int (by simp [doV]), rfl⟩

theorem fNe (a b : Int) (w : World) (ha : 0 ≤ a) (ha' : a < 18446744073709551616) (hb : 0 ≤ b) (hb' : b < 18446744073709551616) :
    Calls Try.prog 58 #[.int .u64 a, .int .u64 b] w fun e w' => e = .returned (.int .u64 (doV 20 a b)) ∧ w = w' := by
  go_enter Try.func58, Try.ntmps58
  go_wp2_with (go_at_call 55; refine (truth_any _ _).mono ?_; rintro e w' ⟨rfl, rfl⟩)
  go_ret
  exact ⟨ret_int (by simp [doV, bne]), rfl⟩

theorem fDiv_zero (a : Int) (w : World) :
    Calls Try.prog 44 #[.int .u64 a, .int .u64 0] w fun e w' => e = .returned (.int .u64 (doV 7 a 0)) ∧ w = w' := by
  go_enter Try.func44, Try.ntmps44
  go_wp2
  go_ret
  exact ⟨ret_int (by simp [doV, divV]), rfl⟩
theorem fDiv (a b : Int) (w : World) (ha : 0 ≤ a) (ha' : a < 18446744073709551616) (hb : 0 ≤ b) (hb' : b < 18446744073709551616) :
    Calls Try.prog 44 #[.int .u64 a, .int .u64 b] w fun e w' => e = .returned (.int .u64 (doV 7 a b)) ∧ w = w' := by
  by_cases h0 : b = 0
  · subst h0
    exact fDiv_zero a w
  · have h1 : (b == 0) = false := by simpa using h0
    have hz : wrap64 b ≠ 0 := by rw [wrap64_sg hb hb']; exact sg_zero hb hb' h0
    have hz' : (wrap64 b == 0) = false := by simpa using hz
    go_enter Try.func44, Try.ntmps44
    go_wp2
    go_ret
    exact ⟨ret_int (by simp [doV, divV, h0, IntKind.wrap_u64, u64_wrap64, wrap64_sg ha ha', wrap64_sg hb hb']), rfl⟩

theorem fDivu_zero (a : Int) (w : World) :
    Calls Try.prog 45 #[.int .u64 a, .int .u64 0] w fun e w' => e = .returned (.int .u64 (doV 8 a 0)) ∧ w = w' := by
  go_enter Try.func45, Try.ntmps45
  go_wp2
  go_ret
  exact ⟨ret_int (by simp [doV, divuV]), rfl⟩
theorem fDivu (a b : Int) (w : World) (ha : 0 ≤ a) (ha' : a < 18446744073709551616) (hb : 0 ≤ b) (hb' : b < 18446744073709551616) :
    Calls Try.prog 45 #[.int .u64 a, .int .u64 b] w fun e w' => e = .returned (.int .u64 (doV 8 a b)) ∧ w = w' := by
  by_cases h0 : b = 0
  · subst h0
    exact fDivu_zero a w
  · have h1 : (b == 0) = false := by simpa using h0
    have hz : wrap64 b ≠ 0 := by rw [wrap64_sg hb hb']; exact sg_zero hb hb' h0
    have hz' : (wrap64 b == 0) = false := by simpa using hz
    go_enter Try.func45, Try.ntmps45
    go_wp2
    go_ret
    exact ⟨ret_int (by simp [doV, divuV, h0]), rfl⟩

theorem fRem_zero (a : Int) (w : World) :
    Calls Try.prog 46 #[.int .u64 a, .int .u64 0] w fun e w' => e = .returned (.int .u64 (doV 9 a 0)) ∧ w = w' := by
  go_enter Try.func46, Try.ntmps46
  go_wp2
  go_ret
  exact ⟨ret_int (by simp [doV, remV]), rfl⟩
theorem fRem (a b : Int) (w : World) (ha : 0 ≤ a) (ha' : a < 18446744073709551616) (hb : 0 ≤ b) (hb' : b < 18446744073709551616) :
    Calls Try.prog 46 #[.int .u64 a, .int .u64 b] w fun e w' => e = .returned (.int .u64 (doV 9 a b)) ∧ w = w' := by
  by_cases h0 : b = 0
  · subst h0
    exact fRem_zero a w
  · have h1 : (b == 0) = false := by simpa using h0
    have hz : wrap64 b ≠ 0 := by rw [wrap64_sg hb hb']; exact sg_zero hb hb' h0
    have hz' : (wrap64 b == 0) = false := by simpa using hz
    go_enter Try.func46, Try.ntmps46
    go_wp2
    go_ret
    exact ⟨ret_int (by simp [doV, remV, h0, IntKind.wrap_u64, wrap64_sg ha ha', wrap64_sg hb hb']), rfl⟩

theorem fRemu_zero (a : Int) (w : World) :
    Calls Try.prog 47 #[.int .u64 a, .int .u64 0] w fun e w' => e = .returned (.int .u64 (doV 10 a 0)) ∧ w = w' := by
  go_enter Try.func47, Try.ntmps47
  go_wp2
  go_ret
  exact ⟨ret_int (by simp [doV, remuV]), rfl⟩
theorem fRemu (a b : Int) (w : World) (ha : 0 ≤ a) (ha' : a < 18446744073709551616) (hb : 0 ≤ b) (hb' : b < 18446744073709551616) :
    Calls Try.prog 47 #[.int .u64 a, .int .u64 b] w fun e w' => e = .returned (.int .u64 (doV 10 a b)) ∧ w = w' := by
  by_cases h0 : b = 0
  · subst h0
    exact fRemu_zero a w
  · have h1 : (b == 0) = false := by simpa using h0
    have hz : wrap64 b ≠ 0 := by rw [wrap64_sg hb hb']; exact sg_zero hb hb' h0
    have hz' : (wrap64 b == 0) = false := by simpa using hz
    go_enter Try.func47, Try.ntmps47
    go_wp2
    go_ret
    exact ⟨ret_int (by simp [doV, remuV, h0]), rfl⟩

def table : Array Value := #[.nilFunc, .func (.func 37) #[] #[], .func (.func 38) #[] #[], .func (.func 39) #[] #[], .func (.func 40) #[] #[], .func (.func 41) #[] #[], .func (.func 43) #[] #[], .func (.func 44) #[] #[], .func (.func 45) #[] #[], .func (.func 46) #[] #[], .func (.func 47) #[] #[], .func (.func 48) #[] #[], .func (.func 49) #[] #[], .func (.func 50) #[] #[], .func (.func 51) #[] #[], .func (.func 52) #[] #[], .func (.func 53) #[] #[], .func (.func 54) #[] #[], .func (.func 56) #[] #[], .func (.func 57) #[] #[], .func (.func 58) #[] #[]]
theorem tab1 (w : World) : (Instr.index 43 (.agg table) (.int .i64 1)).run Try.prog w = .ok (.func (.func 37) #[] #[]) w := by kernel_rfl
theorem tab2 (w : World) : (Instr.index 43 (.agg table) (.int .i64 2)).run Try.prog w = .ok (.func (.func 38) #[] #[]) w := by kernel_rfl
theorem tab3 (w : World) : (Instr.index 43 (.agg table) (.int .i64 3)).run Try.prog w = .ok (.func (.func 39) #[] #[]) w := by kernel_rfl
theorem tab4 (w : World) : (Instr.index 43 (.agg table) (.int .i64 4)).run Try.prog w = .ok (.func (.func 40) #[] #[]) w := by kernel_rfl
theorem tab5 (w : World) : (Instr.index 43 (.agg table) (.int .i64 5)).run Try.prog w = .ok (.func (.func 41) #[] #[]) w := by kernel_rfl
theorem tab6 (w : World) : (Instr.index 43 (.agg table) (.int .i64 6)).run Try.prog w = .ok (.func (.func 43) #[] #[]) w := by kernel_rfl
theorem tab7 (w : World) : (Instr.index 43 (.agg table) (.int .i64 7)).run Try.prog w = .ok (.func (.func 44) #[] #[]) w := by kernel_rfl
theorem tab8 (w : World) : (Instr.index 43 (.agg table) (.int .i64 8)).run Try.prog w = .ok (.func (.func 45) #[] #[]) w := by kernel_rfl
theorem tab9 (w : World) : (Instr.index 43 (.agg table) (.int .i64 9)).run Try.prog w = .ok (.func (.func 46) #[] #[]) w := by kernel_rfl
theorem tab10 (w : World) : (Instr.index 43 (.agg table) (.int .i64 10)).run Try.prog w = .ok (.func (.func 47) #[] #[]) w := by kernel_rfl
theorem tab11 (w : World) : (Instr.index 43 (.agg table) (.int .i64 11)).run Try.prog w = .ok (.func (.func 48) #[] #[]) w := by kernel_rfl
theorem tab12 (w : World) : (Instr.index 43 (.agg table) (.int .i64 12)).run Try.prog w = .ok (.func (.func 49) #[] #[]) w := by kernel_rfl
theorem tab13 (w : World) : (Instr.index 43 (.agg table) (.int .i64 13)).run Try.prog w = .ok (.func (.func 50) #[] #[]) w := by kernel_rfl
theorem tab14 (w : World) : (Instr.index 43 (.agg table) (.int .i64 14)).run Try.prog w = .ok (.func (.func 51) #[] #[]) w := by kernel_rfl
theorem tab15 (w : World) : (Instr.index 43 (.agg table) (.int .i64 15)).run Try.prog w = .ok (.func (.func 52) #[] #[]) w := by kernel_rfl
theorem tab16 (w : World) : (Instr.index 43 (.agg table) (.int .i64 16)).run Try.prog w = .ok (.func (.func 53) #[] #[]) w := by kernel_rfl
theorem tab17 (w : World) : (Instr.index 43 (.agg table) (.int .i64 17)).run Try.prog w = .ok (.func (.func 54) #[] #[]) w := by kernel_rfl
theorem tab18 (w : World) : (Instr.index 43 (.agg table) (.int .i64 18)).run Try.prog w = .ok (.func (.func 56) #[] #[]) w := by kernel_rfl
theorem tab19 (w : World) : (Instr.index 43 (.agg table) (.int .i64 19)).run Try.prog w = .ok (.func (.func 57) #[] #[]) w := by kernel_rfl
theorem tab20 (w : World) : (Instr.index 43 (.agg table) (.int .i64 20)).run Try.prog w = .ok (.func (.func 58) #[] #[]) w := by kernel_rfl
theorem table_cells : table.all (·.oneCell') = true := by kernel_rfl
theorem table_size : table.size = 21 := by kernel_rfl
theorem table_info : (Try.prog.info? 43).map (·.size) = some table.size := by kernel_rfl
theorem table_results : Try.f30.results = #[.cell 0 43] := by kernel_rfl
set_option maxHeartbeats 1000000 in
theorem functions_any (w : World) :
    Calls Try.prog 30 #[] w fun e w' => e = .returned (.agg table) ∧ w.alloc (.cells table 43) = w' := by
  go_enter Try.func30, Try.ntmps30
  go_wp2_with (with_reducible refine wpList_store_row rfl 43 (.tmp 0) (.tmp 1) rfl w.heap.size table ?c1 ?c2 43 ?old ?c3 table_info ?c4 table_cells ?_)
  case c3 => exact heap_alloc_new _ _
  case c1 => rfl
  case c2 => rfl
  case c4 => rfl
  rw [World.setRow_alloc_new]
  exact bodyPost_ret (v := .agg table) (results_cell_row table_results _ _ w.heap.size 43 table (0, 0) (.array 21 42) rfl (heap_alloc_new _ _) Try.underlying43 rfl table_info) rfl ⟨rfl, rfl⟩

theorem do_1 (a b : Int) (w : World) (ha : 0 ≤ a) (ha' : a < 18446744073709551616) (hb : 0 ≤ b) (hb' : b < 18446744073709551616) :
    Calls Try.prog 10 #[.int .i64 1, .int .u64 a, .int .u64 b] w fun e w' => e = .returned (.tuple #[.int .u64 (doV 1 a b), .int .i64 (doE 1)]) ∧ w.alloc (.cells table 43) = w' := by
  have hi := tab1
  go_enter Try.func10, Try.ntmps10
  go_wp2_with (first
    | (go_at_call 30; refine (functions_any _).mono ?_; rintro e w' ⟨rfl, rfl⟩)
    | (go_at_call 37; refine (fAdd _ _ _).mono ?_; rintro e w' ⟨rfl, rfl⟩))
  go_ret2
  exact ⟨ret_int2 rfl (doE_in (by omega) (by omega)).symm, rfl⟩
theorem do_2 (a b : Int) (w : World) (ha : 0 ≤ a) (ha' : a < 18446744073709551616) (hb : 0 ≤ b) (hb' : b < 18446744073709551616) :
    Calls Try.prog 10 #[.int .i64 2, .int .u64 a, .int .u64 b] w fun e w' => e = .returned (.tuple #[.int .u64 (doV 2 a b), .int .i64 (doE 2)]) ∧ w.alloc (.cells table 43) = w' := by
  have hi := tab2
  go_enter Try.func10, Try.ntmps10
  go_wp2_with (first
    | (go_at_call 30; refine (functions_any _).mono ?_; rintro e w' ⟨rfl, rfl⟩)
    | (go_at_call 38; refine (fSub _ _ _).mono ?_; rintro e w' ⟨rfl, rfl⟩))
  go_ret2
  exact ⟨ret_int2 rfl (doE_in (by omega) (by omega)).symm, rfl⟩
theorem do_3 (a b : Int) (w : World) (ha : 0 ≤ a) (ha' : a < 18446744073709551616) (hb : 0 ≤ b) (hb' : b < 18446744073709551616) :
    Calls Try.prog 10 #[.int .i64 3, .int .u64 a, .int .u64 b] w fun e w' => e = .returned (.tuple #[.int .u64 (doV 3 a b), .int .i64 (doE 3)]) ∧ w.alloc (.cells table 43) = w' := by
  have hi := tab3
  go_enter Try.func10, Try.ntmps10
  go_wp2_with (first
    | (go_at_call 30; refine (functions_any _).mono ?_; rintro e w' ⟨rfl, rfl⟩)
    | (go_at_call 39; refine (fMul _ _ _).mono ?_; rintro e w' ⟨rfl, rfl⟩))
  go_ret2
  exact ⟨ret_int2 rfl (doE_in (by omega) (by omega)).symm, rfl⟩
theorem do_4 (a b : Int) (w : World) (ha : 0 ≤ a) (ha' : a < 18446744073709551616) (hb : 0 ≤ b) (hb' : b < 18446744073709551616) :
    Calls Try.prog 10 #[.int .i64 4, .int .u64 a, .int .u64 b] w fun e w' => e = .returned (.tuple #[.int .u64 (doV 4 a b), .int .i64 (doE 4)]) ∧ w.alloc (.cells table 43) = w' := by
  have hi := tab4
  go_enter Try.func10, Try.ntmps10
  go_wp2_with (first
    | (go_at_call 30; refine (functions_any _).mono ?_; rintro e w' ⟨rfl, rfl⟩)
    | (go_at_call 40; refine (fMulh _ _ _ ha ha' hb hb').mono ?_; rintro e w' ⟨rfl, rfl⟩))
  go_ret2
  exact ⟨ret_int2 rfl (doE_in (by omega) (by omega)).symm, rfl⟩
theorem do_5 (a b : Int) (w : World) (ha : 0 ≤ a) (ha' : a < 18446744073709551616) (hb : 0 ≤ b) (hb' : b < 18446744073709551616) :
    Calls Try.prog 10 #[.int .i64 5, .int .u64 a, .int .u64 b] w fun e w' => e = .returned (.tuple #[.int .u64 (doV 5 a b), .int .i64 (doE 5)]) ∧ w.alloc (.cells table 43) = w' := by
  have hi := tab5
  go_enter Try.func10, Try.ntmps10
  go_wp2_with (first
    | (go_at_call 30; refine (functions_any _).mono ?_; rintro e w' ⟨rfl, rfl⟩)
    | (go_at_call 41; refine (upper_any _ _ _ ha ha' hb hb').mono ?_; rintro e w' ⟨rfl, rfl⟩))
  go_ret2
  exact ⟨ret_int2 rfl (doE_in (by omega) (by omega)).symm, rfl⟩
theorem do_6 (a b : Int) (w : World) (ha : 0 ≤ a) (ha' : a < 18446744073709551616) (hb : 0 ≤ b) (hb' : b < 18446744073709551616) :
    Calls Try.prog 10 #[.int .i64 6, .int .u64 a, .int .u64 b] w fun e w' => e = .returned (.tuple #[.int .u64 (doV 6 a b), .int .i64 (doE 6)]) ∧ w.alloc (.cells table 43) = w' := by
  have hi := tab6
  go_enter Try.func10, Try.ntmps10
  go_wp2_with (first
    | (go_at_call 30; refine (functions_any _).mono ?_; rintro e w' ⟨rfl, rfl⟩)
    | (go_at_call 43; refine (fMulhsu _ _ _ ha ha' hb hb').mono ?_; rintro e w' ⟨rfl, rfl⟩))
  go_ret2
  exact ⟨ret_int2 rfl (doE_in (by omega) (by omega)).symm, rfl⟩
theorem do_7 (a b : Int) (w : World) (ha : 0 ≤ a) (ha' : a < 18446744073709551616) (hb : 0 ≤ b) (hb' : b < 18446744073709551616) :
    Calls Try.prog 10 #[.int .i64 7, .int .u64 a, .int .u64 b] w fun e w' => e = .returned (.tuple #[.int .u64 (doV 7 a b), .int .i64 (doE 7)]) ∧ w.alloc (.cells table 43) = w' := by
  have hi := tab7
  go_enter Try.func10, Try.ntmps10
  go_wp2_with (first
    | (go_at_call 30; refine (functions_any _).mono ?_; rintro e w' ⟨rfl, rfl⟩)
    | (go_at_call 44; refine (fDiv _ _ _ ha ha' hb hb').mono ?_; rintro e w' ⟨rfl, rfl⟩))
  go_ret2
  exact ⟨ret_int2 rfl (doE_in (by omega) (by omega)).symm, rfl⟩
theorem do_8 (a b : Int) (w : World) (ha : 0 ≤ a) (ha' : a < 18446744073709551616) (hb : 0 ≤ b) (hb' : b < 18446744073709551616) :
    Calls Try.prog 10 #[.int .i64 8, .int .u64 a, .int .u64 b] w fun e w' => e = .returned (.tuple #[.int .u64 (doV 8 a b), .int .i64 (doE 8)]) ∧ w.alloc (.cells table 43) = w' := by
  have hi := tab8
  go_enter Try.func10, Try.ntmps10
  go_wp2_with (first
    | (go_at_call 30; refine (functions_any _).mono ?_; rintro e w' ⟨rfl, rfl⟩)
    | (go_at_call 45; refine (fDivu _ _ _ ha ha' hb hb').mono ?_; rintro e w' ⟨rfl, rfl⟩))
  go_ret2
  exact ⟨ret_int2 rfl (doE_in (by omega) (by omega)).symm, rfl⟩
theorem do_9 (a b : Int) (w : World) (ha : 0 ≤ a) (ha' : a < 18446744073709551616) (hb : 0 ≤ b) (hb' : b < 18446744073709551616) :
    Calls Try.prog 10 #[.int .i64 9, .int .u64 a, .int .u64 b] w fun e w' => e = .returned (.tuple #[.int .u64 (doV 9 a b), .int .i64 (doE 9)]) ∧ w.alloc (.cells table 43) = w' := by
  have hi := tab9
  go_enter Try.func10, Try.ntmps10
  go_wp2_with (first
    | (go_at_call 30; refine (functions_any _).mono ?_; rintro e w' ⟨rfl, rfl⟩)
    | (go_at_call 46; refine (fRem _ _ _ ha ha' hb hb').mono ?_; rintro e w' ⟨rfl, rfl⟩))
  go_ret2
  exact ⟨ret_int2 rfl (doE_in (by omega) (by omega)).symm, rfl⟩
theorem do_10 (a b : Int) (w : World) (ha : 0 ≤ a) (ha' : a < 18446744073709551616) (hb : 0 ≤ b) (hb' : b < 18446744073709551616) :
    Calls Try.prog 10 #[.int .i64 10, .int .u64 a, .int .u64 b] w fun e w' => e = .returned (.tuple #[.int .u64 (doV 10 a b), .int .i64 (doE 10)]) ∧ w.alloc (.cells table 43) = w' := by
  have hi := tab10
  go_enter Try.func10, Try.ntmps10
  go_wp2_with (first
    | (go_at_call 30; refine (functions_any _).mono ?_; rintro e w' ⟨rfl, rfl⟩)
    | (go_at_call 47; refine (fRemu _ _ _ ha ha' hb hb').mono ?_; rintro e w' ⟨rfl, rfl⟩))
  go_ret2
  exact ⟨ret_int2 rfl (doE_in (by omega) (by omega)).symm, rfl⟩
theorem do_11 (a b : Int) (w : World) (ha : 0 ≤ a) (ha' : a < 18446744073709551616) (hb : 0 ≤ b) (hb' : b < 18446744073709551616) :
    Calls Try.prog 10 #[.int .i64 11, .int .u64 a, .int .u64 b] w fun e w' => e = .returned (.tuple #[.int .u64 (doV 11 a b), .int .i64 (doE 11)]) ∧ w.alloc (.cells table 43) = w' := by
  have hi := tab11
  go_enter Try.func10, Try.ntmps10
  go_wp2_with (first
    | (go_at_call 30; refine (functions_any _).mono ?_; rintro e w' ⟨rfl, rfl⟩)
    | (go_at_call 48; refine (fAnd _ _ _).mono ?_; rintro e w' ⟨rfl, rfl⟩))
  go_ret2
  exact ⟨ret_int2 rfl (doE_in (by omega) (by omega)).symm, rfl⟩
theorem do_12 (a b : Int) (w : World) (ha : 0 ≤ a) (ha' : a < 18446744073709551616) (hb : 0 ≤ b) (hb' : b < 18446744073709551616) :
    Calls Try.prog 10 #[.int .i64 12, .int .u64 a, .int .u64 b] w fun e w' => e = .returned (.tuple #[.int .u64 (doV 12 a b), .int .i64 (doE 12)]) ∧ w.alloc (.cells table 43) = w' := by
  have hi := tab12
  go_enter Try.func10, Try.ntmps10
  go_wp2_with (first
    | (go_at_call 30; refine (functions_any _).mono ?_; rintro e w' ⟨rfl, rfl⟩)
    | (go_at_call 49; refine (fOr _ _ _).mono ?_; rintro e w' ⟨rfl, rfl⟩))
  go_ret2
  exact ⟨ret_int2 rfl (doE_in (by omega) (by omega)).symm, rfl⟩
theorem do_13 (a b : Int) (w : World) (ha : 0 ≤ a) (ha' : a < 18446744073709551616) (hb : 0 ≤ b) (hb' : b < 18446744073709551616) :
    Calls Try.prog 10 #[.int .i64 13, .int .u64 a, .int .u64 b] w fun e w' => e = .returned (.tuple #[.int .u64 (doV 13 a b), .int .i64 (doE 13)]) ∧ w.alloc (.cells table 43) = w' := by
  have hi := tab13
  go_enter Try.func10, Try.ntmps10
  go_wp2_with (first
    | (go_at_call 30; refine (functions_any _).mono ?_; rintro e w' ⟨rfl, rfl⟩)
    | (go_at_call 50; refine (fXor _ _ _).mono ?_; rintro e w' ⟨rfl, rfl⟩))
  go_ret2
  exact ⟨ret_int2 rfl (doE_in (by omega) (by omega)).symm, rfl⟩
theorem do_14 (a b : Int) (w : World) (ha : 0 ≤ a) (ha' : a < 18446744073709551616) (hb : 0 ≤ b) (hb' : b < 18446744073709551616) :
    Calls Try.prog 10 #[.int .i64 14, .int .u64 a, .int .u64 b] w fun e w' => e = .returned (.tuple #[.int .u64 (doV 14 a b), .int .i64 (doE 14)]) ∧ w.alloc (.cells table 43) = w' := by
  have hi := tab14
  go_enter Try.func10, Try.ntmps10
  go_wp2_with (first
    | (go_at_call 30; refine (functions_any _).mono ?_; rintro e w' ⟨rfl, rfl⟩)
    | (go_at_call 51; refine (fShl _ _ _ ha ha' hb hb').mono ?_; rintro e w' ⟨rfl, rfl⟩))
  go_ret2
  exact ⟨ret_int2 rfl (doE_in (by omega) (by omega)).symm, rfl⟩
theorem do_15 (a b : Int) (w : World) (ha : 0 ≤ a) (ha' : a < 18446744073709551616) (hb : 0 ≤ b) (hb' : b < 18446744073709551616) :
    Calls Try.prog 10 #[.int .i64 15, .int .u64 a, .int .u64 b] w fun e w' => e = .returned (.tuple #[.int .u64 (doV 15 a b), .int .i64 (doE 15)]) ∧ w.alloc (.cells table 43) = w' := by
  have hi := tab15
  go_enter Try.func10, Try.ntmps10
  go_wp2_with (first
    | (go_at_call 30; refine (functions_any _).mono ?_; rintro e w' ⟨rfl, rfl⟩)
    | (go_at_call 52; refine (fShr _ _ _ ha ha' hb hb').mono ?_; rintro e w' ⟨rfl, rfl⟩))
  go_ret2
  exact ⟨ret_int2 rfl (doE_in (by omega) (by omega)).symm, rfl⟩
theorem do_16 (a b : Int) (w : World) (ha : 0 ≤ a) (ha' : a < 18446744073709551616) (hb : 0 ≤ b) (hb' : b < 18446744073709551616) :
    Calls Try.prog 10 #[.int .i64 16, .int .u64 a, .int .u64 b] w fun e w' => e = .returned (.tuple #[.int .u64 (doV 16 a b), .int .i64 (doE 16)]) ∧ w.alloc (.cells table 43) = w' := by
  have hi := tab16
  go_enter Try.func10, Try.ntmps10
  go_wp2_with (first
    | (go_at_call 30; refine (functions_any _).mono ?_; rintro e w' ⟨rfl, rfl⟩)
    | (go_at_call 53; refine (fSar _ _ _ ha ha' hb hb').mono ?_; rintro e w' ⟨rfl, rfl⟩))
  go_ret2
  exact ⟨ret_int2 rfl (doE_in (by omega) (by omega)).symm, rfl⟩
theorem do_17 (a b : Int) (w : World) (ha : 0 ≤ a) (ha' : a < 18446744073709551616) (hb : 0 ≤ b) (hb' : b < 18446744073709551616) :
    Calls Try.prog 10 #[.int .i64 17, .int .u64 a, .int .u64 b] w fun e w' => e = .returned (.tuple #[.int .u64 (doV 17 a b), .int .i64 (doE 17)]) ∧ w.alloc (.cells table 43) = w' := by
  have hi := tab17
  go_enter Try.func10, Try.ntmps10
  go_wp2_with (first
    | (go_at_call 30; refine (functions_any _).mono ?_; rintro e w' ⟨rfl, rfl⟩)
    | (go_at_call 54; refine (fLt _ _ _ ha ha' hb hb').mono ?_; rintro e w' ⟨rfl, rfl⟩))
  go_ret2
  exact ⟨ret_int2 rfl (doE_in (by omega) (by omega)).symm, rfl⟩
theorem do_18 (a b : Int) (w : World) (ha : 0 ≤ a) (ha' : a < 18446744073709551616) (hb : 0 ≤ b) (hb' : b < 18446744073709551616) :
    Calls Try.prog 10 #[.int .i64 18, .int .u64 a, .int .u64 b] w fun e w' => e = .returned (.tuple #[.int .u64 (doV 18 a b), .int .i64 (doE 18)]) ∧ w.alloc (.cells table 43) = w' := by
  have hi := tab18
  go_enter Try.func10, Try.ntmps10
  go_wp2_with (first
    | (go_at_call 30; refine (functions_any _).mono ?_; rintro e w' ⟨rfl, rfl⟩)
    | (go_at_call 56; refine (fLtu _ _ _ ha ha' hb hb').mono ?_; rintro e w' ⟨rfl, rfl⟩))
  go_ret2
  exact ⟨ret_int2 rfl (doE_in (by omega) (by omega)).symm, rfl⟩
theorem do_19 (a b : Int) (w : World) (ha : 0 ≤ a) (ha' : a < 18446744073709551616) (hb : 0 ≤ b) (hb' : b < 18446744073709551616) :
    Calls Try.prog 10 #[.int .i64 19, .int .u64 a, .int .u64 b] w fun e w' => e = .returned (.tuple #[.int .u64 (doV 19 a b), .int .i64 (doE 19)]) ∧ w.alloc (.cells table 43) = w' := by
  have hi := tab19
  go_enter Try.func10, Try.ntmps10
  go_wp2_with (first
    | (go_at_call 30; refine (functions_any _).mono ?_; rintro e w' ⟨rfl, rfl⟩)
    | (go_at_call 57; refine (fEq _ _ _ ha ha' hb hb').mono ?_; rintro e w' ⟨rfl, rfl⟩))
  go_ret2
  exact ⟨ret_int2 rfl (doE_in (by omega) (by omega)).symm, rfl⟩
theorem do_20 (a b : Int) (w : World) (ha : 0 ≤ a) (ha' : a < 18446744073709551616) (hb : 0 ≤ b) (hb' : b < 18446744073709551616) :
    Calls Try.prog 10 #[.int .i64 20, .int .u64 a, .int .u64 b] w fun e w' => e = .returned (.tuple #[.int .u64 (doV 20 a b), .int .i64 (doE 20)]) ∧ w.alloc (.cells table 43) = w' := by
  have hi := tab20
  go_enter Try.func10, Try.ntmps10
  go_wp2_with (first
    | (go_at_call 30; refine (functions_any _).mono ?_; rintro e w' ⟨rfl, rfl⟩)
    | (go_at_call 58; refine (fNe _ _ _ ha ha' hb hb').mono ?_; rintro e w' ⟨rfl, rfl⟩))
  go_ret2
  exact ⟨ret_int2 rfl (doE_in (by omega) (by omega)).symm, rfl⟩
theorem do_out (fn a b : Int) (w : World) (h : fn < 1 ∨ 20 < fn) :
    Calls Try.prog 10 #[.int .i64 fn, .int .u64 a, .int .u64 b] w fun e w' => e = .returned (.tuple #[.int .u64 (doV fn a b), .int .i64 (doE fn)]) ∧ w = w' := by
  have hv := doV_out (a := a) (b := b) h
  have he := doE_out h
  rw [hv, he]
  clear hv he
  by_cases h1 : fn < 1
  · go_enter Try.func10, Try.ntmps10
    go_wp2
    go_ret2
    exact ⟨rfl, rfl⟩
  · have h2 : 20 < fn := by omega
    clear h
    go_enter Try.func10, Try.ntmps10
    go_wp2
    go_ret2
    exact ⟨rfl, rfl⟩
theorem do_any (fn a b : Int) (w : World) (ha : 0 ≤ a) (ha' : a < 18446744073709551616) (hb : 0 ≤ b) (hb' : b < 18446744073709551616) :
    Calls Try.prog 10 #[.int .i64 fn, .int .u64 a, .int .u64 b] w fun e w' => e = .returned (.tuple #[.int .u64 (doV fn a b), .int .i64 (doE fn)]) ∧ Below w.heap.size w w' := by
  by_cases h : fn < 1 ∨ 20 < fn
  · exact (do_out fn a b w h).mono fun _ _ ⟨he, hw⟩ => ⟨he, hw ▸ Below.refl _ _⟩
  · rcases do_cases (fn := fn) (by omega) (by omega) with rfl | rfl | rfl | rfl | rfl | rfl | rfl | rfl | rfl | rfl | rfl | rfl | rfl | rfl | rfl | rfl | rfl | rfl | rfl | rfl

    · exact (do_1 a b w ha ha' hb hb').mono fun _ _ ⟨he, hw⟩ => ⟨he, hw ▸ (Below.refl _ _).alloc (Nat.le_refl _) _⟩
    · exact (do_2 a b w ha ha' hb hb').mono fun _ _ ⟨he, hw⟩ => ⟨he, hw ▸ (Below.refl _ _).alloc (Nat.le_refl _) _⟩
    · exact (do_3 a b w ha ha' hb hb').mono fun _ _ ⟨he, hw⟩ => ⟨he, hw ▸ (Below.refl _ _).alloc (Nat.le_refl _) _⟩
    · exact (do_4 a b w ha ha' hb hb').mono fun _ _ ⟨he, hw⟩ => ⟨he, hw ▸ (Below.refl _ _).alloc (Nat.le_refl _) _⟩
    · exact (do_5 a b w ha ha' hb hb').mono fun _ _ ⟨he, hw⟩ => ⟨he, hw ▸ (Below.refl _ _).alloc (Nat.le_refl _) _⟩
    · exact (do_6 a b w ha ha' hb hb').mono fun _ _ ⟨he, hw⟩ => ⟨he, hw ▸ (Below.refl _ _).alloc (Nat.le_refl _) _⟩
    · exact (do_7 a b w ha ha' hb hb').mono fun _ _ ⟨he, hw⟩ => ⟨he, hw ▸ (Below.refl _ _).alloc (Nat.le_refl _) _⟩
    · exact (do_8 a b w ha ha' hb hb').mono fun _ _ ⟨he, hw⟩ => ⟨he, hw ▸ (Below.refl _ _).alloc (Nat.le_refl _) _⟩
    · exact (do_9 a b w ha ha' hb hb').mono fun _ _ ⟨he, hw⟩ => ⟨he, hw ▸ (Below.refl _ _).alloc (Nat.le_refl _) _⟩
    · exact (do_10 a b w ha ha' hb hb').mono fun _ _ ⟨he, hw⟩ => ⟨he, hw ▸ (Below.refl _ _).alloc (Nat.le_refl _) _⟩
    · exact (do_11 a b w ha ha' hb hb').mono fun _ _ ⟨he, hw⟩ => ⟨he, hw ▸ (Below.refl _ _).alloc (Nat.le_refl _) _⟩
    · exact (do_12 a b w ha ha' hb hb').mono fun _ _ ⟨he, hw⟩ => ⟨he, hw ▸ (Below.refl _ _).alloc (Nat.le_refl _) _⟩
    · exact (do_13 a b w ha ha' hb hb').mono fun _ _ ⟨he, hw⟩ => ⟨he, hw ▸ (Below.refl _ _).alloc (Nat.le_refl _) _⟩
    · exact (do_14 a b w ha ha' hb hb').mono fun _ _ ⟨he, hw⟩ => ⟨he, hw ▸ (Below.refl _ _).alloc (Nat.le_refl _) _⟩
    · exact (do_15 a b w ha ha' hb hb').mono fun _ _ ⟨he, hw⟩ => ⟨he, hw ▸ (Below.refl _ _).alloc (Nat.le_refl _) _⟩
    · exact (do_16 a b w ha ha' hb hb').mono fun _ _ ⟨he, hw⟩ => ⟨he, hw ▸ (Below.refl _ _).alloc (Nat.le_refl _) _⟩
    · exact (do_17 a b w ha ha' hb hb').mono fun _ _ ⟨he, hw⟩ => ⟨he, hw ▸ (Below.refl _ _).alloc (Nat.le_refl _) _⟩
    · exact (do_18 a b w ha ha' hb hb').mono fun _ _ ⟨he, hw⟩ => ⟨he, hw ▸ (Below.refl _ _).alloc (Nat.le_refl _) _⟩
    · exact (do_19 a b w ha ha' hb hb').mono fun _ _ ⟨he, hw⟩ => ⟨he, hw ▸ (Below.refl _ _).alloc (Nat.le_refl _) _⟩
    · exact (do_20 a b w ha ha' hb hb').mono fun _ _ ⟨he, hw⟩ => ⟨he, hw ▸ (Below.refl _ _).alloc (Nat.le_refl _) _⟩
end Go.Proofs.Ytnlhebcmebbgkaa
