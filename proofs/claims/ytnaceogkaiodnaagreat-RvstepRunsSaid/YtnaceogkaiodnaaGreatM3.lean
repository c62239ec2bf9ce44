/- What each function of package word's table returns, and what the document's way returns: contracts of the Go functions of numbers of 64 bits. Each is said for all numbers of 64 bits (a division's own case of zero apart), in whatever memory; memory stays as it was, but for the table's own new block. -/
import Derived.Test.YtnaceogkaiodnaaGreatRows
import Derived.Test.YtnaceogkaiodnaaGreatM1
import Derived.WalkKit
import Derived.WalkSpells
import Derived.WalkLawsBesides
import Derived.ProofKit
import Derived.Lib.Hide
import Derived.Deep.WholeRow
namespace Go.Proofs.YtnaceogkaiodnaaGreat
open Go.RowKit
set_option linter.unusedVariables false

theorem fAdd (a b : Int) (w : World)  :
    Calls Tryz.prog 154 #[.int .u64 a, .int .u64 b] w fun e w' => e = .returned (.int .u64 (doV 1 a b)) ∧ w = w' := by
  go_enter Tryz.func154, Tryz.ntmps154
  go_wp2
  go_ret
  exact ⟨ret_int (by simp [doV, IntKind.wrap_u64]), rfl⟩

theorem fSub (a b : Int) (w : World)  :
    Calls Tryz.prog 155 #[.int .u64 a, .int .u64 b] w fun e w' => e = .returned (.int .u64 (doV 2 a b)) ∧ w = w' := by
  go_enter Tryz.func155, Tryz.ntmps155
  go_wp2
  go_ret
  exact ⟨ret_int (by simp [doV, IntKind.wrap_u64]), rfl⟩

theorem fMul (a b : Int) (w : World)  :
    Calls Tryz.prog 156 #[.int .u64 a, .int .u64 b] w fun e w' => e = .returned (.int .u64 (doV 3 a b)) ∧ w = w' := by
  go_enter Tryz.func156, Tryz.ntmps156
  go_wp2
  go_ret
  exact ⟨ret_int (by simp [doV, IntKind.wrap_u64]), rfl⟩

theorem fAnd (a b : Int) (w : World)  :
    Calls Tryz.prog 165 #[.int .u64 a, .int .u64 b] w fun e w' => e = .returned (.int .u64 (doV 11 a b)) ∧ w = w' := by
  go_enter Tryz.func165, Tryz.ntmps165
  go_wp2
  go_ret
  exact ⟨ret_int (by simp [doV]), rfl⟩

theorem fOr (a b : Int) (w : World)  :
    Calls Tryz.prog 166 #[.int .u64 a, .int .u64 b] w fun e w' => e = .returned (.int .u64 (doV 12 a b)) ∧ w = w' := by
  go_enter Tryz.func166, Tryz.ntmps166
  go_wp2
  go_ret
  exact ⟨ret_int (by simp [doV]), rfl⟩

theorem fXor (a b : Int) (w : World)  :
    Calls Tryz.prog 167 #[.int .u64 a, .int .u64 b] w fun e w' => e = .returned (.int .u64 (doV 13 a b)) ∧ w = w' := by
  go_enter Tryz.func167, Tryz.ntmps167
  go_wp2
  go_ret
  exact ⟨ret_int (by simp [doV]), rfl⟩

theorem fShl (a b : Int) (w : World) (ha : 0 ≤ a) (ha' : a < 18446744073709551616) (hb : 0 ≤ b) (hb' : b < 18446744073709551616) :
    Calls Tryz.prog 168 #[.int .u64 a, .int .u64 b] w fun e w' => e = .returned (.int .u64 (doV 14 a b)) ∧ w = w' := by
  go_enter Tryz.func168, Tryz.ntmps168
  go_wp2
  go_ret
  exact ⟨ret_int (by simp [doV, shlV, IntKind.wrap_u64]), rfl⟩

theorem fShr (a b : Int) (w : World) (ha : 0 ≤ a) (ha' : a < 18446744073709551616) (hb : 0 ≤ b) (hb' : b < 18446744073709551616) :
    Calls Tryz.prog 169 #[.int .u64 a, .int .u64 b] w fun e w' => e = .returned (.int .u64 (doV 15 a b)) ∧ w = w' := by
  go_enter Tryz.func169, Tryz.ntmps169
  go_wp2
  go_ret
  exact ⟨ret_int (by simp [doV, shrV]), rfl⟩

theorem fSar (a b : Int) (w : World) (ha : 0 ≤ a) (ha' : a < 18446744073709551616) (hb : 0 ≤ b) (hb' : b < 18446744073709551616) :
    Calls Tryz.prog 170 #[.int .u64 a, .int .u64 b] w fun e w' => e = .returned (.int .u64 (doV 16 a b)) ∧ w = w' := by
  go_enter Tryz.func170, Tryz.ntmps170
  go_wp2
  go_ret
  exact ⟨ret_int (by simp [doV, sarV, IntKind.wrap_u64, wrap64_sg ha ha']), rfl⟩

theorem mul64_any (a b : Int) (w : World) (ha : 0 ≤ a) (ha' : a < 18446744073709551616) (hb : 0 ≤ b) (hb' : b < 18446744073709551616) :
    Calls Tryz.prog 176 #[.int .u64 a, .int .u64 b] w fun e w' => e = .returned (.tuple #[.int .u64 (mulhuV a b), .int .u64 (a * b % 18446744073709551616)]) ∧ w = w' := by
  have hl := and_low32 a ha ha'
  have hr := and_low32 b hb hb'
  have key := mul64_arith a b ha ha' hb hb'
  have hm : ∀ z : Int, bits .and .u64 (z % 18446744073709551616) 4294967295 = z % 18446744073709551616 % 4294967296 := fun z => and_low32 _ (by omega) (by omega)
  have Hl := Lib.hid hl
  have Hr := Lib.hid hr
  have Hk := Lib.hid key
  have Hm := Lib.hid hm
  clear hl hr key hm
  go_enter Tryz.func176, Tryz.ntmps176
  go_wp2
  go_ret2
  refine ⟨ret_int2 ?_ ?_, rfl⟩
  · simp only [IntKind.wrap_u64, Hl.out, Hr.out, Hm.out]
    exact Hk.out
  · exact IntKind.wrap_u64 _
theorem upper_any (a b : Int) (w : World) (ha : 0 ≤ a) (ha' : a < 18446744073709551616) (hb : 0 ≤ b) (hb' : b < 18446744073709551616) :
    Calls Tryz.prog 158 #[.int .u64 a, .int .u64 b] w fun e w' => e = .returned (.int .u64 (doV 5 a b)) ∧ w = w' := by
  go_enter Tryz.func158, Tryz.ntmps158
  go_wp2_with (go_at_call 176; refine (mul64_any _ _ _ ha ha' hb hb').mono ?_; rintro e w' ⟨rfl, rfl⟩)
  go_ret
  exact ⟨ret_int (by simp [doV]), rfl⟩
theorem below_any (a b : Int) (w : World) (ha : 0 ≤ a) (ha' : a < 18446744073709551616) (hb : 0 ≤ b) (hb' : b < 18446744073709551616) :
    Calls Tryz.prog 159 #[.int .u64 a, .int .u64 b] w fun e w' => e = .returned (.int .u64 (low0 a b)) ∧ w = w' := by
  have hs := wrap64_sg ha ha'
  by_cases hc : a < 9223372036854775808
  · have h1 : ¬ wrap64 a < 0 := by rw [hs]; unfold sg; rw [if_pos hc]; omega
    have hd : decide (wrap64 a < 0) = false := by simpa using h1
    have Hc := Lib.hid hc
    clear hs h1 hc
    go_enter Tryz.func159, Tryz.ntmps159
    go_wp2
    go_ret
    exact ⟨ret_int (by unfold low0; rw [if_pos Hc.out]), rfl⟩
  · have h1 : wrap64 a < 0 := by rw [hs]; unfold sg; rw [if_neg hc]; omega
    have hd : decide (wrap64 a < 0) = true := by simpa using h1
    have Hc := Lib.hid hc
    clear hs h1 hc
    go_enter Tryz.func159, Tryz.ntmps159
    go_wp2
    go_ret
    exact ⟨ret_int (by unfold low0; rw [if_neg (by have := Hc.out; omega)]), rfl⟩

theorem fMulh (a b : Int) (w : World) (ha : 0 ≤ a) (ha' : a < 18446744073709551616) (hb : 0 ≤ b) (hb' : b < 18446744073709551616) :
    Calls Tryz.prog 157 #[.int .u64 a, .int .u64 b] w fun e w' => e = .returned (.int .u64 (doV 4 a b)) ∧ w = w' := by
  go_enter Tryz.func157, Tryz.ntmps157
  go_wp2_with (first
    | (go_at_call 158; refine (upper_any _ _ _ (by omega) (by omega) (by omega) (by omega)).mono ?_; rintro e w' ⟨rfl, rfl⟩)
    | (go_at_call 159; refine (below_any _ _ _ (by omega) (by omega) (by omega) (by omega)).mono ?_; rintro e w' ⟨rfl, rfl⟩))
  go_ret
  exact ⟨ret_int (by simp [doV, mulhV, IntKind.wrap_u64]), rfl⟩

theorem fMulhsu (a b : Int) (w : World) (ha : 0 ≤ a) (ha' : a < 18446744073709551616) (hb : 0 ≤ b) (hb' : b < 18446744073709551616) :
    Calls Tryz.prog 160 #[.int .u64 a, .int .u64 b] w fun e w' => e = .returned (.int .u64 (doV 6 a b)) ∧ w = w' := by
  go_enter Tryz.func160, Tryz.ntmps160
  go_wp2_with (first
    | (go_at_call 158; refine (upper_any _ _ _ (by omega) (by omega) (by omega) (by omega)).mono ?_; rintro e w' ⟨rfl, rfl⟩)
    | (go_at_call 159; refine (below_any _ _ _ (by omega) (by omega) (by omega) (by omega)).mono ?_; rintro e w' ⟨rfl, rfl⟩))
  go_ret
  exact ⟨ret_int (by simp [doV, mulhsuV, IntKind.wrap_u64]), rfl⟩

theorem truth_any (b : Bool) (w : World) :
    Calls Tryz.prog 172 #[.bool b] w fun e w' => e = .returned (.int .u64 (bitV b)) ∧ w = w' := by
  cases b
  · go_enter Tryz.func172, Tryz.ntmps172
    go_wp2
    go_ret
    exact ⟨rfl, rfl⟩
  · go_enter Tryz.func172, Tryz.ntmps172
    go_wp2
    go_ret
    exact ⟨rfl, rfl⟩

theorem fLt (a b : Int) (w : World) (ha : 0 ≤ a) (ha' : a < 18446744073709551616) (hb : 0 ≤ b) (hb' : b < 18446744073709551616) :
    Calls Tryz.prog 171 #[.int .u64 a, .int .u64 b] w fun e w' => e = .returned (.int .u64 (doV 17 a b)) ∧ w = w' := by
  go_enter Tryz.func171, Tryz.ntmps171
  go_wp2_with (go_at_call 172; refine (truth_any _ _).mono ?_; rintro e w' ⟨rfl, rfl⟩)
  go_ret
  exact ⟨ret_int (by simp [doV, wrap64_sg ha ha', wrap64_sg hb hb']), rfl⟩

theorem fLtu (a b : Int) (w : World) (ha : 0 ≤ a) (ha' : a < 18446744073709551616) (hb : 0 ≤ b) (hb' : b < 18446744073709551616) :
    Calls Tryz.prog 173 #[.int .u64 a, .int .u64 b] w fun e w' => e = .returned (.int .u64 (doV 18 a b)) ∧ w = w' := by
  go_enter Tryz.func173, Tryz.ntmps173
  go_wp2_with (go_at_call 172; refine (truth_any _ _).mono ?_; rintro e w' ⟨rfl, rfl⟩)
  go_ret
  exact ⟨ret_int (by simp [doV]), rfl⟩

theorem fEq (a b : Int) (w : World) (ha : 0 ≤ a) (ha' : a < 18446744073709551616) (hb : 0 ≤ b) (hb' : b < 18446744073709551616) :
    Calls Tryz.prog 174 #[.int .u64 a, .int .u64 b] w fun e w' => e = .returned (.int .u64 (doV 19 a b)) ∧ w = w' := by
  go_enter Tryz.func174, Tryz.ntmps174
  go_wp2_with (go_at_call 172; refine (truth_any _ _).mono ?_; rintro e w' ⟨rfl, rfl⟩)
  go_ret
  exact ⟨ret_int (by simp [doV]), rfl⟩

theorem fNe (a b : Int) (w : World) (ha : 0 ≤ a) (ha' : a < 18446744073709551616) (hb : 0 ≤ b) (hb' : b < 18446744073709551616) :
    Calls Tryz.prog 175 #[.int .u64 a, .int .u64 b] w fun e w' => e = .returned (.int .u64 (doV 20 a b)) ∧ w = w' := by
  go_enter Tryz.func175, Tryz.ntmps175
  go_wp2_with (go_at_call 172; refine (truth_any _ _).mono ?_; rintro e w' ⟨rfl, rfl⟩)
  go_ret
  exact ⟨ret_int (by simp [doV, bne]), rfl⟩

theorem fDiv_zero (a : Int) (w : World) :
    Calls Tryz.prog 161 #[.int .u64 a, .int .u64 0] w fun e w' => e = .returned (.int .u64 (doV 7 a 0)) ∧ w = w' := by
  go_enter Tryz.func161, Tryz.ntmps161
  go_wp2
  go_ret
  exact ⟨ret_int (by simp [doV, divV]), rfl⟩
theorem fDiv (a b : Int) (w : World) (ha : 0 ≤ a) (ha' : a < 18446744073709551616) (hb : 0 ≤ b) (hb' : b < 18446744073709551616) :
    Calls Tryz.prog 161 #[.int .u64 a, .int .u64 b] w fun e w' => e = .returned (.int .u64 (doV 7 a b)) ∧ w = w' := by
  by_cases h0 : b = 0
  · subst h0
    exact fDiv_zero a w
  · have h1 : (b == 0) = false := by simpa using h0
    have hz : wrap64 b ≠ 0 := by rw [wrap64_sg hb hb']; exact sg_zero hb hb' h0
    have hz' : (wrap64 b == 0) = false := by simpa using hz
    go_enter Tryz.func161, Tryz.ntmps161
    go_wp2
    go_ret
    exact ⟨ret_int (by simp [doV, divV, h0, IntKind.wrap_u64, u64_wrap64, wrap64_sg ha ha', wrap64_sg hb hb']), rfl⟩

theorem fDivu_zero (a : Int) (w : World) :
    Calls Tryz.prog 162 #[.int .u64 a, .int .u64 0] w fun e w' => e = .returned (.int .u64 (doV 8 a 0)) ∧ w = w' := by
  go_enter Tryz.func162, Tryz.ntmps162
  go_wp2
  go_ret
  exact ⟨ret_int (by simp [doV, divuV]), rfl⟩
theorem fDivu (a b : Int) (w : World) (ha : 0 ≤ a) (ha' : a < 18446744073709551616) (hb : 0 ≤ b) (hb' : b < 18446744073709551616) :
    Calls Tryz.prog 162 #[.int .u64 a, .int .u64 b] w fun e w' => e = .returned (.int .u64 (doV 8 a b)) ∧ w = w' := by
  by_cases h0 : b = 0
  · subst h0
    exact fDivu_zero a w
  · have h1 : (b == 0) = false := by simpa using h0
    have hz : wrap64 b ≠ 0 := by rw [wrap64_sg hb hb']; exact sg_zero hb hb' h0
    have hz' : (wrap64 b == 0) = false := by simpa using hz
    go_enter Tryz.func162, Tryz.ntmps162
    go_wp2
    go_ret
    exact ⟨ret_int (by simp [doV, divuV, h0]), rfl⟩

theorem fRem_zero (a : Int) (w : World) :
    Calls Tryz.prog 163 #[.int .u64 a, .int .u64 0] w fun e w' => e = .returned (.int .u64 (doV 9 a 0)) ∧ w = w' := by
  go_enter Tryz.func163, Tryz.ntmps163
  go_wp2
  go_ret
  exact ⟨ret_int (by simp [doV, remV]), rfl⟩
theorem fRem (a b : Int) (w : World) (ha : 0 ≤ a) (ha' : a < 18446744073709551616) (hb : 0 ≤ b) (hb' : b < 18446744073709551616) :
    Calls Tryz.prog 163 #[.int .u64 a, .int .u64 b] w fun e w' => e = .returned (.int .u64 (doV 9 a b)) ∧ w = w' := by
  by_cases h0 : b = 0
  · subst h0
    exact fRem_zero a w
  · have h1 : (b == 0) = false := by simpa using h0
    have hz : wrap64 b ≠ 0 := by rw [wrap64_sg hb hb']; exact sg_zero hb hb' h0
    have hz' : (wrap64 b == 0) = false := by simpa using hz
    go_enter Tryz.func163, Tryz.ntmps163
    go_wp2
    go_ret
    exact ⟨ret_int (by simp [doV, remV, h0, IntKind.wrap_u64, wrap64_sg ha ha', wrap64_sg hb hb']), rfl⟩

theorem fRemu_zero (a : Int) (w : World) :
    Calls Tryz.prog 164 #[.int .u64 a, .int .u64 0] w fun e w' => e = .returned (.int .u64 (doV 10 a 0)) ∧ w = w' := by
  go_enter Tryz.func164, Tryz.ntmps164
  go_wp2
  go_ret
  exact ⟨ret_int (by simp [doV, remuV]), rfl⟩
theorem fRemu (a b : Int) (w : World) (ha : 0 ≤ a) (ha' : a < 18446744073709551616) (hb : 0 ≤ b) (hb' : b < 18446744073709551616) :
    Calls Tryz.prog 164 #[.int .u64 a, .int .u64 b] w fun e w' => e = .returned (.int .u64 (doV 10 a b)) ∧ w = w' := by
  by_cases h0 : b = 0
  · subst h0
    exact fRemu_zero a w
  · have h1 : (b == 0) = false := by simpa using h0
    have hz : wrap64 b ≠ 0 := by rw [wrap64_sg hb hb']; exact sg_zero hb hb' h0
    have hz' : (wrap64 b == 0) = false := by simpa using hz
    go_enter Tryz.func164, Tryz.ntmps164
    go_wp2
    go_ret
    exact ⟨ret_int (by simp [doV, remuV, h0]), rfl⟩

def table : Array Value := #[.nilFunc, .func (.func 154) #[] #[], .func (.func 155) #[] #[], .func (.func 156) #[] #[], .func (.func 157) #[] #[], .func (.func 158) #[] #[], .func (.func 160) #[] #[], .func (.func 161) #[] #[], .func (.func 162) #[] #[], .func (.func 163) #[] #[], .func (.func 164) #[] #[], .func (.func 165) #[] #[], .func (.func 166) #[] #[], .func (.func 167) #[] #[], .func (.func 168) #[] #[], .func (.func 169) #[] #[], .func (.func 170) #[] #[], .func (.func 171) #[] #[], .func (.func 173) #[] #[], .func (.func 174) #[] #[], .func (.func 175) #[] #[]]
theorem tab1 (w : World) : (Instr.index 174 (.agg table) (.int .i64 1)).run Tryz.prog w = .ok (.func (.func 154) #[] #[]) w := by kernel_rfl
theorem tab2 (w : World) : (Instr.index 174 (.agg table) (.int .i64 2)).run Tryz.prog w = .ok (.func (.func 155) #[] #[]) w := by kernel_rfl
theorem tab3 (w : World) : (Instr.index 174 (.agg table) (.int .i64 3)).run Tryz.prog w = .ok (.func (.func 156) #[] #[]) w := by kernel_rfl
theorem tab4 (w : World) : (Instr.index 174 (.agg table) (.int .i64 4)).run Tryz.prog w = .ok (.func (.func 157) #[] #[]) w := by kernel_rfl
theorem tab5 (w : World) : (Instr.index 174 (.agg table) (.int .i64 5)).run Tryz.prog w = .ok (.func (.func 158) #[] #[]) w := by kernel_rfl
theorem tab6 (w : World) : (Instr.index 174 (.agg table) (.int .i64 6)).run Tryz.prog w = .ok (.func (.func 160) #[] #[]) w := by kernel_rfl
theorem tab7 (w : World) : (Instr.index 174 (.agg table) (.int .i64 7)).run Tryz.prog w = .ok (.func (.func 161) #[] #[]) w := by kernel_rfl
theorem tab8 (w : World) : (Instr.index 174 (.agg table) (.int .i64 8)).run Tryz.prog w = .ok (.func (.func 162) #[] #[]) w := by kernel_rfl
theorem tab9 (w : World) : (Instr.index 174 (.agg table) (.int .i64 9)).run Tryz.prog w = .ok (.func (.func 163) #[] #[]) w := by kernel_rfl
theorem tab10 (w : World) : (Instr.index 174 (.agg table) (.int .i64 10)).run Tryz.prog w = .ok (.func (.func 164) #[] #[]) w := by kernel_rfl
theorem tab11 (w : World) : (Instr.index 174 (.agg table) (.int .i64 11)).run Tryz.prog w = .ok (.func (.func 165) #[] #[]) w := by kernel_rfl
theorem tab12 (w : World) : (Instr.index 174 (.agg table) (.int .i64 12)).run Tryz.prog w = .ok (.func (.func 166) #[] #[]) w := by kernel_rfl
theorem tab13 (w : World) : (Instr.index 174 (.agg table) (.int .i64 13)).run Tryz.prog w = .ok (.func (.func 167) #[] #[]) w := by kernel_rfl
theorem tab14 (w : World) : (Instr.index 174 (.agg table) (.int .i64 14)).run Tryz.prog w = .ok (.func (.func 168) #[] #[]) w := by kernel_rfl
theorem tab15 (w : World) : (Instr.index 174 (.agg table) (.int .i64 15)).run Tryz.prog w = .ok (.func (.func 169) #[] #[]) w := by kernel_rfl
theorem tab16 (w : World) : (Instr.index 174 (.agg table) (.int .i64 16)).run Tryz.prog w = .ok (.func (.func 170) #[] #[]) w := by kernel_rfl
theorem tab17 (w : World) : (Instr.index 174 (.agg table) (.int .i64 17)).run Tryz.prog w = .ok (.func (.func 171) #[] #[]) w := by kernel_rfl
theorem tab18 (w : World) : (Instr.index 174 (.agg table) (.int .i64 18)).run Tryz.prog w = .ok (.func (.func 173) #[] #[]) w := by kernel_rfl
theorem tab19 (w : World) : (Instr.index 174 (.agg table) (.int .i64 19)).run Tryz.prog w = .ok (.func (.func 174) #[] #[]) w := by kernel_rfl
theorem tab20 (w : World) : (Instr.index 174 (.agg table) (.int .i64 20)).run Tryz.prog w = .ok (.func (.func 175) #[] #[]) w := by kernel_rfl
theorem table_cells : table.all (·.oneCell') = true := by kernel_rfl
theorem table_info : (Tryz.prog.info? 174).map (·.size) = some table.size := by kernel_rfl
theorem table_results : Tryz.f153.results = #[.cell 0 174] := by kernel_rfl
set_option maxHeartbeats 1000000 in
theorem functions_any (w : World) :
    Calls Tryz.prog 153 #[] w fun e w' => e = .returned (.agg table) ∧ w.alloc (.cells table 174) = w' := by
  go_enter Tryz.func153, Tryz.ntmps153
  go_wp2_with (with_reducible refine wpList_store_row rfl 174 (.tmp 0) (.tmp 1) rfl w.heap.size table ?c1 ?c2 174 ?old ?c3 table_info ?c4 table_cells ?_)
  case c3 => exact heap_alloc_new _ _
  case c1 => rfl
  case c2 => rfl
  case c4 => rfl
  rw [World.setRow_alloc_new]
  exact bodyPost_ret (v := .agg table) (results_cell_row table_results _ _ w.heap.size 174 table (0, 0) (.array 21 173) rfl (heap_alloc_new _ _) Tryz.underlying174 rfl table_info) rfl ⟨rfl, rfl⟩

theorem do_1 (a b : Int) (w : World) (ha : 0 ≤ a) (ha' : a < 18446744073709551616) (hb : 0 ≤ b) (hb' : b < 18446744073709551616) :
    Calls Tryz.prog 150 #[.int .i64 1, .int .u64 a, .int .u64 b] w fun e w' => e = .returned (.tuple #[.int .u64 (doV 1 a b), .int .i64 (doE 1)]) ∧ w.alloc (.cells table 174) = w' := by
  have hi := tab1
  go_enter Tryz.func150, Tryz.ntmps150
  go_wp2_with (first
    | (go_at_call 153; refine (functions_any _).mono ?_; rintro e w' ⟨rfl, rfl⟩)
    | (go_at_call 154; refine (fAdd _ _ _).mono ?_; rintro e w' ⟨rfl, rfl⟩))
  go_ret2
  exact ⟨ret_int2 rfl (doE_in (by omega) (by omega)).symm, rfl⟩
theorem do_2 (a b : Int) (w : World) (ha : 0 ≤ a) (ha' : a < 18446744073709551616) (hb : 0 ≤ b) (hb' : b < 18446744073709551616) :
    Calls Tryz.prog 150 #[.int .i64 2, .int .u64 a, .int .u64 b] w fun e w' => e = .returned (.tuple #[.int .u64 (doV 2 a b), .int .i64 (doE 2)]) ∧ w.alloc (.cells table 174) = w' := by
  have hi := tab2
  go_enter Tryz.func150, Tryz.ntmps150
  go_wp2_with (first
    | (go_at_call 153; refine (functions_any _).mono ?_; rintro e w' ⟨rfl, rfl⟩)
    | (go_at_call 155; refine (fSub _ _ _).mono ?_; rintro e w' ⟨rfl, rfl⟩))
  go_ret2
  exact ⟨ret_int2 rfl (doE_in (by omega) (by omega)).symm, rfl⟩
theorem do_3 (a b : Int) (w : World) (ha : 0 ≤ a) (ha' : a < 18446744073709551616) (hb : 0 ≤ b) (hb' : b < 18446744073709551616) :
    Calls Tryz.prog 150 #[.int .i64 3, .int .u64 a, .int .u64 b] w fun e w' => e = .returned (.tuple #[.int .u64 (doV 3 a b), .int .i64 (doE 3)]) ∧ w.alloc (.cells table 174) = w' := by
  have hi := tab3
  go_enter Tryz.func150, Tryz.ntmps150
  go_wp2_with (first
    | (go_at_call 153; refine (functions_any _).mono ?_; rintro e w' ⟨rfl, rfl⟩)
    | (go_at_call 156; refine (fMul _ _ _).mono ?_; rintro e w' ⟨rfl, rfl⟩))
  go_ret2
  exact ⟨ret_int2 rfl (doE_in (by omega) (by omega)).symm, rfl⟩
theorem do_4 (a b : Int) (w : World) (ha : 0 ≤ a) (ha' : a < 18446744073709551616) (hb : 0 ≤ b) (hb' : b < 18446744073709551616) :
    Calls Tryz.prog 150 #[.int .i64 4, .int .u64 a, .int .u64 b] w fun e w' => e = .returned (.tuple #[.int .u64 (doV 4 a b), .int .i64 (doE 4)]) ∧ w.alloc (.cells table 174) = w' := by
  have hi := tab4
  go_enter Tryz.func150, Tryz.ntmps150
  go_wp2_with (first
    | (go_at_call 153; refine (functions_any _).mono ?_; rintro e w' ⟨rfl, rfl⟩)
    | (go_at_call 157; refine (fMulh _ _ _ ha ha' hb hb').mono ?_; rintro e w' ⟨rfl, rfl⟩))
  go_ret2
  exact ⟨ret_int2 rfl (doE_in (by omega) (by omega)).symm, rfl⟩
theorem do_5 (a b : Int) (w : World) (ha : 0 ≤ a) (ha' : a < 18446744073709551616) (hb : 0 ≤ b) (hb' : b < 18446744073709551616) :
    Calls Tryz.prog 150 #[.int .i64 5, .int .u64 a, .int .u64 b] w fun e w' => e = .returned (.tuple #[.int .u64 (doV 5 a b), .int .i64 (doE 5)]) ∧ w.alloc (.cells table 174) = w' := by
  have hi := tab5
  go_enter Tryz.func150, Tryz.ntmps150
  go_wp2_with (first
    | (go_at_call 153; refine (functions_any _).mono ?_; rintro e w' ⟨rfl, rfl⟩)
    | (go_at_call 158; refine (upper_any _ _ _ ha ha' hb hb').mono ?_; rintro e w' ⟨rfl, rfl⟩))
  go_ret2
  exact ⟨ret_int2 rfl (doE_in (by omega) (by omega)).symm, rfl⟩
theorem do_6 (a b : Int) (w : World) (ha : 0 ≤ a) (ha' : a < 18446744073709551616) (hb : 0 ≤ b) (hb' : b < 18446744073709551616) :
    Calls Tryz.prog 150 #[.int .i64 6, .int .u64 a, .int .u64 b] w fun e w' => e = .returned (.tuple #[.int .u64 (doV 6 a b), .int .i64 (doE 6)]) ∧ w.alloc (.cells table 174) = w' := by
  have hi := tab6
  go_enter Tryz.func150, Tryz.ntmps150
  go_wp2_with (first
    | (go_at_call 153; refine (functions_any _).mono ?_; rintro e w' ⟨rfl, rfl⟩)
    | (go_at_call 160; refine (fMulhsu _ _ _ ha ha' hb hb').mono ?_; rintro e w' ⟨rfl, rfl⟩))
  go_ret2
  exact ⟨ret_int2 rfl (doE_in (by omega) (by omega)).symm, rfl⟩
theorem do_7 (a b : Int) (w : World) (ha : 0 ≤ a) (ha' : a < 18446744073709551616) (hb : 0 ≤ b) (hb' : b < 18446744073709551616) :
    Calls Tryz.prog 150 #[.int .i64 7, .int .u64 a, .int .u64 b] w fun e w' => e = .returned (.tuple #[.int .u64 (doV 7 a b), .int .i64 (doE 7)]) ∧ w.alloc (.cells table 174) = w' := by
  have hi := tab7
  go_enter Tryz.func150, Tryz.ntmps150
  go_wp2_with (first
    | (go_at_call 153; refine (functions_any _).mono ?_; rintro e w' ⟨rfl, rfl⟩)
    | (go_at_call 161; refine (fDiv _ _ _ ha ha' hb hb').mono ?_; rintro e w' ⟨rfl, rfl⟩))
  go_ret2
  exact ⟨ret_int2 rfl (doE_in (by omega) (by omega)).symm, rfl⟩
theorem do_8 (a b : Int) (w : World) (ha : 0 ≤ a) (ha' : a < 18446744073709551616) (hb : 0 ≤ b) (hb' : b < 18446744073709551616) :
    Calls Tryz.prog 150 #[.int .i64 8, .int .u64 a, .int .u64 b] w fun e w' => e = .returned (.tuple #[.int .u64 (doV 8 a b), .int .i64 (doE 8)]) ∧ w.alloc (.cells table 174) = w' := by
  have hi := tab8
  go_enter Tryz.func150, Tryz.ntmps150
  go_wp2_with (first
    | (go_at_call 153; refine (functions_any _).mono ?_; rintro e w' ⟨rfl, rfl⟩)
    | (go_at_call 162; refine (fDivu _ _ _ ha ha' hb hb').mono ?_; rintro e w' ⟨rfl, rfl⟩))
  go_ret2
  exact ⟨ret_int2 rfl (doE_in (by omega) (by omega)).symm, rfl⟩
theorem do_9 (a b : Int) (w : World) (ha : 0 ≤ a) (ha' : a < 18446744073709551616) (hb : 0 ≤ b) (hb' : b < 18446744073709551616) :
    Calls Tryz.prog 150 #[.int .i64 9, .int .u64 a, .int .u64 b] w fun e w' => e = .returned (.tuple #[.int .u64 (doV 9 a b), .int .i64 (doE 9)]) ∧ w.alloc (.cells table 174) = w' := by
  have hi := tab9
  go_enter Tryz.func150, Tryz.ntmps150
  go_wp2_with (first
    | (go_at_call 153; refine (functions_any _).mono ?_; rintro e w' ⟨rfl, rfl⟩)
    | (go_at_call 163; refine (fRem _ _ _ ha ha' hb hb').mono ?_; rintro e w' ⟨rfl, rfl⟩))
  go_ret2
  exact ⟨ret_int2 rfl (doE_in (by omega) (by omega)).symm, rfl⟩
theorem do_10 (a b : Int) (w : World) (ha : 0 ≤ a) (ha' : a < 18446744073709551616) (hb : 0 ≤ b) (hb' : b < 18446744073709551616) :
    Calls Tryz.prog 150 #[.int .i64 10, .int .u64 a, .int .u64 b] w fun e w' => e = .returned (.tuple #[.int .u64 (doV 10 a b), .int .i64 (doE 10)]) ∧ w.alloc (.cells table 174) = w' := by
  have hi := tab10
  go_enter Tryz.func150, Tryz.ntmps150
  go_wp2_with (first
    | (go_at_call 153; refine (functions_any _).mono ?_; rintro e w' ⟨rfl, rfl⟩)
    | (go_at_call 164; refine (fRemu _ _ _ ha ha' hb hb').mono ?_; rintro e w' ⟨rfl, rfl⟩))
  go_ret2
  exact ⟨ret_int2 rfl (doE_in (by omega) (by omega)).symm, rfl⟩
theorem do_11 (a b : Int) (w : World) (ha : 0 ≤ a) (ha' : a < 18446744073709551616) (hb : 0 ≤ b) (hb' : b < 18446744073709551616) :
    Calls Tryz.prog 150 #[.int .i64 11, .int .u64 a, .int .u64 b] w fun e w' => e = .returned (.tuple #[.int .u64 (doV 11 a b), .int .i64 (doE 11)]) ∧ w.alloc (.cells table 174) = w' := by
  have hi := tab11
  go_enter Tryz.func150, Tryz.ntmps150
  go_wp2_with (first
    | (go_at_call 153; refine (functions_any _).mono ?_; rintro e w' ⟨rfl, rfl⟩)
    | (go_at_call 165; refine (fAnd _ _ _).mono ?_; rintro e w' ⟨rfl, rfl⟩))
  go_ret2
  exact ⟨ret_int2 rfl (doE_in (by omega) (by omega)).symm, rfl⟩
theorem do_12 (a b : Int) (w : World) (ha : 0 ≤ a) (ha' : a < 18446744073709551616) (hb : 0 ≤ b) (hb' : b < 18446744073709551616) :
    Calls Tryz.prog 150 #[.int .i64 12, .int .u64 a, .int .u64 b] w fun e w' => e = .returned (.tuple #[.int .u64 (doV 12 a b), .int .i64 (doE 12)]) ∧ w.alloc (.cells table 174) = w' := by
  have hi := tab12
  go_enter Tryz.func150, Tryz.ntmps150
  go_wp2_with (first
    | (go_at_call 153; refine (functions_any _).mono ?_; rintro e w' ⟨rfl, rfl⟩)
    | (go_at_call 166; refine (fOr _ _ _).mono ?_; rintro e w' ⟨rfl, rfl⟩))
  go_ret2
  exact ⟨ret_int2 rfl (doE_in (by omega) (by omega)).symm, rfl⟩
theorem do_13 (a b : Int) (w : World) (ha : 0 ≤ a) (ha' : a < 18446744073709551616) (hb : 0 ≤ b) (hb' : b < 18446744073709551616) :
    Calls Tryz.prog 150 #[.int .i64 13, .int .u64 a, .int .u64 b] w fun e w' => e = .returned (.tuple #[.int .u64 (doV 13 a b), .int .i64 (doE 13)]) ∧ w.alloc (.cells table 174) = w' := by
  have hi := tab13
  go_enter Tryz.func150, Tryz.ntmps150
  go_wp2_with (first
    | (go_at_call 153; refine (functions_any _).mono ?_; rintro e w' ⟨rfl, rfl⟩)
    | (go_at_call 167; refine (fXor _ _ _).mono ?_; rintro e w' ⟨rfl, rfl⟩))
  go_ret2
  exact ⟨ret_int2 rfl (doE_in (by omega) (by omega)).symm, rfl⟩
theorem do_14 (a b : Int) (w : World) (ha : 0 ≤ a) (ha' : a < 18446744073709551616) (hb : 0 ≤ b) (hb' : b < 18446744073709551616) :
    Calls Tryz.prog 150 #[.int .i64 14, .int .u64 a, .int .u64 b] w fun e w' => e = .returned (.tuple #[.int .u64 (doV 14 a b), .int .i64 (doE 14)]) ∧ w.alloc (.cells table 174) = w' := by
  have hi := tab14
  go_enter Tryz.func150, Tryz.ntmps150
  go_wp2_with (first
    | (go_at_call 153; refine (functions_any _).mono ?_; rintro e w' ⟨rfl, rfl⟩)
    | (go_at_call 168; refine (fShl _ _ _ ha ha' hb hb').mono ?_; rintro e w' ⟨rfl, rfl⟩))
  go_ret2
  exact ⟨ret_int2 rfl (doE_in (by omega) (by omega)).symm, rfl⟩
theorem do_15 (a b : Int) (w : World) (ha : 0 ≤ a) (ha' : a < 18446744073709551616) (hb : 0 ≤ b) (hb' : b < 18446744073709551616) :
    Calls Tryz.prog 150 #[.int .i64 15, .int .u64 a, .int .u64 b] w fun e w' => e = .returned (.tuple #[.int .u64 (doV 15 a b), .int .i64 (doE 15)]) ∧ w.alloc (.cells table 174) = w' := by
  have hi := tab15
  go_enter Tryz.func150, Tryz.ntmps150
  go_wp2_with (first
    | (go_at_call 153; refine (functions_any _).mono ?_; rintro e w' ⟨rfl, rfl⟩)
    | (go_at_call 169; refine (fShr _ _ _ ha ha' hb hb').mono ?_; rintro e w' ⟨rfl, rfl⟩))
  go_ret2
  exact ⟨ret_int2 rfl (doE_in (by omega) (by omega)).symm, rfl⟩
theorem do_16 (a b : Int) (w : World) (ha : 0 ≤ a) (ha' : a < 18446744073709551616) (hb : 0 ≤ b) (hb' : b < 18446744073709551616) :
    Calls Tryz.prog 150 #[.int .i64 16, .int .u64 a, .int .u64 b] w fun e w' => e = .returned (.tuple #[.int .u64 (doV 16 a b), .int .i64 (doE 16)]) ∧ w.alloc (.cells table 174) = w' := by
  have hi := tab16
  go_enter Tryz.func150, Tryz.ntmps150
  go_wp2_with (first
    | (go_at_call 153; refine (functions_any _).mono ?_; rintro e w' ⟨rfl, rfl⟩)
    | (go_at_call 170; refine (fSar _ _ _ ha ha' hb hb').mono ?_; rintro e w' ⟨rfl, rfl⟩))
  go_ret2
  exact ⟨ret_int2 rfl (doE_in (by omega) (by omega)).symm, rfl⟩
theorem do_17 (a b : Int) (w : World) (ha : 0 ≤ a) (ha' : a < 18446744073709551616) (hb : 0 ≤ b) (hb' : b < 18446744073709551616) :
    Calls Tryz.prog 150 #[.int .i64 17, .int .u64 a, .int .u64 b] w fun e w' => e = .returned (.tuple #[.int .u64 (doV 17 a b), .int .i64 (doE 17)]) ∧ w.alloc (.cells table 174) = w' := by
  have hi := tab17
  go_enter Tryz.func150, Tryz.ntmps150
  go_wp2_with (first
    | (go_at_call 153; refine (functions_any _).mono ?_; rintro e w' ⟨rfl, rfl⟩)
    | (go_at_call 171; refine (fLt _ _ _ ha ha' hb hb').mono ?_; rintro e w' ⟨rfl, rfl⟩))
  go_ret2
  exact ⟨ret_int2 rfl (doE_in (by omega) (by omega)).symm, rfl⟩
theorem do_18 (a b : Int) (w : World) (ha : 0 ≤ a) (ha' : a < 18446744073709551616) (hb : 0 ≤ b) (hb' : b < 18446744073709551616) :
    Calls Tryz.prog 150 #[.int .i64 18, .int .u64 a, .int .u64 b] w fun e w' => e = .returned (.tuple #[.int .u64 (doV 18 a b), .int .i64 (doE 18)]) ∧ w.alloc (.cells table 174) = w' := by
  have hi := tab18
  go_enter Tryz.func150, Tryz.ntmps150
  go_wp2_with (first
    | (go_at_call 153; refine (functions_any _).mono ?_; rintro e w' ⟨rfl, rfl⟩)
    | (go_at_call 173; refine (fLtu _ _ _ ha ha' hb hb').mono ?_; rintro e w' ⟨rfl, rfl⟩))
  go_ret2
  exact ⟨ret_int2 rfl (doE_in (by omega) (by omega)).symm, rfl⟩
theorem do_19 (a b : Int) (w : World) (ha : 0 ≤ a) (ha' : a < 18446744073709551616) (hb : 0 ≤ b) (hb' : b < 18446744073709551616) :
    Calls Tryz.prog 150 #[.int .i64 19, .int .u64 a, .int .u64 b] w fun e w' => e = .returned (.tuple #[.int .u64 (doV 19 a b), .int .i64 (doE 19)]) ∧ w.alloc (.cells table 174) = w' := by
  have hi := tab19
  go_enter Tryz.func150, Tryz.ntmps150
  go_wp2_with (first
    | (go_at_call 153; refine (functions_any _).mono ?_; rintro e w' ⟨rfl, rfl⟩)
    | (go_at_call 174; refine (fEq _ _ _ ha ha' hb hb').mono ?_; rintro e w' ⟨rfl, rfl⟩))
  go_ret2
  exact ⟨ret_int2 rfl (doE_in (by omega) (by omega)).symm, rfl⟩
theorem do_20 (a b : Int) (w : World) (ha : 0 ≤ a) (ha' : a < 18446744073709551616) (hb : 0 ≤ b) (hb' : b < 18446744073709551616) :
    Calls Tryz.prog 150 #[.int .i64 20, .int .u64 a, .int .u64 b] w fun e w' => e = .returned (.tuple #[.int .u64 (doV 20 a b), .int .i64 (doE 20)]) ∧ w.alloc (.cells table 174) = w' := by
  have hi := tab20
  go_enter Tryz.func150, Tryz.ntmps150
  go_wp2_with (first
    | (go_at_call 153; refine (functions_any _).mono ?_; rintro e w' ⟨rfl, rfl⟩)
    | (go_at_call 175; refine (fNe _ _ _ ha ha' hb hb').mono ?_; rintro e w' ⟨rfl, rfl⟩))
  go_ret2
  exact ⟨ret_int2 rfl (doE_in (by omega) (by omega)).symm, rfl⟩
theorem do_out (fn a b : Int) (w : World) (h : fn < 1 ∨ 20 < fn) :
    Calls Tryz.prog 150 #[.int .i64 fn, .int .u64 a, .int .u64 b] w fun e w' => e = .returned (.tuple #[.int .u64 (doV fn a b), .int .i64 (doE fn)]) ∧ w = w' := by
  have hv := doV_out (a := a) (b := b) h
  have he := doE_out h
  rw [hv, he]
  clear hv he
  by_cases h1 : fn < 1
  · go_enter Tryz.func150, Tryz.ntmps150
    go_wp2
    go_ret2
    exact ⟨rfl, rfl⟩
  · have h2 : 20 < fn := by omega
    clear h
    go_enter Tryz.func150, Tryz.ntmps150
    go_wp2
    go_ret2
    exact ⟨rfl, rfl⟩
theorem do_any (fn a b : Int) (w : World) (ha : 0 ≤ a) (ha' : a < 18446744073709551616) (hb : 0 ≤ b) (hb' : b < 18446744073709551616) :
    Calls Tryz.prog 150 #[.int .i64 fn, .int .u64 a, .int .u64 b] w fun e w' => e = .returned (.tuple #[.int .u64 (doV fn a b), .int .i64 (doE fn)]) ∧ Below w.heap.size w w' := by
  by_cases h : fn < 1 ∨ 20 < fn
  · exact (do_out fn a b w h).mono fun _ _ ⟨he, hw⟩ => ⟨he, hw ▸ Below.refl _ _⟩
  · rcases do_cases (fn := fn) (by omega) (by omega) with rfl | rfl | rfl | rfl | rfl | rfl | rfl | rfl | rfl | rfl | rfl | rfl | rfl | rfl | rfl | rfl | rfl | rfl | rfl | rfl

    · exact (do_1 a b w ha ha' hb hb').mono fun _ _ ⟨he, hw⟩ => ⟨he, hw ▸ (Below.refl _ _).alloc (Nat.le_refl _) _⟩
    · exact (do_2 a b w ha ha' hb hb').mono fun _ _ ⟨he, hw⟩ => ⟨he, hw ▸ (Below.refl _ _).alloc (Nat.le_refl _) _⟩
    · exact (do_3 a b w ha ha' hb hb').mono fun _ _ ⟨he, hw⟩ => ⟨he, hw ▸ (Below.refl _ _).alloc (Nat.le_refl _) _⟩
    · exact (do_4 a b w ha ha' hb hb').mono fun _ _ ⟨he, hw⟩ => ⟨he, hw ▸ (Below.refl _ _).alloc (Nat.le_refl _) _⟩
    · exact (do_5 a b w ha ha' hb hb').mono fun _ _ ⟨he, hw⟩ => ⟨he, hw ▸ (Below.refl _ _).alloc (Nat.le_refl _) _⟩
    · exact (do_6 a b w ha ha' hb hb').mono fun _ _ ⟨he, hw⟩ => ⟨he, hw ▸ (Below.refl _ _).alloc (Nat.le_refl _) _⟩
    · exact (do_7 a b w ha ha' hb hb').mono fun _ _ ⟨he, hw⟩ => ⟨he, hw ▸ (Below.refl _ _).alloc (Nat.le_refl _) _⟩
    · exact (do_8 a b w ha ha' hb hb').mono fun _ _ ⟨he, hw⟩ => ⟨he, hw ▸ (Below.refl _ _).alloc (Nat.le_refl _) _⟩
    · exact (do_9 a b w ha ha' hb hb').mono fun _ _ ⟨he, hw⟩ => ⟨he, hw ▸ (Below.refl _ _).alloc (Nat.le_refl _) _⟩
    · exact (do_10 a b w ha ha' hb hb').mono fun _ _ ⟨he, hw⟩ => ⟨he, hw ▸ (Below.refl _ _).alloc (Nat.le_refl _) _⟩
    · exact (do_11 a b w ha ha' hb hb').mono fun _ _ ⟨he, hw⟩ => ⟨he, hw ▸ (Below.refl _ _).alloc (Nat.le_refl _) _⟩
    · exact (do_12 a b w ha ha' hb hb').mono fun _ _ ⟨he, hw⟩ => ⟨he, hw ▸ (Below.refl _ _).alloc (Nat.le_refl _) _⟩
    · exact (do_13 a b w ha ha' hb hb').mono fun _ _ ⟨he, hw⟩ => ⟨he, hw ▸ (Below.refl _ _).alloc (Nat.le_refl _) _⟩
    · exact (do_14 a b w ha ha' hb hb').mono fun _ _ ⟨he, hw⟩ => ⟨he, hw ▸ (Below.refl _ _).alloc (Nat.le_refl _) _⟩
    · exact (do_15 a b w ha ha' hb hb').mono fun _ _ ⟨he, hw⟩ => ⟨he, hw ▸ (Below.refl _ _).alloc (Nat.le_refl _) _⟩
    · exact (do_16 a b w ha ha' hb hb').mono fun _ _ ⟨he, hw⟩ => ⟨he, hw ▸ (Below.refl _ _).alloc (Nat.le_refl _) _⟩
    · exact (do_17 a b w ha ha' hb hb').mono fun _ _ ⟨he, hw⟩ => ⟨he, hw ▸ (Below.refl _ _).alloc (Nat.le_refl _) _⟩
    · exact (do_18 a b w ha ha' hb hb').mono fun _ _ ⟨he, hw⟩ => ⟨he, hw ▸ (Below.refl _ _).alloc (Nat.le_refl _) _⟩
    · exact (do_19 a b w ha ha' hb hb').mono fun _ _ ⟨he, hw⟩ => ⟨he, hw ▸ (Below.refl _ _).alloc (Nat.le_refl _) _⟩
    · exact (do_20 a b w ha ha' hb hb').mono fun _ _ ⟨he, hw⟩ => ⟨he, hw ▸ (Below.refl _ _).alloc (Nat.le_refl _) _⟩
end Go.Proofs.YtnaceogkaiodnaaGreat

namespace Go.Proofs.YtnaceogkaiodnaaGreat
open Go.RowKit
set_option linter.unusedVariables false

theorem zext_1 (a : Int) (w : World) (ha : 0 ≤ a) (ha' : a < 18446744073709551616) : Calls Tryz.prog 133 #[.int .u64 a, .int .i64 1] w fun e w' => e = .returned (.int .u64 (zextV a 1)) ∧ w = w' := by
  go_enter Tryz.func133, Tryz.ntmps133
  go_wp2
  go_ret
  refine ⟨ret_int ?_, rfl⟩
  try simp only [IntKind.wrap_u64]
  rw [zextV_1]; try omega
theorem zext_2 (a : Int) (w : World) (ha : 0 ≤ a) (ha' : a < 18446744073709551616) : Calls Tryz.prog 133 #[.int .u64 a, .int .i64 2] w fun e w' => e = .returned (.int .u64 (zextV a 2)) ∧ w = w' := by
  go_enter Tryz.func133, Tryz.ntmps133
  go_wp2
  go_ret
  refine ⟨ret_int ?_, rfl⟩
  try simp only [IntKind.wrap_u64]
  rw [zextV_2]; try omega
theorem zext_4 (a : Int) (w : World) (ha : 0 ≤ a) (ha' : a < 18446744073709551616) : Calls Tryz.prog 133 #[.int .u64 a, .int .i64 4] w fun e w' => e = .returned (.int .u64 (zextV a 4)) ∧ w = w' := by
  go_enter Tryz.func133, Tryz.ntmps133
  go_wp2
  go_ret
  refine ⟨ret_int ?_, rfl⟩
  try simp only [IntKind.wrap_u64]
  rw [zextV_4]; try omega
theorem zext_8 (a : Int) (w : World) (ha : 0 ≤ a) (ha' : a < 18446744073709551616) : Calls Tryz.prog 133 #[.int .u64 a, .int .i64 8] w fun e w' => e = .returned (.int .u64 (zextV a 8)) ∧ w = w' := by
  go_enter Tryz.func133, Tryz.ntmps133
  go_wp2
  go_ret
  refine ⟨ret_int ?_, rfl⟩
  try simp only [IntKind.wrap_u64]
  rw [zextV_8]; try omega
theorem zext_no (a s : Int) (w : World) (h : sizedB s = false) : Calls Tryz.prog 133 #[.int .u64 a, .int .i64 s] w fun e w' => e = .returned (.int .u64 (zextV a s)) ∧ w = w' := by
  rw [zextV_not h]
  have H := Lib.hid h
  clear h
  go_enter Tryz.func133, Tryz.ntmps133
  go_wp2_with (go_at_call 78; refine (isSize_any_no H.out _).mono ?_; rintro e w' ⟨rfl, rfl⟩)
  go_ret
  exact ⟨rfl, rfl⟩
theorem zext_any (a s : Int) (w : World) (ha : 0 ≤ a) (ha' : a < 18446744073709551616) : Calls Tryz.prog 133 #[.int .u64 a, .int .i64 s] w fun e w' => e = .returned (.int .u64 (zextV a s)) ∧ w = w' := by
  cases h : sizedB s
  · exact zext_no a s w h
  · rcases sized_cases h with rfl | rfl | rfl | rfl
    · exact zext_1 a w ha ha'
    · exact zext_2 a w ha ha'
    · exact zext_4 a w ha ha'
    · exact zext_8 a w ha ha'
theorem sext_1 (a : Int) (w : World) (ha : 0 ≤ a) (ha' : a < 18446744073709551616) : Calls Tryz.prog 132 #[.int .u64 a, .int .i64 1] w fun e w' => e = .returned (.int .u64 (sextV a 1)) ∧ w = w' := by
  go_enter Tryz.func132, Tryz.ntmps132
  go_wp2
  go_ret
  refine ⟨ret_int ?_, rfl⟩
  try simp only [IntKind.wrap_u64]
  rw [sextV_1]
  try unfold sext1
  unfold wrap64
  omega
theorem sext_2 (a : Int) (w : World) (ha : 0 ≤ a) (ha' : a < 18446744073709551616) : Calls Tryz.prog 132 #[.int .u64 a, .int .i64 2] w fun e w' => e = .returned (.int .u64 (sextV a 2)) ∧ w = w' := by
  go_enter Tryz.func132, Tryz.ntmps132
  go_wp2
  go_ret
  refine ⟨ret_int ?_, rfl⟩
  try simp only [IntKind.wrap_u64]
  rw [sextV_2]
  try unfold sext1
  unfold wrap64
  omega
theorem sext_4 (a : Int) (w : World) (ha : 0 ≤ a) (ha' : a < 18446744073709551616) : Calls Tryz.prog 132 #[.int .u64 a, .int .i64 4] w fun e w' => e = .returned (.int .u64 (sextV a 4)) ∧ w = w' := by
  go_enter Tryz.func132, Tryz.ntmps132
  go_wp2
  go_ret
  refine ⟨ret_int ?_, rfl⟩
  try simp only [IntKind.wrap_u64]
  rw [sextV_4]
  try unfold sext1
  unfold wrap64
  omega
theorem sext_8 (a : Int) (w : World) (ha : 0 ≤ a) (ha' : a < 18446744073709551616) : Calls Tryz.prog 132 #[.int .u64 a, .int .i64 8] w fun e w' => e = .returned (.int .u64 (sextV a 8)) ∧ w = w' := by
  go_enter Tryz.func132, Tryz.ntmps132
  go_wp2
  go_ret
  refine ⟨ret_int ?_, rfl⟩
  try simp only [IntKind.wrap_u64]
  rw [sextV_8]
  try unfold sext1
  unfold wrap64
  omega
theorem sext_no (a s : Int) (w : World) (h : sizedB s = false) : Calls Tryz.prog 132 #[.int .u64 a, .int .i64 s] w fun e w' => e = .returned (.int .u64 (sextV a s)) ∧ w = w' := by
  rw [sextV_not h]
  have H := Lib.hid h
  clear h
  go_enter Tryz.func132, Tryz.ntmps132
  go_wp2_with (go_at_call 78; refine (isSize_any_no H.out _).mono ?_; rintro e w' ⟨rfl, rfl⟩)
  go_ret
  exact ⟨rfl, rfl⟩
theorem sext_any (a s : Int) (w : World) (ha : 0 ≤ a) (ha' : a < 18446744073709551616) : Calls Tryz.prog 132 #[.int .u64 a, .int .i64 s] w fun e w' => e = .returned (.int .u64 (sextV a s)) ∧ w = w' := by
  cases h : sizedB s
  · exact sext_no a s w h
  · rcases sized_cases h with rfl | rfl | rfl | rfl
    · exact sext_1 a w ha ha'
    · exact sext_2 a w ha ha'
    · exact sext_4 a w ha ha'
    · exact sext_8 a w ha ha'
theorem half_1 (a b : Int) (w : World) (ha : 0 ≤ a) (ha' : a < 18446744073709551616) (hb : 0 ≤ b) (hb' : b < 18446744073709551616) :
    Calls Tryz.prog 151 #[.int .i64 1, .int .u64 a, .int .u64 b] w fun e w' => e = .returned (.tuple #[.int .u64 (halfV 1 a b), .int .i64 (halfE 1)]) ∧ w.alloc (.cells table 174) = w' := by
  have hi := tab1
  have hx := zextV_bd (s := 4) ha ha'
  have hy := zextV_bd (s := 4) hb hb'
  have hv := doV_bd (fn := 1) hx.1 hx.2 hy.1 hy.2
  have e : halfV 1 a b = sextV (doV 1 (zextV a 4) (zextV b 4)) 4 := by simp [halfV, halfB, halfX, halfY]
  have e' : halfE 1 = 0 := by simp [halfE, halfB]
  rw [e, e']
  clear e e'
  obtain ⟨hx1, hx2⟩ := hx
  obtain ⟨hy1, hy2⟩ := hy
  go_enter Tryz.func151, Tryz.ntmps151
  go_wp2_with (first
    | (go_at_call 153; refine (functions_any _).mono ?_; rintro e w' ⟨rfl, rfl⟩)
    | (go_at_call 133; (first | (with_reducible refine (zext_4 a _ ha ha').mono ?_) | (with_reducible refine (zext_4 b _ hb hb').mono ?_)); rintro e w' ⟨rfl, rfl⟩)
    | (go_at_call 154; (with_reducible refine (fAdd _ _ _).mono ?_); rintro e w' ⟨rfl, rfl⟩)
    | (go_at_call 132; (with_reducible refine (sext_4 _ _ hv.1 hv.2).mono ?_); rintro e w' ⟨rfl, rfl⟩))
  go_ret2
  exact ⟨rfl, rfl⟩
theorem half_2 (a b : Int) (w : World) (ha : 0 ≤ a) (ha' : a < 18446744073709551616) (hb : 0 ≤ b) (hb' : b < 18446744073709551616) :
    Calls Tryz.prog 151 #[.int .i64 2, .int .u64 a, .int .u64 b] w fun e w' => e = .returned (.tuple #[.int .u64 (halfV 2 a b), .int .i64 (halfE 2)]) ∧ w.alloc (.cells table 174) = w' := by
  have hi := tab2
  have hx := zextV_bd (s := 4) ha ha'
  have hy := zextV_bd (s := 4) hb hb'
  have hv := doV_bd (fn := 2) hx.1 hx.2 hy.1 hy.2
  have e : halfV 2 a b = sextV (doV 2 (zextV a 4) (zextV b 4)) 4 := by simp [halfV, halfB, halfX, halfY]
  have e' : halfE 2 = 0 := by simp [halfE, halfB]
  rw [e, e']
  clear e e'
  obtain ⟨hx1, hx2⟩ := hx
  obtain ⟨hy1, hy2⟩ := hy
  go_enter Tryz.func151, Tryz.ntmps151
  go_wp2_with (first
    | (go_at_call 153; refine (functions_any _).mono ?_; rintro e w' ⟨rfl, rfl⟩)
    | (go_at_call 133; (first | (with_reducible refine (zext_4 a _ ha ha').mono ?_) | (with_reducible refine (zext_4 b _ hb hb').mono ?_)); rintro e w' ⟨rfl, rfl⟩)
    | (go_at_call 155; (with_reducible refine (fSub _ _ _).mono ?_); rintro e w' ⟨rfl, rfl⟩)
    | (go_at_call 132; (with_reducible refine (sext_4 _ _ hv.1 hv.2).mono ?_); rintro e w' ⟨rfl, rfl⟩))
  go_ret2
  exact ⟨rfl, rfl⟩
theorem half_3 (a b : Int) (w : World) (ha : 0 ≤ a) (ha' : a < 18446744073709551616) (hb : 0 ≤ b) (hb' : b < 18446744073709551616) :
    Calls Tryz.prog 151 #[.int .i64 3, .int .u64 a, .int .u64 b] w fun e w' => e = .returned (.tuple #[.int .u64 (halfV 3 a b), .int .i64 (halfE 3)]) ∧ w.alloc (.cells table 174) = w' := by
  have hi := tab3
  have hx := zextV_bd (s := 4) ha ha'
  have hy := zextV_bd (s := 4) hb hb'
  have hv := doV_bd (fn := 3) hx.1 hx.2 hy.1 hy.2
  have e : halfV 3 a b = sextV (doV 3 (zextV a 4) (zextV b 4)) 4 := by simp [halfV, halfB, halfX, halfY]
  have e' : halfE 3 = 0 := by simp [halfE, halfB]
  rw [e, e']
  clear e e'
  obtain ⟨hx1, hx2⟩ := hx
  obtain ⟨hy1, hy2⟩ := hy
  go_enter Tryz.func151, Tryz.ntmps151
  go_wp2_with (first
    | (go_at_call 153; refine (functions_any _).mono ?_; rintro e w' ⟨rfl, rfl⟩)
    | (go_at_call 133; (first | (with_reducible refine (zext_4 a _ ha ha').mono ?_) | (with_reducible refine (zext_4 b _ hb hb').mono ?_)); rintro e w' ⟨rfl, rfl⟩)
    | (go_at_call 156; (with_reducible refine (fMul _ _ _).mono ?_); rintro e w' ⟨rfl, rfl⟩)
    | (go_at_call 132; (with_reducible refine (sext_4 _ _ hv.1 hv.2).mono ?_); rintro e w' ⟨rfl, rfl⟩))
  go_ret2
  exact ⟨rfl, rfl⟩
theorem half_7 (a b : Int) (w : World) (ha : 0 ≤ a) (ha' : a < 18446744073709551616) (hb : 0 ≤ b) (hb' : b < 18446744073709551616) :
    Calls Tryz.prog 151 #[.int .i64 7, .int .u64 a, .int .u64 b] w fun e w' => e = .returned (.tuple #[.int .u64 (halfV 7 a b), .int .i64 (halfE 7)]) ∧ w.alloc (.cells table 174) = w' := by
  have hi := tab7
  have hx := sextV_bd (s := 4) ha ha'
  have hy := sextV_bd (s := 4) hb hb'
  have hv := doV_bd (fn := 7) hx.1 hx.2 hy.1 hy.2
  have e : halfV 7 a b = sextV (doV 7 (sextV a 4) (sextV b 4)) 4 := by simp [halfV, halfB, halfX, halfY]
  have e' : halfE 7 = 0 := by simp [halfE, halfB]
  rw [e, e']
  clear e e'
  obtain ⟨hx1, hx2⟩ := hx
  obtain ⟨hy1, hy2⟩ := hy
  go_enter Tryz.func151, Tryz.ntmps151
  go_wp2_with (first
    | (go_at_call 153; refine (functions_any _).mono ?_; rintro e w' ⟨rfl, rfl⟩)
    | (go_at_call 132; (first | (with_reducible refine (sext_4 a _ ha ha').mono ?_) | (with_reducible refine (sext_4 b _ hb hb').mono ?_)); rintro e w' ⟨rfl, rfl⟩)
    | (go_at_call 161; (with_reducible refine (fDiv _ _ _ (sextV_bd ha ha').1 (sextV_bd ha ha').2 (sextV_bd hb hb').1 (sextV_bd hb hb').2).mono ?_); rintro e w' ⟨rfl, rfl⟩)
    | (go_at_call 132; (with_reducible refine (sext_4 _ _ hv.1 hv.2).mono ?_); rintro e w' ⟨rfl, rfl⟩))
  go_ret2
  exact ⟨rfl, rfl⟩
theorem half_8 (a b : Int) (w : World) (ha : 0 ≤ a) (ha' : a < 18446744073709551616) (hb : 0 ≤ b) (hb' : b < 18446744073709551616) :
    Calls Tryz.prog 151 #[.int .i64 8, .int .u64 a, .int .u64 b] w fun e w' => e = .returned (.tuple #[.int .u64 (halfV 8 a b), .int .i64 (halfE 8)]) ∧ w.alloc (.cells table 174) = w' := by
  have hi := tab8
  have hx := zextV_bd (s := 4) ha ha'
  have hy := zextV_bd (s := 4) hb hb'
  have hv := doV_bd (fn := 8) hx.1 hx.2 hy.1 hy.2
  have e : halfV 8 a b = sextV (doV 8 (zextV a 4) (zextV b 4)) 4 := by simp [halfV, halfB, halfX, halfY]
  have e' : halfE 8 = 0 := by simp [halfE, halfB]
  rw [e, e']
  clear e e'
  obtain ⟨hx1, hx2⟩ := hx
  obtain ⟨hy1, hy2⟩ := hy
  go_enter Tryz.func151, Tryz.ntmps151
  go_wp2_with (first
    | (go_at_call 153; refine (functions_any _).mono ?_; rintro e w' ⟨rfl, rfl⟩)
    | (go_at_call 133; (first | (with_reducible refine (zext_4 a _ ha ha').mono ?_) | (with_reducible refine (zext_4 b _ hb hb').mono ?_)); rintro e w' ⟨rfl, rfl⟩)
    | (go_at_call 162; (with_reducible refine (fDivu _ _ _ (zextV_bd ha ha').1 (zextV_bd ha ha').2 (zextV_bd hb hb').1 (zextV_bd hb hb').2).mono ?_); rintro e w' ⟨rfl, rfl⟩)
    | (go_at_call 132; (with_reducible refine (sext_4 _ _ hv.1 hv.2).mono ?_); rintro e w' ⟨rfl, rfl⟩))
  go_ret2
  exact ⟨rfl, rfl⟩
theorem half_9 (a b : Int) (w : World) (ha : 0 ≤ a) (ha' : a < 18446744073709551616) (hb : 0 ≤ b) (hb' : b < 18446744073709551616) :
    Calls Tryz.prog 151 #[.int .i64 9, .int .u64 a, .int .u64 b] w fun e w' => e = .returned (.tuple #[.int .u64 (halfV 9 a b), .int .i64 (halfE 9)]) ∧ w.alloc (.cells table 174) = w' := by
  have hi := tab9
  have hx := sextV_bd (s := 4) ha ha'
  have hy := sextV_bd (s := 4) hb hb'
  have hv := doV_bd (fn := 9) hx.1 hx.2 hy.1 hy.2
  have e : halfV 9 a b = sextV (doV 9 (sextV a 4) (sextV b 4)) 4 := by simp [halfV, halfB, halfX, halfY]
  have e' : halfE 9 = 0 := by simp [halfE, halfB]
  rw [e, e']
  clear e e'
  obtain ⟨hx1, hx2⟩ := hx
  obtain ⟨hy1, hy2⟩ := hy
  go_enter Tryz.func151, Tryz.ntmps151
  go_wp2_with (first
    | (go_at_call 153; refine (functions_any _).mono ?_; rintro e w' ⟨rfl, rfl⟩)
    | (go_at_call 132; (first | (with_reducible refine (sext_4 a _ ha ha').mono ?_) | (with_reducible refine (sext_4 b _ hb hb').mono ?_)); rintro e w' ⟨rfl, rfl⟩)
    | (go_at_call 163; (with_reducible refine (fRem _ _ _ (sextV_bd ha ha').1 (sextV_bd ha ha').2 (sextV_bd hb hb').1 (sextV_bd hb hb').2).mono ?_); rintro e w' ⟨rfl, rfl⟩)
    | (go_at_call 132; (with_reducible refine (sext_4 _ _ hv.1 hv.2).mono ?_); rintro e w' ⟨rfl, rfl⟩))
  go_ret2
  exact ⟨rfl, rfl⟩
theorem half_10 (a b : Int) (w : World) (ha : 0 ≤ a) (ha' : a < 18446744073709551616) (hb : 0 ≤ b) (hb' : b < 18446744073709551616) :
    Calls Tryz.prog 151 #[.int .i64 10, .int .u64 a, .int .u64 b] w fun e w' => e = .returned (.tuple #[.int .u64 (halfV 10 a b), .int .i64 (halfE 10)]) ∧ w.alloc (.cells table 174) = w' := by
  have hi := tab10
  have hx := zextV_bd (s := 4) ha ha'
  have hy := zextV_bd (s := 4) hb hb'
  have hv := doV_bd (fn := 10) hx.1 hx.2 hy.1 hy.2
  have e : halfV 10 a b = sextV (doV 10 (zextV a 4) (zextV b 4)) 4 := by simp [halfV, halfB, halfX, halfY]
  have e' : halfE 10 = 0 := by simp [halfE, halfB]
  rw [e, e']
  clear e e'
  obtain ⟨hx1, hx2⟩ := hx
  obtain ⟨hy1, hy2⟩ := hy
  go_enter Tryz.func151, Tryz.ntmps151
  go_wp2_with (first
    | (go_at_call 153; refine (functions_any _).mono ?_; rintro e w' ⟨rfl, rfl⟩)
    | (go_at_call 133; (first | (with_reducible refine (zext_4 a _ ha ha').mono ?_) | (with_reducible refine (zext_4 b _ hb hb').mono ?_)); rintro e w' ⟨rfl, rfl⟩)
    | (go_at_call 164; (with_reducible refine (fRemu _ _ _ (zextV_bd ha ha').1 (zextV_bd ha ha').2 (zextV_bd hb hb').1 (zextV_bd hb hb').2).mono ?_); rintro e w' ⟨rfl, rfl⟩)
    | (go_at_call 132; (with_reducible refine (sext_4 _ _ hv.1 hv.2).mono ?_); rintro e w' ⟨rfl, rfl⟩))
  go_ret2
  exact ⟨rfl, rfl⟩
theorem half_14 (a b : Int) (w : World) (ha : 0 ≤ a) (ha' : a < 18446744073709551616) (hb : 0 ≤ b) (hb' : b < 18446744073709551616) :
    Calls Tryz.prog 151 #[.int .i64 14, .int .u64 a, .int .u64 b] w fun e w' => e = .returned (.tuple #[.int .u64 (halfV 14 a b), .int .i64 (halfE 14)]) ∧ w.alloc (.cells table 174) = w' := by
  have hi := tab14
  have hx := zextV_bd (s := 4) ha ha'
  have hy : 0 ≤ b % 32 ∧ b % 32 < 18446744073709551616 := by omega
  have hv := doV_bd (fn := 14) hx.1 hx.2 hy.1 hy.2
  have e : halfV 14 a b = sextV (doV 14 (zextV a 4) (b % 32)) 4 := by simp [halfV, halfB, halfX, halfY]
  have e' : halfE 14 = 0 := by simp [halfE, halfB]
  rw [e, e']
  clear e e'
  obtain ⟨hx1, hx2⟩ := hx
  obtain ⟨hy1, hy2⟩ := hy
  go_enter Tryz.func151, Tryz.ntmps151
  go_wp2_with (first
    | (go_at_call 153; refine (functions_any _).mono ?_; rintro e w' ⟨rfl, rfl⟩)
    | (go_at_call 133; (with_reducible refine (zext_4 a _ ha ha').mono ?_); rintro e w' ⟨rfl, rfl⟩)
    | (go_at_call 168; (with_reducible refine (fShl _ _ _ (zextV_bd ha ha').1 (zextV_bd ha ha').2 (by omega) (by omega)).mono ?_); rintro e w' ⟨rfl, rfl⟩)
    | (go_at_call 132; (with_reducible refine (sext_4 _ _ hv.1 hv.2).mono ?_); rintro e w' ⟨rfl, rfl⟩))
  go_ret2
  exact ⟨rfl, rfl⟩
theorem half_15 (a b : Int) (w : World) (ha : 0 ≤ a) (ha' : a < 18446744073709551616) (hb : 0 ≤ b) (hb' : b < 18446744073709551616) :
    Calls Tryz.prog 151 #[.int .i64 15, .int .u64 a, .int .u64 b] w fun e w' => e = .returned (.tuple #[.int .u64 (halfV 15 a b), .int .i64 (halfE 15)]) ∧ w.alloc (.cells table 174) = w' := by
  have hi := tab15
  have hx := zextV_bd (s := 4) ha ha'
  have hy : 0 ≤ b % 32 ∧ b % 32 < 18446744073709551616 := by omega
  have hv := doV_bd (fn := 15) hx.1 hx.2 hy.1 hy.2
  have e : halfV 15 a b = sextV (doV 15 (zextV a 4) (b % 32)) 4 := by simp [halfV, halfB, halfX, halfY]
  have e' : halfE 15 = 0 := by simp [halfE, halfB]
  rw [e, e']
  clear e e'
  obtain ⟨hx1, hx2⟩ := hx
  obtain ⟨hy1, hy2⟩ := hy
  go_enter Tryz.func151, Tryz.ntmps151
  go_wp2_with (first
    | (go_at_call 153; refine (functions_any _).mono ?_; rintro e w' ⟨rfl, rfl⟩)
    | (go_at_call 133; (with_reducible refine (zext_4 a _ ha ha').mono ?_); rintro e w' ⟨rfl, rfl⟩)
    | (go_at_call 169; (with_reducible refine (fShr _ _ _ (zextV_bd ha ha').1 (zextV_bd ha ha').2 (by omega) (by omega)).mono ?_); rintro e w' ⟨rfl, rfl⟩)
    | (go_at_call 132; (with_reducible refine (sext_4 _ _ hv.1 hv.2).mono ?_); rintro e w' ⟨rfl, rfl⟩))
  go_ret2
  exact ⟨rfl, rfl⟩
theorem half_16 (a b : Int) (w : World) (ha : 0 ≤ a) (ha' : a < 18446744073709551616) (hb : 0 ≤ b) (hb' : b < 18446744073709551616) :
    Calls Tryz.prog 151 #[.int .i64 16, .int .u64 a, .int .u64 b] w fun e w' => e = .returned (.tuple #[.int .u64 (halfV 16 a b), .int .i64 (halfE 16)]) ∧ w.alloc (.cells table 174) = w' := by
  have hi := tab16
  have hx := sextV_bd (s := 4) ha ha'
  have hy : 0 ≤ b % 32 ∧ b % 32 < 18446744073709551616 := by omega
  have hv := doV_bd (fn := 16) hx.1 hx.2 hy.1 hy.2
  have e : halfV 16 a b = sextV (doV 16 (sextV a 4) (b % 32)) 4 := by simp [halfV, halfB, halfX, halfY]
  have e' : halfE 16 = 0 := by simp [halfE, halfB]
  rw [e, e']
  clear e e'
  obtain ⟨hx1, hx2⟩ := hx
  obtain ⟨hy1, hy2⟩ := hy
  go_enter Tryz.func151, Tryz.ntmps151
  go_wp2_with (first
    | (go_at_call 153; refine (functions_any _).mono ?_; rintro e w' ⟨rfl, rfl⟩)
    | (go_at_call 132; (with_reducible refine (sext_4 a _ ha ha').mono ?_); rintro e w' ⟨rfl, rfl⟩)
    | (go_at_call 170; (with_reducible refine (fSar _ _ _ (sextV_bd ha ha').1 (sextV_bd ha ha').2 (by omega) (by omega)).mono ?_); rintro e w' ⟨rfl, rfl⟩)
    | (go_at_call 132; (with_reducible refine (sext_4 _ _ hv.1 hv.2).mono ?_); rintro e w' ⟨rfl, rfl⟩))
  go_ret2
  exact ⟨rfl, rfl⟩
theorem half_no (fn a b : Int) (w : World) (h : halfB fn = false) :
    Calls Tryz.prog 151 #[.int .i64 fn, .int .u64 a, .int .u64 b] w fun e w' => e = .returned (.tuple #[.int .u64 (halfV fn a b), .int .i64 (halfE fn)]) ∧ w = w' := by
  have e : halfV fn a b = 0 := by simp [halfV, h]
  have e' : halfE fn = 2 := by simp [halfE, h]
  rw [e, e']
  clear e e'
  have hn := half_not h
  have b1 : (fn == 1) = false := by simp [hn]
  have b2 : (fn == 2) = false := by simp [hn]
  have b3 : (fn == 3) = false := by simp [hn]
  have b7 : (fn == 7) = false := by simp [hn]
  have b8 : (fn == 8) = false := by simp [hn]
  have b9 : (fn == 9) = false := by simp [hn]
  have b10 : (fn == 10) = false := by simp [hn]
  have b14 : (fn == 14) = false := by simp [hn]
  have b15 : (fn == 15) = false := by simp [hn]
  have b16 : (fn == 16) = false := by simp [hn]
  clear hn h
  go_enter Tryz.func151, Tryz.ntmps151
  go_wp2
  go_ret2
  exact ⟨rfl, rfl⟩
theorem half_any (fn a b : Int) (w : World) (ha : 0 ≤ a) (ha' : a < 18446744073709551616) (hb : 0 ≤ b) (hb' : b < 18446744073709551616) :
    Calls Tryz.prog 151 #[.int .i64 fn, .int .u64 a, .int .u64 b] w fun e w' => e = .returned (.tuple #[.int .u64 (halfV fn a b), .int .i64 (halfE fn)]) ∧ Below w.heap.size w w' := by
  cases h : halfB fn
  · exact (half_no fn a b w h).mono fun _ _ ⟨he, hw⟩ => ⟨he, hw ▸ Below.refl _ _⟩
  · rcases half_cases h with rfl | rfl | rfl | rfl | rfl | rfl | rfl | rfl | rfl | rfl
    · exact (half_1 a b w ha ha' hb hb').mono fun _ _ ⟨he, hw⟩ => ⟨he, hw ▸ (Below.refl _ _).alloc (Nat.le_refl _) _⟩
    · exact (half_2 a b w ha ha' hb hb').mono fun _ _ ⟨he, hw⟩ => ⟨he, hw ▸ (Below.refl _ _).alloc (Nat.le_refl _) _⟩
    · exact (half_3 a b w ha ha' hb hb').mono fun _ _ ⟨he, hw⟩ => ⟨he, hw ▸ (Below.refl _ _).alloc (Nat.le_refl _) _⟩
    · exact (half_7 a b w ha ha' hb hb').mono fun _ _ ⟨he, hw⟩ => ⟨he, hw ▸ (Below.refl _ _).alloc (Nat.le_refl _) _⟩
    · exact (half_8 a b w ha ha' hb hb').mono fun _ _ ⟨he, hw⟩ => ⟨he, hw ▸ (Below.refl _ _).alloc (Nat.le_refl _) _⟩
    · exact (half_9 a b w ha ha' hb hb').mono fun _ _ ⟨he, hw⟩ => ⟨he, hw ▸ (Below.refl _ _).alloc (Nat.le_refl _) _⟩
    · exact (half_10 a b w ha ha' hb hb').mono fun _ _ ⟨he, hw⟩ => ⟨he, hw ▸ (Below.refl _ _).alloc (Nat.le_refl _) _⟩
    · exact (half_14 a b w ha ha' hb hb').mono fun _ _ ⟨he, hw⟩ => ⟨he, hw ▸ (Below.refl _ _).alloc (Nat.le_refl _) _⟩
    · exact (half_15 a b w ha ha' hb hb').mono fun _ _ ⟨he, hw⟩ => ⟨he, hw ▸ (Below.refl _ _).alloc (Nat.le_refl _) _⟩
    · exact (half_16 a b w ha ha' hb hb').mono fun _ _ ⟨he, hw⟩ => ⟨he, hw ▸ (Below.refl _ _).alloc (Nat.le_refl _) _⟩
end Go.Proofs.YtnaceogkaiodnaaGreat

