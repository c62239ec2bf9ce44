/- Calls of a space that is nil, or that nobody made. -/
import Derived.Test.YtkfdgpgildanbaaGreatS49
namespace Go.Proofs.YtkfdgpgildanbaaGreat
open Go.RowKit Go.Shelf
set_option linter.unusedVariables false
set_option linter.unusedSimpArgs false
/-- No space: nil, or one that nobody made. -/
def NoSp (W : World) (q : Value) : Prop := q = .pointer none ∨ ∃ sb, q = .pointer (some ⟨sb, 0, none⟩) ∧ W.cell? ⟨sb, 0, none⟩ = some (.pointer none)
theorem NoSp.grow {W W' : World} {q : Value} (h : NoSp W q) (hb : Below W.heap.size W W') : NoSp W' q := by
  rcases h with h | ⟨sb, h, hc⟩
  · exact .inl h
  · exact .inr ⟨sb, h, by rw [hb.cell (block_lt_of_cell hc)]; exact hc⟩
section
variable {W : World} {q : Value}
set_option maxRecDepth 100000
set_option maxHeartbeats 4000000
theorem validN (h : NoSp W q) : Calls Tryz.prog 68 #[q] W fun e W' => e = .returned (.bool false) ∧ W = W' := by
  have h1 := eql_nil15
  have h2 := neq_nil15
  rcases h with rfl | ⟨sb, rfl, hc⟩
  · go_enter Tryz.func68, Tryz.ntmps68
    go_wp2
    go_ret
    exact ⟨rfl, rfl⟩
  · go_enter Tryz.func68, Tryz.ntmps68
    go_wp2
    go_ret
    exact ⟨rfl, rfl⟩
theorem refuseN (h : NoSp W q) : Calls Tryz.prog 82 #[q] W fun e W' => e = .returned (.int .i64 1) ∧ W = W' := by
  have HV := Lib.hid (validN h)
  have hnot := not15
  clear h
  go_enter Tryz.func82, Tryz.ntmps82
  go_wp2_with (go_at_call 68; (with_reducible refine HV.out.mono ?_); rintro e w' ⟨rfl, rfl⟩)
  go_ret
  exact ⟨rfl, rfl⟩
theorem getN (h : NoSp W q) (r : Value) : Calls Tryz.prog 27 #[q, r] W fun e W' => e = .returned (.tuple #[.int .u64 0, .int .i64 1]) ∧ W = W' := by
  have HV := Lib.hid (refuseN h)
  have hnot := not15
  clear h
  go_enter Tryz.func27, Tryz.ntmps27
  go_wp2_with (go_at_call 82; (with_reducible refine HV.out.mono ?_); rintro e w' ⟨rfl, rfl⟩)
  go_ret2
  exact ⟨rfl, rfl⟩
theorem getbN (h : NoSp W q) : Calls Tryz.prog 28 #[q] W fun e W' => e = .returned (.tuple #[.int .i64 0, .int .i64 1]) ∧ W = W' := by
  have HV := Lib.hid (refuseN h)
  have hnot := not15
  clear h
  go_enter Tryz.func28, Tryz.ntmps28
  go_wp2_with (go_at_call 82; (with_reducible refine HV.out.mono ?_); rintro e w' ⟨rfl, rfl⟩)
  go_ret2
  exact ⟨rfl, rfl⟩
theorem setN (h : NoSp W q) (r v : Value) : Calls Tryz.prog 37 #[q, r, v] W fun e W' => e = .returned (.int .i64 1) ∧ W = W' := by
  have HV := Lib.hid (refuseN h)
  have hnot := not15
  clear h
  go_enter Tryz.func37, Tryz.ntmps37
  go_wp2_with (go_at_call 82; (with_reducible refine HV.out.mono ?_); rintro e w' ⟨rfl, rfl⟩)
  go_ret
  exact ⟨rfl, rfl⟩
theorem goN (h : NoSp W q) (r : Value) : Calls Tryz.prog 38 #[q, r] W fun e W' => e = .returned (.int .i64 1) ∧ W = W' := by
  have HV := Lib.hid (refuseN h)
  have hnot := not15
  clear h
  go_enter Tryz.func38, Tryz.ntmps38
  go_wp2_with (go_at_call 82; (with_reducible refine HV.out.mono ?_); rintro e w' ⟨rfl, rfl⟩)
  go_ret
  exact ⟨rfl, rfl⟩
theorem burnN (h : NoSp W q) (r : Value) : Calls Tryz.prog 39 #[q, r] W fun e W' => e = .returned (.int .i64 1) ∧ W = W' := by
  have HV := Lib.hid (refuseN h)
  have hnot := not15
  clear h
  go_enter Tryz.func39, Tryz.ntmps39
  go_wp2_with (go_at_call 82; (with_reducible refine HV.out.mono ?_); rintro e w' ⟨rfl, rfl⟩)
  go_ret
  exact ⟨rfl, rfl⟩
theorem callRefN (h : NoSp W q) (F A R B : Value) : Calls Tryz.prog 105 #[q, F, A, R, B] W fun e W' => e = .returned (.int .i64 1) ∧ W = W' := by
  have HV := Lib.hid (refuseN h)
  have hnot := not15
  clear h
  go_enter Tryz.func105, Tryz.ntmps105
  go_wp2_with (go_at_call 82; (with_reducible refine HV.out.mono ?_); rintro e w' ⟨rfl, rfl⟩)
  go_ret
  exact ⟨rfl, rfl⟩
theorem callN (h : NoSp W q) (F A R B : Value) : Calls Tryz.prog 40 #[q, F, A, R, B] W fun e W' => e = .returned (.int .i64 1) ∧ W = W' := by
  have HV := Lib.hid (callRefN h F A R B)
  have hnot := not15
  clear h
  go_enter Tryz.func40, Tryz.ntmps40
  go_wp2_with (go_at_call 105; (with_reducible refine HV.out.mono ?_); rintro e w' ⟨rfl, rfl⟩)
  go_ret
  exact ⟨rfl, rfl⟩
theorem retN (h : NoSp W q) (v : Value) : Calls Tryz.prog 41 #[q, v] W fun e W' => e = .returned (.int .i64 1) ∧ W = W' := by
  have HV := Lib.hid (refuseN h)
  have hnot := not15
  clear h
  go_enter Tryz.func41, Tryz.ntmps41
  go_wp2_with (go_at_call 82; (with_reducible refine HV.out.mono ?_); rintro e w' ⟨rfl, rfl⟩)
  go_ret
  exact ⟨rfl, rfl⟩
theorem putbN (h : NoSp W q) (v : Value) : Calls Tryz.prog 42 #[q, v] W fun e W' => e = .returned (.int .i64 1) ∧ W = W' := by
  have HV := Lib.hid (refuseN h)
  have hnot := not15
  clear h
  go_enter Tryz.func42, Tryz.ntmps42
  go_wp2_with (go_at_call 82; (with_reducible refine HV.out.mono ?_); rintro e w' ⟨rfl, rfl⟩)
  go_ret
  exact ⟨rfl, rfl⟩
theorem memN (h : NoSp W q) : Calls Tryz.prog 30 #[q] W fun e W' => e = .returned (.pointer none) ∧ W = W' := by
  have HV := Lib.hid (validN h)
  have hnot := not15
  clear h
  go_enter Tryz.func30, Tryz.ntmps30
  go_wp2_with (go_at_call 68; (with_reducible refine HV.out.mono ?_); rintro e w' ⟨rfl, rfl⟩)
  go_ret
  exact ⟨rfl, rfl⟩
theorem funcN (h : NoSp W q) : Calls Tryz.prog 31 #[q] W fun e W' => e = .returned (.int .i64 0) ∧ W = W' := by
  have HV := Lib.hid (validN h)
  have hnot := not15
  clear h
  go_enter Tryz.func31, Tryz.ntmps31
  go_wp2_with (go_at_call 68; (with_reducible refine HV.out.mono ?_); rintro e w' ⟨rfl, rfl⟩)
  go_ret
  exact ⟨rfl, rfl⟩
theorem placeN (h : NoSp W q) : Calls Tryz.prog 32 #[q] W fun e W' => e = .returned (.int .i64 0) ∧ W = W' := by
  have HV := Lib.hid (validN h)
  have hnot := not15
  clear h
  go_enter Tryz.func32, Tryz.ntmps32
  go_wp2_with (go_at_call 68; (with_reducible refine HV.out.mono ?_); rintro e w' ⟨rfl, rfl⟩)
  go_ret
  exact ⟨rfl, rfl⟩
theorem fuelN (h : NoSp W q) : Calls Tryz.prog 33 #[q] W fun e W' => e = .returned (.int .i64 0) ∧ W = W' := by
  have HV := Lib.hid (validN h)
  have hnot := not15
  clear h
  go_enter Tryz.func33, Tryz.ntmps33
  go_wp2_with (go_at_call 68; (with_reducible refine HV.out.mono ?_); rintro e w' ⟨rfl, rfl⟩)
  go_ret
  exact ⟨rfl, rfl⟩
theorem depthN (h : NoSp W q) : Calls Tryz.prog 34 #[q] W fun e W' => e = .returned (.int .i64 0) ∧ W = W' := by
  have HV := Lib.hid (validN h)
  have hnot := not15
  clear h
  go_enter Tryz.func34, Tryz.ntmps34
  go_wp2_with (go_at_call 68; (with_reducible refine HV.out.mono ?_); rintro e w' ⟨rfl, rfl⟩)
  go_ret
  exact ⟨rfl, rfl⟩
theorem atN (h : NoSp W q) : Calls Tryz.prog 35 #[q] W fun e W' => e = .returned (.int .u64 0) ∧ W = W' := by
  have HV := Lib.hid (validN h)
  have hnot := not15
  clear h
  go_enter Tryz.func35, Tryz.ntmps35
  go_wp2_with (go_at_call 68; (with_reducible refine HV.out.mono ?_); rintro e w' ⟨rfl, rfl⟩)
  go_ret
  exact ⟨rfl, rfl⟩
theorem sameN (h : NoSp W q) (q2 : Value) : Calls Tryz.prog 21 #[q, q2] W fun e W' => e = .returned (.bool false) ∧ W = W' := by
  have HV := Lib.hid (validN h)
  have hnot := not15
  clear h
  go_enter Tryz.func21, Tryz.ntmps21
  go_wp2_with (go_at_call 68; (with_reducible refine HV.out.mono ?_); rintro e w' ⟨rfl, rfl⟩)
  go_ret
  exact ⟨rfl, rfl⟩
theorem copyN (h : NoSp W q) : Calls Tryz.prog 20 #[q] W fun e W' => e = .returned (.pointer none) ∧ W = W' := by
  have HV := Lib.hid (validN h)
  have hnot := not15
  clear h
  go_enter Tryz.func20, Tryz.ntmps20
  go_wp2_with (go_at_call 68; (with_reducible refine HV.out.mono ?_); rintro e w' ⟨rfl, rfl⟩)
  go_ret
  exact ⟨rfl, rfl⟩
theorem stopN (h : NoSp W q) (k c : Int) : Calls Tryz.prog 22 #[q, .agg #[.int .i64 k, .int .i64 c]] W (Makes W (.int .i64 1)) := by
  have hB := below_one14 W (.cells #[.int .i64 k, .int .i64 c] 45)
  have HV := Lib.hid (refuseN (h.grow hB))
  have HB := Lib.hid hB
  have hnot := not15
  clear h hB
  go_enter Tryz.func22, Tryz.ntmps22
  go_wp2_with (go_at_call 82; (with_reducible refine HV.out.mono ?_); rintro e w' ⟨rfl, rfl⟩)
  go_ret
  exact ⟨rfl, HB.out⟩
theorem endN (h : NoSp W q) : Calls Tryz.prog 29 #[q] W (Makes W (.tuple #[.agg #[.int .i64 0, .int .i64 0], .bool false])) := by
  have hB := below_one14 W (.cells #[.int .i64 0, .int .i64 0] 45)
  have HV := Lib.hid (validN (h.grow hB))
  have HB := Lib.hid hB
  have hnot := not15
  clear h hB
  go_enter Tryz.func29, Tryz.ntmps29
  go_wp2_with (go_at_call 68; (with_reducible refine HV.out.mono ?_); rintro e w' ⟨rfl, rfl⟩)
  have hx := heap_alloc_new W (.cells #[.int .i64 0, .int .i64 0] 45)
  obtain ⟨m0, m1⟩ := cells2_14 hx
  exact bodyPost_ret (v := .tuple #[.agg #[.int .i64 0, .int .i64 0], .bool false]) (by simp [results, Tryz.results29, go_sem, m0, m1]) rfl ⟨rfl, HB.out⟩
theorem outcomeN (h : NoSp W q) : Calls Tryz.prog 36 #[q] W (Makes W (.agg #[.slice none 0 0, .int .i64 0, .int .i64 0])) := by
  have hB := below_one14 W (.cells #[.slice none 0 0, .int .i64 0, .int .i64 0] 93)
  have HV := Lib.hid (validN (h.grow hB))
  have HB := Lib.hid hB
  have hnot := not15
  clear h hB
  go_enter Tryz.func36, Tryz.ntmps36
  go_wp2_with (go_at_call 68; (with_reducible refine HV.out.mono ?_); rintro e w' ⟨rfl, rfl⟩)
  have hx := heap_alloc_new W (.cells #[.slice none 0 0, .int .i64 0, .int .i64 0] 93)
  exact bodyPost_ret (v := .agg #[.slice none 0 0, .int .i64 0, .int .i64 0]) (results_cell_row (fn := Tryz.f36) Tryz.results36 _ _ W.heap.size 93 _ (0, 0) _ rfl hx Tryz.underlying93 rfl (by kernel_rfl)) rfl ⟨rfl, HB.out⟩
end
end Go.Proofs.YtkfdgpgildanbaaGreat
