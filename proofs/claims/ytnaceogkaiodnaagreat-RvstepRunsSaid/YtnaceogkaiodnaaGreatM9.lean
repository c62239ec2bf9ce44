/- The table of functions of package rvstep: which function of two words an operation is. No condition. -/
import Derived.Test.YtnaceogkaiodnaaGreatM7
import Derived.Test.YtnaceogkaiodnaaGreatM4
namespace Go.Proofs.YtnaceogkaiodnaaGreat
open Go.RowKit
set_option linter.unusedVariables false

def zeroTab : Array Value := #[.int .u8 0, .bool false, .int .u8 0, .bool false, .int .u8 0, .bool false, .int .u8 0, .bool false, .int .u8 0, .bool false, .int .u8 0, .bool false, .int .u8 0, .bool false, .int .u8 0, .bool false, .int .u8 0, .bool false, .int .u8 0, .bool false, .int .u8 0, .bool false, .int .u8 0, .bool false, .int .u8 0, .bool false, .int .u8 0, .bool false, .int .u8 0, .bool false, .int .u8 0, .bool false, .int .u8 0, .bool false, .int .u8 0, .bool false, .int .u8 0, .bool false, .int .u8 0, .bool false, .int .u8 0, .bool false, .int .u8 0, .bool false, .int .u8 0, .bool false, .int .u8 0, .bool false, .int .u8 0, .bool false, .int .u8 0, .bool false, .int .u8 0, .bool false, .int .u8 0, .bool false, .int .u8 0, .bool false, .int .u8 0, .bool false, .int .u8 0, .bool false, .int .u8 0, .bool false, .int .u8 0, .bool false, .int .u8 0, .bool false, .int .u8 0, .bool false, .int .u8 0, .bool false, .int .u8 0, .bool false, .int .u8 0, .bool false, .int .u8 0, .bool false, .int .u8 0, .bool false, .int .u8 0, .bool false, .int .u8 0, .bool false, .int .u8 0, .bool false, .int .u8 0, .bool false, .int .u8 0, .bool false, .int .u8 0, .bool false, .int .u8 0, .bool false, .int .u8 0, .bool false, .int .u8 0, .bool false, .int .u8 0, .bool false, .int .u8 0, .bool false, .int .u8 0, .bool false, .int .u8 0, .bool false, .int .u8 0, .bool false, .int .u8 0, .bool false, .int .u8 0, .bool false, .int .u8 0, .bool false, .int .u8 0, .bool false, .int .u8 0, .bool false, .int .u8 0, .bool false, .int .u8 0, .bool false, .int .u8 0, .bool false, .int .u8 0, .bool false]
def funTab : Array Value := #[.int .u8 0, .bool false, .int .u8 0, .bool false, .int .u8 0, .bool false, .int .u8 0, .bool false, .int .u8 0, .bool false, .int .u8 0, .bool false, .int .u8 0, .bool false, .int .u8 0, .bool false, .int .u8 0, .bool false, .int .u8 0, .bool false, .int .u8 0, .bool false, .int .u8 0, .bool false, .int .u8 0, .bool false, .int .u8 0, .bool false, .int .u8 0, .bool false, .int .u8 0, .bool false, .int .u8 0, .bool false, .int .u8 0, .bool false, .int .u8 0, .bool false, .int .u8 0, .bool false, .int .u8 0, .bool false, .int .u8 0, .bool false, .int .u8 1, .bool false, .int .u8 17, .bool false, .int .u8 18, .bool false, .int .u8 13, .bool false, .int .u8 12, .bool false, .int .u8 11, .bool false, .int .u8 14, .bool false, .int .u8 15, .bool false, .int .u8 16, .bool false, .int .u8 1, .bool true, .int .u8 14, .bool true, .int .u8 15, .bool true, .int .u8 16, .bool true, .int .u8 1, .bool false, .int .u8 2, .bool false, .int .u8 14, .bool false, .int .u8 17, .bool false, .int .u8 18, .bool false, .int .u8 13, .bool false, .int .u8 15, .bool false, .int .u8 16, .bool false, .int .u8 12, .bool false, .int .u8 11, .bool false, .int .u8 1, .bool true, .int .u8 2, .bool true, .int .u8 14, .bool true, .int .u8 15, .bool true, .int .u8 16, .bool true, .int .u8 3, .bool false, .int .u8 4, .bool false, .int .u8 6, .bool false, .int .u8 5, .bool false, .int .u8 7, .bool false, .int .u8 8, .bool false, .int .u8 9, .bool false, .int .u8 10, .bool false, .int .u8 3, .bool true, .int .u8 7, .bool true, .int .u8 8, .bool true, .int .u8 9, .bool true, .int .u8 10, .bool true]
theorem funTab_cells : funTab.all (·.oneCell') = true := by kernel_rfl
theorem funTab_info : (Tryz.prog.info? 171).map (·.size) = some funTab.size := by kernel_rfl
theorem funTab_results : Tryz.f149.results = #[.cell 0 171] := by kernel_rfl
/-- The first of a list of plain operations, run. -/
theorem plain_take {P : Program} {ops : Array Oper} {Q : Exit → Act → World → Prop} : ∀ (n : Nat) (l : List Oper) (a a' : Act) (w w' : World), plainRun P (l.take n) a w = some (a', w') → wpList P ops Q (l.drop n) a' w' → wpList P ops Q l a w
  | 0, l, a, a', w, w', h, hq => by
    simp only [List.take_zero, plainRun] at h
    injection h with h
    injection h with h1 h2
    subst h1 h2
    exact hq
  | n + 1, [], a, a', w, w', h, hq => by
    simp only [List.take_nil, plainRun] at h
    injection h with h
    injection h with h1 h2
    subst h1 h2
    exact hq
  | n + 1, o :: rest, a, a', w, w', h, hq => by
    rw [List.take_succ_cons] at h
    unfold plainRun at h
    unfold wpList
    split at h
    · cases h
    · rename_i hg
      rw [if_pos (by simp [Region.wanted, hg])]
      refine .inl ?_
      unfold Oper.wp
      split at h
      · rename_i v w1 he
        rw [he]
        exact plain_take n rest _ a' w1 w' h hq
      · rename_i w1 he
        rw [he]
        exact plain_take n rest _ a' w1 w' h hq
      · cases h
set_option maxRecDepth 100000 in
set_option maxHeartbeats 4000000 in
theorem funs_any (w : World) : Calls Tryz.prog 149 #[] w fun e w' => e = .returned (.agg funTab) ∧ w.alloc (.cells funTab 171) = w' := by
  go_enter Tryz.func149, Tryz.ntmps149
  refine wp_seq ?_
  refine wp_region_lit ?_
  refine plain_list _ _ _ _ _ (by kernel_rfl : plainRun Tryz.prog _ _ _ = some ({ tmps := #[.pointer (some ⟨w.heap.size, 0, none⟩), undef, undef, undef, undef, undef, undef, undef, undef, undef, undef, undef, undef, undef, undef, undef, undef, undef, undef, undef, undef, undef, undef, undef, undef, undef, undef, undef, undef, undef, undef, undef, undef, undef, undef, undef, undef, undef, undef, undef, undef, undef, undef], defers := [] }, w.alloc (.cells zeroTab 171))) ?_
  refine wp_seq ?_
  refine wp_region_lit ?_
  refine plain_take 42 _ _ _ _ _ (by kernel_rfl : plainRun Tryz.prog _ _ _ = some ({ tmps := #[.pointer (some ⟨w.heap.size, 0, none⟩), .agg #[.int .u8 1, .bool false], .agg #[.int .u8 17, .bool false], .agg #[.int .u8 18, .bool false], .agg #[.int .u8 13, .bool false], .agg #[.int .u8 12, .bool false], .agg #[.int .u8 11, .bool false], .agg #[.int .u8 14, .bool false], .agg #[.int .u8 15, .bool false], .agg #[.int .u8 16, .bool false], .agg #[.int .u8 1, .bool true], .agg #[.int .u8 14, .bool true], .agg #[.int .u8 15, .bool true], .agg #[.int .u8 16, .bool true], .agg #[.int .u8 1, .bool false], .agg #[.int .u8 2, .bool false], .agg #[.int .u8 14, .bool false], .agg #[.int .u8 15, .bool false], .agg #[.int .u8 16, .bool false], .agg #[.int .u8 17, .bool false], .agg #[.int .u8 18, .bool false], .agg #[.int .u8 13, .bool false], .agg #[.int .u8 12, .bool false], .agg #[.int .u8 11, .bool false], .agg #[.int .u8 1, .bool true], .agg #[.int .u8 2, .bool true], .agg #[.int .u8 14, .bool true], .agg #[.int .u8 15, .bool true], .agg #[.int .u8 16, .bool true], .agg #[.int .u8 3, .bool false], .agg #[.int .u8 4, .bool false], .agg #[.int .u8 6, .bool false], .agg #[.int .u8 5, .bool false], .agg #[.int .u8 7, .bool false], .agg #[.int .u8 8, .bool false], .agg #[.int .u8 9, .bool false], .agg #[.int .u8 10, .bool false], .agg #[.int .u8 3, .bool true], .agg #[.int .u8 7, .bool true], .agg #[.int .u8 8, .bool true], .agg #[.int .u8 9, .bool true], .agg #[.int .u8 10, .bool true], .agg funTab], defers := [] }, w.alloc (.cells zeroTab 171))) ?_
  simp only [List.drop_succ_cons, List.drop_zero]
  with_reducible refine wpList_store_row rfl 171 (.tmp 0) (.tmp 42) rfl w.heap.size funTab ?c1 ?c2 171 ?old ?c3 funTab_info ?c4 funTab_cells ?_
  case c3 => exact heap_alloc_new _ _
  case c1 => rfl
  case c2 => rfl
  case c4 => rfl
  rw [World.setRow_alloc_new]
  go_wp2
  exact bodyPost_ret (v := .agg funTab) (results_cell_row funTab_results _ _ w.heap.size 171 funTab (0, 0) (.array 63 170) rfl (heap_alloc_new _ _) Tryz.underlying171 rfl funTab_info) rfl ⟨rfl, rfl⟩
theorem funAt_22 (w : World) : (Instr.index 171 (.agg funTab) (.int .i64 22)).run Tryz.prog w = .ok (.agg #[.int .u8 1, .bool false]) w := by kernel_rfl
theorem funAt_23 (w : World) : (Instr.index 171 (.agg funTab) (.int .i64 23)).run Tryz.prog w = .ok (.agg #[.int .u8 17, .bool false]) w := by kernel_rfl
theorem funAt_24 (w : World) : (Instr.index 171 (.agg funTab) (.int .i64 24)).run Tryz.prog w = .ok (.agg #[.int .u8 18, .bool false]) w := by kernel_rfl
theorem funAt_25 (w : World) : (Instr.index 171 (.agg funTab) (.int .i64 25)).run Tryz.prog w = .ok (.agg #[.int .u8 13, .bool false]) w := by kernel_rfl
theorem funAt_26 (w : World) : (Instr.index 171 (.agg funTab) (.int .i64 26)).run Tryz.prog w = .ok (.agg #[.int .u8 12, .bool false]) w := by kernel_rfl
theorem funAt_27 (w : World) : (Instr.index 171 (.agg funTab) (.int .i64 27)).run Tryz.prog w = .ok (.agg #[.int .u8 11, .bool false]) w := by kernel_rfl
theorem funAt_28 (w : World) : (Instr.index 171 (.agg funTab) (.int .i64 28)).run Tryz.prog w = .ok (.agg #[.int .u8 14, .bool false]) w := by kernel_rfl
theorem funAt_29 (w : World) : (Instr.index 171 (.agg funTab) (.int .i64 29)).run Tryz.prog w = .ok (.agg #[.int .u8 15, .bool false]) w := by kernel_rfl
theorem funAt_30 (w : World) : (Instr.index 171 (.agg funTab) (.int .i64 30)).run Tryz.prog w = .ok (.agg #[.int .u8 16, .bool false]) w := by kernel_rfl
theorem funAt_31 (w : World) : (Instr.index 171 (.agg funTab) (.int .i64 31)).run Tryz.prog w = .ok (.agg #[.int .u8 1, .bool true]) w := by kernel_rfl
theorem funAt_32 (w : World) : (Instr.index 171 (.agg funTab) (.int .i64 32)).run Tryz.prog w = .ok (.agg #[.int .u8 14, .bool true]) w := by kernel_rfl
theorem funAt_33 (w : World) : (Instr.index 171 (.agg funTab) (.int .i64 33)).run Tryz.prog w = .ok (.agg #[.int .u8 15, .bool true]) w := by kernel_rfl
theorem funAt_34 (w : World) : (Instr.index 171 (.agg funTab) (.int .i64 34)).run Tryz.prog w = .ok (.agg #[.int .u8 16, .bool true]) w := by kernel_rfl
theorem funAt_35 (w : World) : (Instr.index 171 (.agg funTab) (.int .i64 35)).run Tryz.prog w = .ok (.agg #[.int .u8 1, .bool false]) w := by kernel_rfl
theorem funAt_36 (w : World) : (Instr.index 171 (.agg funTab) (.int .i64 36)).run Tryz.prog w = .ok (.agg #[.int .u8 2, .bool false]) w := by kernel_rfl
theorem funAt_37 (w : World) : (Instr.index 171 (.agg funTab) (.int .i64 37)).run Tryz.prog w = .ok (.agg #[.int .u8 14, .bool false]) w := by kernel_rfl
theorem funAt_38 (w : World) : (Instr.index 171 (.agg funTab) (.int .i64 38)).run Tryz.prog w = .ok (.agg #[.int .u8 17, .bool false]) w := by kernel_rfl
theorem funAt_39 (w : World) : (Instr.index 171 (.agg funTab) (.int .i64 39)).run Tryz.prog w = .ok (.agg #[.int .u8 18, .bool false]) w := by kernel_rfl
theorem funAt_40 (w : World) : (Instr.index 171 (.agg funTab) (.int .i64 40)).run Tryz.prog w = .ok (.agg #[.int .u8 13, .bool false]) w := by kernel_rfl
theorem funAt_41 (w : World) : (Instr.index 171 (.agg funTab) (.int .i64 41)).run Tryz.prog w = .ok (.agg #[.int .u8 15, .bool false]) w := by kernel_rfl
theorem funAt_42 (w : World) : (Instr.index 171 (.agg funTab) (.int .i64 42)).run Tryz.prog w = .ok (.agg #[.int .u8 16, .bool false]) w := by kernel_rfl
theorem funAt_43 (w : World) : (Instr.index 171 (.agg funTab) (.int .i64 43)).run Tryz.prog w = .ok (.agg #[.int .u8 12, .bool false]) w := by kernel_rfl
theorem funAt_44 (w : World) : (Instr.index 171 (.agg funTab) (.int .i64 44)).run Tryz.prog w = .ok (.agg #[.int .u8 11, .bool false]) w := by kernel_rfl
theorem funAt_45 (w : World) : (Instr.index 171 (.agg funTab) (.int .i64 45)).run Tryz.prog w = .ok (.agg #[.int .u8 1, .bool true]) w := by kernel_rfl
theorem funAt_46 (w : World) : (Instr.index 171 (.agg funTab) (.int .i64 46)).run Tryz.prog w = .ok (.agg #[.int .u8 2, .bool true]) w := by kernel_rfl
theorem funAt_47 (w : World) : (Instr.index 171 (.agg funTab) (.int .i64 47)).run Tryz.prog w = .ok (.agg #[.int .u8 14, .bool true]) w := by kernel_rfl
theorem funAt_48 (w : World) : (Instr.index 171 (.agg funTab) (.int .i64 48)).run Tryz.prog w = .ok (.agg #[.int .u8 15, .bool true]) w := by kernel_rfl
theorem funAt_49 (w : World) : (Instr.index 171 (.agg funTab) (.int .i64 49)).run Tryz.prog w = .ok (.agg #[.int .u8 16, .bool true]) w := by kernel_rfl
theorem funAt_50 (w : World) : (Instr.index 171 (.agg funTab) (.int .i64 50)).run Tryz.prog w = .ok (.agg #[.int .u8 3, .bool false]) w := by kernel_rfl
theorem funAt_51 (w : World) : (Instr.index 171 (.agg funTab) (.int .i64 51)).run Tryz.prog w = .ok (.agg #[.int .u8 4, .bool false]) w := by kernel_rfl
theorem funAt_52 (w : World) : (Instr.index 171 (.agg funTab) (.int .i64 52)).run Tryz.prog w = .ok (.agg #[.int .u8 6, .bool false]) w := by kernel_rfl
theorem funAt_53 (w : World) : (Instr.index 171 (.agg funTab) (.int .i64 53)).run Tryz.prog w = .ok (.agg #[.int .u8 5, .bool false]) w := by kernel_rfl
theorem funAt_54 (w : World) : (Instr.index 171 (.agg funTab) (.int .i64 54)).run Tryz.prog w = .ok (.agg #[.int .u8 7, .bool false]) w := by kernel_rfl
theorem funAt_55 (w : World) : (Instr.index 171 (.agg funTab) (.int .i64 55)).run Tryz.prog w = .ok (.agg #[.int .u8 8, .bool false]) w := by kernel_rfl
theorem funAt_56 (w : World) : (Instr.index 171 (.agg funTab) (.int .i64 56)).run Tryz.prog w = .ok (.agg #[.int .u8 9, .bool false]) w := by kernel_rfl
theorem funAt_57 (w : World) : (Instr.index 171 (.agg funTab) (.int .i64 57)).run Tryz.prog w = .ok (.agg #[.int .u8 10, .bool false]) w := by kernel_rfl
theorem funAt_58 (w : World) : (Instr.index 171 (.agg funTab) (.int .i64 58)).run Tryz.prog w = .ok (.agg #[.int .u8 3, .bool true]) w := by kernel_rfl
theorem funAt_59 (w : World) : (Instr.index 171 (.agg funTab) (.int .i64 59)).run Tryz.prog w = .ok (.agg #[.int .u8 7, .bool true]) w := by kernel_rfl
theorem funAt_60 (w : World) : (Instr.index 171 (.agg funTab) (.int .i64 60)).run Tryz.prog w = .ok (.agg #[.int .u8 8, .bool true]) w := by kernel_rfl
theorem funAt_61 (w : World) : (Instr.index 171 (.agg funTab) (.int .i64 61)).run Tryz.prog w = .ok (.agg #[.int .u8 9, .bool true]) w := by kernel_rfl
theorem funAt_62 (w : World) : (Instr.index 171 (.agg funTab) (.int .i64 62)).run Tryz.prog w = .ok (.agg #[.int .u8 10, .bool true]) w := by kernel_rfl
theorem funOps {op : Int} (h : 22 ≤ op) (h' : op ≤ 62) : op = 22 ∨ op = 23 ∨ op = 24 ∨ op = 25 ∨ op = 26 ∨ op = 27 ∨ op = 28 ∨ op = 29 ∨ op = 30 ∨ op = 31 ∨ op = 32 ∨ op = 33 ∨ op = 34 ∨ op = 35 ∨ op = 36 ∨ op = 37 ∨ op = 38 ∨ op = 39 ∨ op = 40 ∨ op = 41 ∨ op = 42 ∨ op = 43 ∨ op = 44 ∨ op = 45 ∨ op = 46 ∨ op = 47 ∨ op = 48 ∨ op = 49 ∨ op = 50 ∨ op = 51 ∨ op = 52 ∨ op = 53 ∨ op = 54 ∨ op = 55 ∨ op = 56 ∨ op = 57 ∨ op = 58 ∨ op = 59 ∨ op = 60 ∨ op = 61 ∨ op = 62 := by omega
theorem funAt {op : Int} (h : 22 ≤ op) (h' : op ≤ 62) (w : World) : (Instr.index 171 (.agg funTab) (.int .i64 op)).run Tryz.prog w = .ok (.agg #[.int .u8 (fnV op), .bool (halfOp op)]) w := by
  rcases funOps h h' with rfl | rfl | rfl | rfl | rfl | rfl | rfl | rfl | rfl | rfl | rfl | rfl | rfl | rfl | rfl | rfl | rfl | rfl | rfl | rfl | rfl | rfl | rfl | rfl | rfl | rfl | rfl | rfl | rfl | rfl | rfl | rfl | rfl | rfl | rfl | rfl | rfl | rfl | rfl | rfl | rfl
  · exact funAt_22 w
  · exact funAt_23 w
  · exact funAt_24 w
  · exact funAt_25 w
  · exact funAt_26 w
  · exact funAt_27 w
  · exact funAt_28 w
  · exact funAt_29 w
  · exact funAt_30 w
  · exact funAt_31 w
  · exact funAt_32 w
  · exact funAt_33 w
  · exact funAt_34 w
  · exact funAt_35 w
  · exact funAt_36 w
  · exact funAt_37 w
  · exact funAt_38 w
  · exact funAt_39 w
  · exact funAt_40 w
  · exact funAt_41 w
  · exact funAt_42 w
  · exact funAt_43 w
  · exact funAt_44 w
  · exact funAt_45 w
  · exact funAt_46 w
  · exact funAt_47 w
  · exact funAt_48 w
  · exact funAt_49 w
  · exact funAt_50 w
  · exact funAt_51 w
  · exact funAt_52 w
  · exact funAt_53 w
  · exact funAt_54 w
  · exact funAt_55 w
  · exact funAt_56 w
  · exact funAt_57 w
  · exact funAt_58 w
  · exact funAt_59 w
  · exact funAt_60 w
  · exact funAt_61 w
  · exact funAt_62 w
theorem fnV_bd {op : Int} : 0 ≤ fnV op ∧ fnV op ≤ 20 := by
  unfold fnV
  repeat' split
  all_goals omega
end Go.Proofs.YtnaceogkaiodnaaGreat

namespace Go.Proofs.YtnaceogkaiodnaaGreat
open Go.RowKit
set_option linter.unusedVariables false

section
variable {w w' : World} {xb mb bb c eb : Nat} {V : Value} {code : List Int} {s : MSt}
theorem funs_below (w : World) : Calls Tryz.prog 149 #[] w fun e w' => e = .returned (.agg funTab) ∧ Below w.heap.size w w' := (funs_any w).mono fun e w' h => ⟨h.1, h.2 ▸ (Below.refl _ _).alloc (Nat.le_refl _) _⟩
set_option maxRecDepth 100000 in
set_option maxHeartbeats 4000000 in
theorem compute_do (h : Mach w xb mb bb c eb V code s) (op imm : Int) (d a b : Nat) (hd : d < 32) (ha : a < 32) (hb : b < 32) (i1 : -1048576 ≤ imm) (i2 : imm ≤ 1048576) (y : Int) (hy : InW y) (f : Int) (hf : 0 ≤ f) (hf' : f ≤ 20) (hx : ∀ w, (Instr.index 171 (.agg funTab) (.int .i64 op)).run Tryz.prog w = .ok (.agg #[.int .u8 f, .bool false]) w) :
    Calls Tryz.prog 135 #[.pointer (some ⟨xb, 0, none⟩), .agg #[.int .i64 op, .int .i64 d, .int .i64 a, .int .i64 b, .int .i64 imm], .int .u64 y] w (EffDone xb mb bb c eb V code w (0, (s.set d (doV f (s.r a) y)).at' (nextV s))) := by
  have hv : InW (doV f (s.r a) y) := doV_bd (h.ok.r a).1 (h.ok.r a).2 hy.1 hy.2
  have hdo := fun u => do_any f (s.r a) y u (h.ok.r a).1 (h.ok.r a).2 hy.1 hy.2
  generalize doV f (s.r a) y = v at hv hdo ⊢
  generalize doE f = E at hdo
  have HD := Lib.hid hdo
  have hi : (a : Int) < 32 := by omega
  have hw : IntKind.i64.wrap f = f := by rw [IntKind.wrap_i64]; omega
  clear hdo
  have HW := Lib.hid (h.alloc (.cells #[.int .i64 op, .int .i64 d, .int .i64 a, .int .i64 b, .int .i64 imm] 76))
  have BW := Lib.hid ((But.refl (TwoBlocks xb bb) w).alloc (.cells #[.int .i64 op, .int .i64 d, .int .i64 a, .int .i64 b, .int .i64 imm] 76))
  obtain ⟨lt1, lt2, lt3, lt4⟩ := h.lt
  clear h
  have HK0 := Lib.hid (show (w.alloc (.cells #[.int .i64 op, .int .i64 d, .int .i64 a, .int .i64 b, .int .i64 imm] 76)).cell? ⟨w.heap.size, 0, none⟩ = some (.int .i64 op) ∧ (w.alloc (.cells #[.int .i64 op, .int .i64 d, .int .i64 a, .int .i64 b, .int .i64 imm] 76)).cell? ⟨w.heap.size, 1, none⟩ = some (.int .i64 d) ∧ (w.alloc (.cells #[.int .i64 op, .int .i64 d, .int .i64 a, .int .i64 b, .int .i64 imm] 76)).cell? ⟨w.heap.size, 2, none⟩ = some (.int .i64 a) ∧ (w.alloc (.cells #[.int .i64 op, .int .i64 d, .int .i64 a, .int .i64 b, .int .i64 imm] 76)).cell? ⟨w.heap.size, 3, none⟩ = some (.int .i64 b) ∧ (w.alloc (.cells #[.int .i64 op, .int .i64 d, .int .i64 a, .int .i64 b, .int .i64 imm] 76)).cell? ⟨w.heap.size, 4, none⟩ = some (.int .i64 imm) from ⟨new_cell _ _ _ _ _ _ rfl rfl, new_cell _ _ _ _ _ _ rfl rfl, new_cell _ _ _ _ _ _ rfl rfl, new_cell _ _ _ _ _ _ rfl rfl, new_cell _ _ _ _ _ _ rfl rfl⟩)
  go_enter Tryz.func135, Tryz.ntmps135
  go_wp2_with fail
  obtain ⟨k0, k1, k2, k3, k4⟩ := HK0.out
  have HSZ := Lib.hid (show w.heap.size < (w.alloc (.cells #[.int .i64 op, .int .i64 d, .int .i64 a, .int .i64 b, .int .i64 imm] 76)).heap.size by simp)
  generalize w.alloc (.cells #[.int .i64 op, .int .i64 d, .int .i64 a, .int .i64 b, .int .i64 imm] 76) = W at *
  have hsz : w.heap.size < W.heap.size := HSZ.out
  clear k0 k1 k2 k3 k4
  have HWd := Lib.hid (show Mach W.drew xb mb bb c eb V code s from HW.out.drewN 1)
  have HWB := Lib.hid (show Mach (W.alloc (.cells #[.int .u8 0, .bool false] 170)).drew xb mb bb c eb V code s from (HW.out.alloc _).drewN 1)
  have HKB := Lib.hid (show (W.alloc (.cells #[.int .u8 0, .bool false] 170)).drew.cell? ⟨w.heap.size, 0, none⟩ = some (.int .i64 op) ∧ (W.alloc (.cells #[.int .u8 0, .bool false] 170)).drew.cell? ⟨w.heap.size, 1, none⟩ = some (.int .i64 d) ∧ (W.alloc (.cells #[.int .u8 0, .bool false] 170)).drew.cell? ⟨w.heap.size, 2, none⟩ = some (.int .i64 a) ∧ (W.alloc (.cells #[.int .u8 0, .bool false] 170)).drew.cell? ⟨w.heap.size, 3, none⟩ = some (.int .i64 b) ∧ (W.alloc (.cells #[.int .u8 0, .bool false] 170)).drew.cell? ⟨w.heap.size, 4, none⟩ = some (.int .i64 imm) from ⟨(World.cell?_alloc_lt W _ _ hsz).trans HK0.out.1, (World.cell?_alloc_lt W _ _ hsz).trans HK0.out.2.1, (World.cell?_alloc_lt W _ _ hsz).trans HK0.out.2.2.1, (World.cell?_alloc_lt W _ _ hsz).trans HK0.out.2.2.2.1, (World.cell?_alloc_lt W _ _ hsz).trans HK0.out.2.2.2.2⟩)
  go_region_held3 (fun w' => w'.cell? ⟨w.heap.size, 0, none⟩ = some (.int .i64 op) ∧ w'.cell? ⟨w.heap.size, 1, none⟩ = some (.int .i64 d) ∧ w'.cell? ⟨w.heap.size, 2, none⟩ = some (.int .i64 a) ∧ w'.cell? ⟨w.heap.size, 3, none⟩ = some (.int .i64 b) ∧ w'.cell? ⟨w.heap.size, 4, none⟩ = some (.int .i64 imm)) (first | with_reducible exact HK3.out | with_reducible exact HK4.out | with_reducible exact HKB.out | with_reducible exact HK1.out | exact HK0.out | go_keep)
    (first
      | (go_at_call 149; (with_reducible refine (funs_below _).mono ?_); rintro e w1 ⟨rfl, hb1⟩; first
          | (have hm1 := HWd.out.below hb1; have M1 := Lib.hid hm1; have B1 := Lib.hid (show But (TwoBlocks xb bb) w w1 from (BW.out.drewN 1).trans (But.of_below hb1)); have l1 : w.heap.size < w1.heap.size := Nat.lt_of_lt_of_le hsz hb1.size; have HK1 := Lib.hid (show w1.cell? ⟨w.heap.size, 0, none⟩ = some (.int .i64 op) ∧ w1.cell? ⟨w.heap.size, 1, none⟩ = some (.int .i64 d) ∧ w1.cell? ⟨w.heap.size, 2, none⟩ = some (.int .i64 a) ∧ w1.cell? ⟨w.heap.size, 3, none⟩ = some (.int .i64 b) ∧ w1.cell? ⟨w.heap.size, 4, none⟩ = some (.int .i64 imm) from ⟨(hb1.cell (p := ⟨w.heap.size, 0, none⟩) hsz).trans HK0.out.1, (hb1.cell (p := ⟨w.heap.size, 1, none⟩) hsz).trans HK0.out.2.1, (hb1.cell (p := ⟨w.heap.size, 2, none⟩) hsz).trans HK0.out.2.2.1, (hb1.cell (p := ⟨w.heap.size, 3, none⟩) hsz).trans HK0.out.2.2.2.1, (hb1.cell (p := ⟨w.heap.size, 4, none⟩) hsz).trans HK0.out.2.2.2.2⟩); have HK3 := Lib.hid (show (w1.alloc (.cells #[.int .u8 f, .bool false] 170)).cell? ⟨w.heap.size, 0, none⟩ = some (.int .i64 op) ∧ (w1.alloc (.cells #[.int .u8 f, .bool false] 170)).cell? ⟨w.heap.size, 1, none⟩ = some (.int .i64 d) ∧ (w1.alloc (.cells #[.int .u8 f, .bool false] 170)).cell? ⟨w.heap.size, 2, none⟩ = some (.int .i64 a) ∧ (w1.alloc (.cells #[.int .u8 f, .bool false] 170)).cell? ⟨w.heap.size, 3, none⟩ = some (.int .i64 b) ∧ (w1.alloc (.cells #[.int .u8 f, .bool false] 170)).cell? ⟨w.heap.size, 4, none⟩ = some (.int .i64 imm) from ⟨(World.cell?_alloc_lt w1 _ _ l1).trans HK1.out.1, (World.cell?_alloc_lt w1 _ _ l1).trans HK1.out.2.1, (World.cell?_alloc_lt w1 _ _ l1).trans HK1.out.2.2.1, (World.cell?_alloc_lt w1 _ _ l1).trans HK1.out.2.2.2.1, (World.cell?_alloc_lt w1 _ _ l1).trans HK1.out.2.2.2.2⟩); have HK4 := Lib.hid (show (w1.alloc (.cells #[.int .u8 0, .bool false] 170)).cell? ⟨w.heap.size, 0, none⟩ = some (.int .i64 op) ∧ (w1.alloc (.cells #[.int .u8 0, .bool false] 170)).cell? ⟨w.heap.size, 1, none⟩ = some (.int .i64 d) ∧ (w1.alloc (.cells #[.int .u8 0, .bool false] 170)).cell? ⟨w.heap.size, 2, none⟩ = some (.int .i64 a) ∧ (w1.alloc (.cells #[.int .u8 0, .bool false] 170)).cell? ⟨w.heap.size, 3, none⟩ = some (.int .i64 b) ∧ (w1.alloc (.cells #[.int .u8 0, .bool false] 170)).cell? ⟨w.heap.size, 4, none⟩ = some (.int .i64 imm) from ⟨(World.cell?_alloc_lt w1 _ _ l1).trans HK1.out.1, (World.cell?_alloc_lt w1 _ _ l1).trans HK1.out.2.1, (World.cell?_alloc_lt w1 _ _ l1).trans HK1.out.2.2.1, (World.cell?_alloc_lt w1 _ _ l1).trans HK1.out.2.2.2.1, (World.cell?_alloc_lt w1 _ _ l1).trans HK1.out.2.2.2.2⟩); clear hb1 hm1)
          | (have hm1 := HWB.out.below hb1; have M1 := Lib.hid hm1; have B1 := Lib.hid (show But (TwoBlocks xb bb) w w1 from ((BW.out.alloc _).drewN 1).trans (But.of_below hb1)); have lB : W.heap.size < w1.heap.size := Nat.lt_of_lt_of_le (by simp) hb1.size; have l1 : w.heap.size < w1.heap.size := Nat.lt_trans hsz lB; have hblk : w1.heap[W.heap.size]? = some (.cells #[.int .u8 0, .bool false] 170 (0, 0)) := (hb1.block _ (by simp)).trans (heap_alloc_new W _); have HBLK := Lib.hid hblk; have e0 := cell_of_row w1 W.heap.size 0 _ _ _ hblk; have e1 := cell_of_row w1 W.heap.size 1 _ _ _ hblk; have f0 := frozen_of_row w1 W.heap.size 0 _ _ hblk; have f1 := frozen_of_row w1 W.heap.size 1 _ _ hblk; simp at e0 e1; have ne1 : W.heap.size ≠ w.heap.size := (by omega); have hk1 : w1.cell? ⟨w.heap.size, 0, none⟩ = some (.int .i64 op) ∧ w1.cell? ⟨w.heap.size, 1, none⟩ = some (.int .i64 d) ∧ w1.cell? ⟨w.heap.size, 2, none⟩ = some (.int .i64 a) ∧ w1.cell? ⟨w.heap.size, 3, none⟩ = some (.int .i64 b) ∧ w1.cell? ⟨w.heap.size, 4, none⟩ = some (.int .i64 imm) := ⟨(hb1.cell (p := ⟨w.heap.size, 0, none⟩) (Nat.lt_trans hsz (by simp))).trans HKB.out.1, (hb1.cell (p := ⟨w.heap.size, 1, none⟩) (Nat.lt_trans hsz (by simp))).trans HKB.out.2.1, (hb1.cell (p := ⟨w.heap.size, 2, none⟩) (Nat.lt_trans hsz (by simp))).trans HKB.out.2.2.1, (hb1.cell (p := ⟨w.heap.size, 3, none⟩) (Nat.lt_trans hsz (by simp))).trans HKB.out.2.2.2.1, (hb1.cell (p := ⟨w.heap.size, 4, none⟩) (Nat.lt_trans hsz (by simp))).trans HKB.out.2.2.2.2⟩; have HK1 := Lib.hid hk1; obtain ⟨q0, q1, q2, q3, q4⟩ := hk1; clear hb1 hm1 hblk)))
  all_goals first
    | (have M5 := Lib.hid (M1.out.alloc (.cells #[.int .u8 f, .bool false] 170)); have B5 := Lib.hid (B1.out.alloc (.cells #[.int .u8 f, .bool false] 170)); have hszF : w.heap.size < (w1.alloc (.cells #[.int .u8 f, .bool false] 170)).heap.size := (by simp; omega); have hfbF : w1.heap.size < (w1.alloc (.cells #[.int .u8 f, .bool false] 170)).heap.size := (by simp); have c5 := HK3.out; have g0 := new_cell w1 #[.int .u8 f, .bool false] 170 w1.heap.size 0 _ rfl rfl; have g1 := new_cell w1 #[.int .u8 f, .bool false] 170 w1.heap.size 1 _ rfl rfl; clear HK1 HK3 HK4 HKB HWB; generalize w1.alloc (.cells #[.int .u8 f, .bool false] 170) = WF at *; generalize w1.heap.size = fb at *)
    | (have hbut : But (OneBlock W.heap.size) w1 ((w1.setCell ⟨W.heap.size, 0, none⟩ (.int .u8 f)).setCell ⟨W.heap.size, 1, none⟩ (.bool false)) := ((But.refl (OneBlock W.heap.size) w1).setCell (p := ⟨W.heap.size, 0, none⟩) (.inl rfl) _).setCell (p := ⟨W.heap.size, 1, none⟩) (.inl rfl) _; have M5 := Lib.hid (M1.out.but hbut (oneBlock_not (by omega)) (oneBlock_not (by omega)) (oneBlock_not (by omega)) (oneBlock_not (by omega)) (fun hne k hk => oneBlock_not (Nat.ne_of_lt (HW.out.iscode.lt hne hk)))); have B5 := Lib.hid ((B1.out.setCell (p := ⟨W.heap.size, 0, none⟩) (.inr (Nat.le_of_lt hsz)) (.int .u8 f)).setCell (p := ⟨W.heap.size, 1, none⟩) (.inr (Nat.le_of_lt hsz)) (.bool false)); have hszF : w.heap.size < ((w1.setCell ⟨W.heap.size, 0, none⟩ (.int .u8 f)).setCell ⟨W.heap.size, 1, none⟩ (.bool false)).heap.size := Nat.lt_of_lt_of_le l1 hbut.size; have hfbF : W.heap.size < ((w1.setCell ⟨W.heap.size, 0, none⟩ (.int .u8 f)).setCell ⟨W.heap.size, 1, none⟩ (.bool false)).heap.size := Nat.lt_of_lt_of_le lB hbut.size; have c5 : ((w1.setCell ⟨W.heap.size, 0, none⟩ (.int .u8 f)).setCell ⟨W.heap.size, 1, none⟩ (.bool false)).cell? ⟨w.heap.size, 0, none⟩ = some (.int .i64 op) ∧ ((w1.setCell ⟨W.heap.size, 0, none⟩ (.int .u8 f)).setCell ⟨W.heap.size, 1, none⟩ (.bool false)).cell? ⟨w.heap.size, 1, none⟩ = some (.int .i64 d) ∧ ((w1.setCell ⟨W.heap.size, 0, none⟩ (.int .u8 f)).setCell ⟨W.heap.size, 1, none⟩ (.bool false)).cell? ⟨w.heap.size, 2, none⟩ = some (.int .i64 a) ∧ ((w1.setCell ⟨W.heap.size, 0, none⟩ (.int .u8 f)).setCell ⟨W.heap.size, 1, none⟩ (.bool false)).cell? ⟨w.heap.size, 3, none⟩ = some (.int .i64 b) ∧ ((w1.setCell ⟨W.heap.size, 0, none⟩ (.int .u8 f)).setCell ⟨W.heap.size, 1, none⟩ (.bool false)).cell? ⟨w.heap.size, 4, none⟩ = some (.int .i64 imm) := ⟨(hbut.cell (p := ⟨w.heap.size, 0, none⟩) l1 (oneBlock_not (show w.heap.size ≠ W.heap.size by omega))).trans HK1.out.1, (hbut.cell (p := ⟨w.heap.size, 1, none⟩) l1 (oneBlock_not (show w.heap.size ≠ W.heap.size by omega))).trans HK1.out.2.1, (hbut.cell (p := ⟨w.heap.size, 2, none⟩) l1 (oneBlock_not (show w.heap.size ≠ W.heap.size by omega))).trans HK1.out.2.2.1, (hbut.cell (p := ⟨w.heap.size, 3, none⟩) l1 (oneBlock_not (show w.heap.size ≠ W.heap.size by omega))).trans HK1.out.2.2.2.1, (hbut.cell (p := ⟨w.heap.size, 4, none⟩) l1 (oneBlock_not (show w.heap.size ≠ W.heap.size by omega))).trans HK1.out.2.2.2.2⟩; have hb0 := heap_setCell_same _ W.heap.size 1 _ _ (.bool false) (heap_setCell_same w1 W.heap.size 0 _ _ (.int .u8 f) HBLK.out); have g0 := cell_of_row _ W.heap.size 0 _ _ _ hb0; have g1 := cell_of_row _ W.heap.size 1 _ _ _ hb0; simp at g0 g1; clear HK1 HKB HWB HBLK hb0 hbut f0 f1 e0 e1; generalize (w1.setCell ⟨W.heap.size, 0, none⟩ (.int .u8 f)).setCell ⟨W.heap.size, 1, none⟩ (.bool false) = WF at *; generalize W.heap.size = fb at *)
  all_goals
    have M5d := Lib.hid (show Mach WF.drew xb mb bb c eb V code s from M5.out.drewN 1)
    have HK5 := Lib.hid (show WF.cell? ⟨w.heap.size, 0, none⟩ = some (.int .i64 op) ∧ WF.cell? ⟨w.heap.size, 1, none⟩ = some (.int .i64 d) ∧ WF.cell? ⟨w.heap.size, 2, none⟩ = some (.int .i64 a) ∧ WF.cell? ⟨w.heap.size, 3, none⟩ = some (.int .i64 b) ∧ WF.cell? ⟨w.heap.size, 4, none⟩ = some (.int .i64 imm) ∧ WF.cell? ⟨xb, 1 + a, none⟩ = some (.int .u64 (s.r a)) ∧ WF.cell? ⟨fb, 0, none⟩ = some (.int .u8 f) from ⟨c5.1, c5.2.1, c5.2.2.1, c5.2.2.2.1, c5.2.2.2.2, M5.out.reg ha, g0⟩)
    clear c5 g0
    go_wp2_with fail
    go_region_held3 (fun w' => w'.cell? ⟨w.heap.size, 0, none⟩ = some (.int .i64 op) ∧ w'.cell? ⟨w.heap.size, 1, none⟩ = some (.int .i64 d) ∧ w'.cell? ⟨w.heap.size, 2, none⟩ = some (.int .i64 a) ∧ w'.cell? ⟨w.heap.size, 3, none⟩ = some (.int .i64 b) ∧ w'.cell? ⟨w.heap.size, 4, none⟩ = some (.int .i64 imm) ∧ w'.cell? ⟨xb, 1 + a, none⟩ = some (.int .u64 (s.r a)) ∧ w'.cell? ⟨fb, 0, none⟩ = some (.int .u8 f)) (first | with_reducible exact HK6.out | exact HK5.out | go_keep)
      (first
        | (go_at_call 150; (with_reducible refine (HD.out _).mono ?_); rintro e w2 ⟨rfl, hb2⟩; have M6 := Lib.hid (M5d.out.below hb2); have B6 := Lib.hid hb2; have HK6 := Lib.hid (show w2.cell? ⟨w.heap.size, 0, none⟩ = some (.int .i64 op) ∧ w2.cell? ⟨w.heap.size, 1, none⟩ = some (.int .i64 d) ∧ w2.cell? ⟨w.heap.size, 2, none⟩ = some (.int .i64 a) ∧ w2.cell? ⟨w.heap.size, 3, none⟩ = some (.int .i64 b) ∧ w2.cell? ⟨w.heap.size, 4, none⟩ = some (.int .i64 imm) ∧ w2.cell? ⟨xb, 1 + a, none⟩ = some (.int .u64 (s.r a)) ∧ w2.cell? ⟨fb, 0, none⟩ = some (.int .u8 f) from ⟨(hb2.cell (p := ⟨w.heap.size, 0, none⟩) (show w.heap.size < WF.heap.size from hszF)).trans HK5.out.1, (hb2.cell (p := ⟨w.heap.size, 1, none⟩) (show w.heap.size < WF.heap.size from hszF)).trans HK5.out.2.1, (hb2.cell (p := ⟨w.heap.size, 2, none⟩) (show w.heap.size < WF.heap.size from hszF)).trans HK5.out.2.2.1, (hb2.cell (p := ⟨w.heap.size, 3, none⟩) (show w.heap.size < WF.heap.size from hszF)).trans HK5.out.2.2.2.1, (hb2.cell (p := ⟨w.heap.size, 4, none⟩) (show w.heap.size < WF.heap.size from hszF)).trans HK5.out.2.2.2.2.1, M6.out.reg ha, (hb2.cell (p := ⟨fb, 0, none⟩) (show fb < WF.heap.size from hfbF)).trans HK5.out.2.2.2.2.2.2⟩); clear hb2))
    all_goals
      obtain ⟨z0, z1, z2, z3, z4, z5, z6⟩ := HK6.out
      go_wp2_with (go_at_call 126; (with_reducible refine (result_any M6.out op imm d a b hd ha hb i1 i2 _ hv).mono ?_); rintro e w3 ⟨rfl, hm, hb3⟩; have M7 := Lib.hid hm; have B7 := Lib.hid hb3; clear hm hb3)
      go_ret
      exact ⟨rfl, M7.out, ((B5.out.drewN 1).trans (But.of_below B6.out)).trans B7.out⟩
set_option maxRecDepth 100000 in
set_option maxHeartbeats 4000000 in
theorem compute_half (h : Mach w xb mb bb c eb V code s) (op imm : Int) (d a b : Nat) (hd : d < 32) (ha : a < 32) (hb : b < 32) (i1 : -1048576 ≤ imm) (i2 : imm ≤ 1048576) (y : Int) (hy : InW y) (f : Int) (hf : 0 ≤ f) (hf' : f ≤ 20) (hx : ∀ w, (Instr.index 171 (.agg funTab) (.int .i64 op)).run Tryz.prog w = .ok (.agg #[.int .u8 f, .bool true]) w) :
    Calls Tryz.prog 135 #[.pointer (some ⟨xb, 0, none⟩), .agg #[.int .i64 op, .int .i64 d, .int .i64 a, .int .i64 b, .int .i64 imm], .int .u64 y] w (EffDone xb mb bb c eb V code w (0, (s.set d (halfV f (s.r a) y)).at' (nextV s))) := by
  have hv : InW (halfV f (s.r a) y) := halfV_bd
  have hdo := fun u => half_any f (s.r a) y u (h.ok.r a).1 (h.ok.r a).2 hy.1 hy.2
  generalize halfV f (s.r a) y = v at hv hdo ⊢
  generalize halfE f = E at hdo
  have HD := Lib.hid hdo
  have hi : (a : Int) < 32 := by omega
  have hw : IntKind.i64.wrap f = f := by rw [IntKind.wrap_i64]; omega
  clear hdo
  have HW := Lib.hid (h.alloc (.cells #[.int .i64 op, .int .i64 d, .int .i64 a, .int .i64 b, .int .i64 imm] 76))
  have BW := Lib.hid ((But.refl (TwoBlocks xb bb) w).alloc (.cells #[.int .i64 op, .int .i64 d, .int .i64 a, .int .i64 b, .int .i64 imm] 76))
  obtain ⟨lt1, lt2, lt3, lt4⟩ := h.lt
  clear h
  have HK0 := Lib.hid (show (w.alloc (.cells #[.int .i64 op, .int .i64 d, .int .i64 a, .int .i64 b, .int .i64 imm] 76)).cell? ⟨w.heap.size, 0, none⟩ = some (.int .i64 op) ∧ (w.alloc (.cells #[.int .i64 op, .int .i64 d, .int .i64 a, .int .i64 b, .int .i64 imm] 76)).cell? ⟨w.heap.size, 1, none⟩ = some (.int .i64 d) ∧ (w.alloc (.cells #[.int .i64 op, .int .i64 d, .int .i64 a, .int .i64 b, .int .i64 imm] 76)).cell? ⟨w.heap.size, 2, none⟩ = some (.int .i64 a) ∧ (w.alloc (.cells #[.int .i64 op, .int .i64 d, .int .i64 a, .int .i64 b, .int .i64 imm] 76)).cell? ⟨w.heap.size, 3, none⟩ = some (.int .i64 b) ∧ (w.alloc (.cells #[.int .i64 op, .int .i64 d, .int .i64 a, .int .i64 b, .int .i64 imm] 76)).cell? ⟨w.heap.size, 4, none⟩ = some (.int .i64 imm) from ⟨new_cell _ _ _ _ _ _ rfl rfl, new_cell _ _ _ _ _ _ rfl rfl, new_cell _ _ _ _ _ _ rfl rfl, new_cell _ _ _ _ _ _ rfl rfl, new_cell _ _ _ _ _ _ rfl rfl⟩)
  go_enter Tryz.func135, Tryz.ntmps135
  go_wp2_with fail
  obtain ⟨k0, k1, k2, k3, k4⟩ := HK0.out
  have HSZ := Lib.hid (show w.heap.size < (w.alloc (.cells #[.int .i64 op, .int .i64 d, .int .i64 a, .int .i64 b, .int .i64 imm] 76)).heap.size by simp)
  generalize w.alloc (.cells #[.int .i64 op, .int .i64 d, .int .i64 a, .int .i64 b, .int .i64 imm] 76) = W at *
  have hsz : w.heap.size < W.heap.size := HSZ.out
  clear k0 k1 k2 k3 k4
  have HWd := Lib.hid (show Mach W.drew xb mb bb c eb V code s from HW.out.drewN 1)
  have HWB := Lib.hid (show Mach (W.alloc (.cells #[.int .u8 0, .bool false] 170)).drew xb mb bb c eb V code s from (HW.out.alloc _).drewN 1)
  have HKB := Lib.hid (show (W.alloc (.cells #[.int .u8 0, .bool false] 170)).drew.cell? ⟨w.heap.size, 0, none⟩ = some (.int .i64 op) ∧ (W.alloc (.cells #[.int .u8 0, .bool false] 170)).drew.cell? ⟨w.heap.size, 1, none⟩ = some (.int .i64 d) ∧ (W.alloc (.cells #[.int .u8 0, .bool false] 170)).drew.cell? ⟨w.heap.size, 2, none⟩ = some (.int .i64 a) ∧ (W.alloc (.cells #[.int .u8 0, .bool false] 170)).drew.cell? ⟨w.heap.size, 3, none⟩ = some (.int .i64 b) ∧ (W.alloc (.cells #[.int .u8 0, .bool false] 170)).drew.cell? ⟨w.heap.size, 4, none⟩ = some (.int .i64 imm) from ⟨(World.cell?_alloc_lt W _ _ hsz).trans HK0.out.1, (World.cell?_alloc_lt W _ _ hsz).trans HK0.out.2.1, (World.cell?_alloc_lt W _ _ hsz).trans HK0.out.2.2.1, (World.cell?_alloc_lt W _ _ hsz).trans HK0.out.2.2.2.1, (World.cell?_alloc_lt W _ _ hsz).trans HK0.out.2.2.2.2⟩)
  go_region_held3 (fun w' => w'.cell? ⟨w.heap.size, 0, none⟩ = some (.int .i64 op) ∧ w'.cell? ⟨w.heap.size, 1, none⟩ = some (.int .i64 d) ∧ w'.cell? ⟨w.heap.size, 2, none⟩ = some (.int .i64 a) ∧ w'.cell? ⟨w.heap.size, 3, none⟩ = some (.int .i64 b) ∧ w'.cell? ⟨w.heap.size, 4, none⟩ = some (.int .i64 imm)) (first | with_reducible exact HK3.out | with_reducible exact HK4.out | with_reducible exact HKB.out | with_reducible exact HK1.out | exact HK0.out | go_keep)
    (first
      | (go_at_call 149; (with_reducible refine (funs_below _).mono ?_); rintro e w1 ⟨rfl, hb1⟩; first
          | (have hm1 := HWd.out.below hb1; have M1 := Lib.hid hm1; have B1 := Lib.hid (show But (TwoBlocks xb bb) w w1 from (BW.out.drewN 1).trans (But.of_below hb1)); have l1 : w.heap.size < w1.heap.size := Nat.lt_of_lt_of_le hsz hb1.size; have HK1 := Lib.hid (show w1.cell? ⟨w.heap.size, 0, none⟩ = some (.int .i64 op) ∧ w1.cell? ⟨w.heap.size, 1, none⟩ = some (.int .i64 d) ∧ w1.cell? ⟨w.heap.size, 2, none⟩ = some (.int .i64 a) ∧ w1.cell? ⟨w.heap.size, 3, none⟩ = some (.int .i64 b) ∧ w1.cell? ⟨w.heap.size, 4, none⟩ = some (.int .i64 imm) from ⟨(hb1.cell (p := ⟨w.heap.size, 0, none⟩) hsz).trans HK0.out.1, (hb1.cell (p := ⟨w.heap.size, 1, none⟩) hsz).trans HK0.out.2.1, (hb1.cell (p := ⟨w.heap.size, 2, none⟩) hsz).trans HK0.out.2.2.1, (hb1.cell (p := ⟨w.heap.size, 3, none⟩) hsz).trans HK0.out.2.2.2.1, (hb1.cell (p := ⟨w.heap.size, 4, none⟩) hsz).trans HK0.out.2.2.2.2⟩); have HK3 := Lib.hid (show (w1.alloc (.cells #[.int .u8 f, .bool true] 170)).cell? ⟨w.heap.size, 0, none⟩ = some (.int .i64 op) ∧ (w1.alloc (.cells #[.int .u8 f, .bool true] 170)).cell? ⟨w.heap.size, 1, none⟩ = some (.int .i64 d) ∧ (w1.alloc (.cells #[.int .u8 f, .bool true] 170)).cell? ⟨w.heap.size, 2, none⟩ = some (.int .i64 a) ∧ (w1.alloc (.cells #[.int .u8 f, .bool true] 170)).cell? ⟨w.heap.size, 3, none⟩ = some (.int .i64 b) ∧ (w1.alloc (.cells #[.int .u8 f, .bool true] 170)).cell? ⟨w.heap.size, 4, none⟩ = some (.int .i64 imm) from ⟨(World.cell?_alloc_lt w1 _ _ l1).trans HK1.out.1, (World.cell?_alloc_lt w1 _ _ l1).trans HK1.out.2.1, (World.cell?_alloc_lt w1 _ _ l1).trans HK1.out.2.2.1, (World.cell?_alloc_lt w1 _ _ l1).trans HK1.out.2.2.2.1, (World.cell?_alloc_lt w1 _ _ l1).trans HK1.out.2.2.2.2⟩); have HK4 := Lib.hid (show (w1.alloc (.cells #[.int .u8 0, .bool false] 170)).cell? ⟨w.heap.size, 0, none⟩ = some (.int .i64 op) ∧ (w1.alloc (.cells #[.int .u8 0, .bool false] 170)).cell? ⟨w.heap.size, 1, none⟩ = some (.int .i64 d) ∧ (w1.alloc (.cells #[.int .u8 0, .bool false] 170)).cell? ⟨w.heap.size, 2, none⟩ = some (.int .i64 a) ∧ (w1.alloc (.cells #[.int .u8 0, .bool false] 170)).cell? ⟨w.heap.size, 3, none⟩ = some (.int .i64 b) ∧ (w1.alloc (.cells #[.int .u8 0, .bool false] 170)).cell? ⟨w.heap.size, 4, none⟩ = some (.int .i64 imm) from ⟨(World.cell?_alloc_lt w1 _ _ l1).trans HK1.out.1, (World.cell?_alloc_lt w1 _ _ l1).trans HK1.out.2.1, (World.cell?_alloc_lt w1 _ _ l1).trans HK1.out.2.2.1, (World.cell?_alloc_lt w1 _ _ l1).trans HK1.out.2.2.2.1, (World.cell?_alloc_lt w1 _ _ l1).trans HK1.out.2.2.2.2⟩); clear hb1 hm1)
          | (have hm1 := HWB.out.below hb1; have M1 := Lib.hid hm1; have B1 := Lib.hid (show But (TwoBlocks xb bb) w w1 from ((BW.out.alloc _).drewN 1).trans (But.of_below hb1)); have lB : W.heap.size < w1.heap.size := Nat.lt_of_lt_of_le (by simp) hb1.size; have l1 : w.heap.size < w1.heap.size := Nat.lt_trans hsz lB; have hblk : w1.heap[W.heap.size]? = some (.cells #[.int .u8 0, .bool false] 170 (0, 0)) := (hb1.block _ (by simp)).trans (heap_alloc_new W _); have HBLK := Lib.hid hblk; have e0 := cell_of_row w1 W.heap.size 0 _ _ _ hblk; have e1 := cell_of_row w1 W.heap.size 1 _ _ _ hblk; have f0 := frozen_of_row w1 W.heap.size 0 _ _ hblk; have f1 := frozen_of_row w1 W.heap.size 1 _ _ hblk; simp at e0 e1; have ne1 : W.heap.size ≠ w.heap.size := (by omega); have hk1 : w1.cell? ⟨w.heap.size, 0, none⟩ = some (.int .i64 op) ∧ w1.cell? ⟨w.heap.size, 1, none⟩ = some (.int .i64 d) ∧ w1.cell? ⟨w.heap.size, 2, none⟩ = some (.int .i64 a) ∧ w1.cell? ⟨w.heap.size, 3, none⟩ = some (.int .i64 b) ∧ w1.cell? ⟨w.heap.size, 4, none⟩ = some (.int .i64 imm) := ⟨(hb1.cell (p := ⟨w.heap.size, 0, none⟩) (Nat.lt_trans hsz (by simp))).trans HKB.out.1, (hb1.cell (p := ⟨w.heap.size, 1, none⟩) (Nat.lt_trans hsz (by simp))).trans HKB.out.2.1, (hb1.cell (p := ⟨w.heap.size, 2, none⟩) (Nat.lt_trans hsz (by simp))).trans HKB.out.2.2.1, (hb1.cell (p := ⟨w.heap.size, 3, none⟩) (Nat.lt_trans hsz (by simp))).trans HKB.out.2.2.2.1, (hb1.cell (p := ⟨w.heap.size, 4, none⟩) (Nat.lt_trans hsz (by simp))).trans HKB.out.2.2.2.2⟩; have HK1 := Lib.hid hk1; obtain ⟨q0, q1, q2, q3, q4⟩ := hk1; clear hb1 hm1 hblk)))
  all_goals first
    | (have M5 := Lib.hid (M1.out.alloc (.cells #[.int .u8 f, .bool true] 170)); have B5 := Lib.hid (B1.out.alloc (.cells #[.int .u8 f, .bool true] 170)); have hszF : w.heap.size < (w1.alloc (.cells #[.int .u8 f, .bool true] 170)).heap.size := (by simp; omega); have hfbF : w1.heap.size < (w1.alloc (.cells #[.int .u8 f, .bool true] 170)).heap.size := (by simp); have c5 := HK3.out; have g0 := new_cell w1 #[.int .u8 f, .bool true] 170 w1.heap.size 0 _ rfl rfl; have g1 := new_cell w1 #[.int .u8 f, .bool true] 170 w1.heap.size 1 _ rfl rfl; clear HK1 HK3 HK4 HKB HWB; generalize w1.alloc (.cells #[.int .u8 f, .bool true] 170) = WF at *; generalize w1.heap.size = fb at *)
    | (have hbut : But (OneBlock W.heap.size) w1 ((w1.setCell ⟨W.heap.size, 0, none⟩ (.int .u8 f)).setCell ⟨W.heap.size, 1, none⟩ (.bool true)) := ((But.refl (OneBlock W.heap.size) w1).setCell (p := ⟨W.heap.size, 0, none⟩) (.inl rfl) _).setCell (p := ⟨W.heap.size, 1, none⟩) (.inl rfl) _; have M5 := Lib.hid (M1.out.but hbut (oneBlock_not (by omega)) (oneBlock_not (by omega)) (oneBlock_not (by omega)) (oneBlock_not (by omega)) (fun hne k hk => oneBlock_not (Nat.ne_of_lt (HW.out.iscode.lt hne hk)))); have B5 := Lib.hid ((B1.out.setCell (p := ⟨W.heap.size, 0, none⟩) (.inr (Nat.le_of_lt hsz)) (.int .u8 f)).setCell (p := ⟨W.heap.size, 1, none⟩) (.inr (Nat.le_of_lt hsz)) (.bool true)); have hszF : w.heap.size < ((w1.setCell ⟨W.heap.size, 0, none⟩ (.int .u8 f)).setCell ⟨W.heap.size, 1, none⟩ (.bool true)).heap.size := Nat.lt_of_lt_of_le l1 hbut.size; have hfbF : W.heap.size < ((w1.setCell ⟨W.heap.size, 0, none⟩ (.int .u8 f)).setCell ⟨W.heap.size, 1, none⟩ (.bool true)).heap.size := Nat.lt_of_lt_of_le lB hbut.size; have c5 : ((w1.setCell ⟨W.heap.size, 0, none⟩ (.int .u8 f)).setCell ⟨W.heap.size, 1, none⟩ (.bool true)).cell? ⟨w.heap.size, 0, none⟩ = some (.int .i64 op) ∧ ((w1.setCell ⟨W.heap.size, 0, none⟩ (.int .u8 f)).setCell ⟨W.heap.size, 1, none⟩ (.bool true)).cell? ⟨w.heap.size, 1, none⟩ = some (.int .i64 d) ∧ ((w1.setCell ⟨W.heap.size, 0, none⟩ (.int .u8 f)).setCell ⟨W.heap.size, 1, none⟩ (.bool true)).cell? ⟨w.heap.size, 2, none⟩ = some (.int .i64 a) ∧ ((w1.setCell ⟨W.heap.size, 0, none⟩ (.int .u8 f)).setCell ⟨W.heap.size, 1, none⟩ (.bool true)).cell? ⟨w.heap.size, 3, none⟩ = some (.int .i64 b) ∧ ((w1.setCell ⟨W.heap.size, 0, none⟩ (.int .u8 f)).setCell ⟨W.heap.size, 1, none⟩ (.bool true)).cell? ⟨w.heap.size, 4, none⟩ = some (.int .i64 imm) := ⟨(hbut.cell (p := ⟨w.heap.size, 0, none⟩) l1 (oneBlock_not (show w.heap.size ≠ W.heap.size by omega))).trans HK1.out.1, (hbut.cell (p := ⟨w.heap.size, 1, none⟩) l1 (oneBlock_not (show w.heap.size ≠ W.heap.size by omega))).trans HK1.out.2.1, (hbut.cell (p := ⟨w.heap.size, 2, none⟩) l1 (oneBlock_not (show w.heap.size ≠ W.heap.size by omega))).trans HK1.out.2.2.1, (hbut.cell (p := ⟨w.heap.size, 3, none⟩) l1 (oneBlock_not (show w.heap.size ≠ W.heap.size by omega))).trans HK1.out.2.2.2.1, (hbut.cell (p := ⟨w.heap.size, 4, none⟩) l1 (oneBlock_not (show w.heap.size ≠ W.heap.size by omega))).trans HK1.out.2.2.2.2⟩; have hb0 := heap_setCell_same _ W.heap.size 1 _ _ (.bool true) (heap_setCell_same w1 W.heap.size 0 _ _ (.int .u8 f) HBLK.out); have g0 := cell_of_row _ W.heap.size 0 _ _ _ hb0; have g1 := cell_of_row _ W.heap.size 1 _ _ _ hb0; simp at g0 g1; clear HK1 HKB HWB HBLK hb0 hbut f0 f1 e0 e1; generalize (w1.setCell ⟨W.heap.size, 0, none⟩ (.int .u8 f)).setCell ⟨W.heap.size, 1, none⟩ (.bool true) = WF at *; generalize W.heap.size = fb at *)
  all_goals
    have M5d := Lib.hid (show Mach WF.drew xb mb bb c eb V code s from M5.out.drewN 1)
    have HK5 := Lib.hid (show WF.cell? ⟨w.heap.size, 0, none⟩ = some (.int .i64 op) ∧ WF.cell? ⟨w.heap.size, 1, none⟩ = some (.int .i64 d) ∧ WF.cell? ⟨w.heap.size, 2, none⟩ = some (.int .i64 a) ∧ WF.cell? ⟨w.heap.size, 3, none⟩ = some (.int .i64 b) ∧ WF.cell? ⟨w.heap.size, 4, none⟩ = some (.int .i64 imm) ∧ WF.cell? ⟨xb, 1 + a, none⟩ = some (.int .u64 (s.r a)) ∧ WF.cell? ⟨fb, 0, none⟩ = some (.int .u8 f) from ⟨c5.1, c5.2.1, c5.2.2.1, c5.2.2.2.1, c5.2.2.2.2, M5.out.reg ha, g0⟩)
    clear c5 g0
    go_wp2_with fail
    go_region_held3 (fun w' => w'.cell? ⟨w.heap.size, 0, none⟩ = some (.int .i64 op) ∧ w'.cell? ⟨w.heap.size, 1, none⟩ = some (.int .i64 d) ∧ w'.cell? ⟨w.heap.size, 2, none⟩ = some (.int .i64 a) ∧ w'.cell? ⟨w.heap.size, 3, none⟩ = some (.int .i64 b) ∧ w'.cell? ⟨w.heap.size, 4, none⟩ = some (.int .i64 imm) ∧ w'.cell? ⟨xb, 1 + a, none⟩ = some (.int .u64 (s.r a)) ∧ w'.cell? ⟨fb, 0, none⟩ = some (.int .u8 f)) (first | with_reducible exact HK6.out | exact HK5.out | go_keep)
      (first
        | (go_at_call 151; (with_reducible refine (HD.out _).mono ?_); rintro e w2 ⟨rfl, hb2⟩; have M6 := Lib.hid (M5d.out.below hb2); have B6 := Lib.hid hb2; have HK6 := Lib.hid (show w2.cell? ⟨w.heap.size, 0, none⟩ = some (.int .i64 op) ∧ w2.cell? ⟨w.heap.size, 1, none⟩ = some (.int .i64 d) ∧ w2.cell? ⟨w.heap.size, 2, none⟩ = some (.int .i64 a) ∧ w2.cell? ⟨w.heap.size, 3, none⟩ = some (.int .i64 b) ∧ w2.cell? ⟨w.heap.size, 4, none⟩ = some (.int .i64 imm) ∧ w2.cell? ⟨xb, 1 + a, none⟩ = some (.int .u64 (s.r a)) ∧ w2.cell? ⟨fb, 0, none⟩ = some (.int .u8 f) from ⟨(hb2.cell (p := ⟨w.heap.size, 0, none⟩) (show w.heap.size < WF.heap.size from hszF)).trans HK5.out.1, (hb2.cell (p := ⟨w.heap.size, 1, none⟩) (show w.heap.size < WF.heap.size from hszF)).trans HK5.out.2.1, (hb2.cell (p := ⟨w.heap.size, 2, none⟩) (show w.heap.size < WF.heap.size from hszF)).trans HK5.out.2.2.1, (hb2.cell (p := ⟨w.heap.size, 3, none⟩) (show w.heap.size < WF.heap.size from hszF)).trans HK5.out.2.2.2.1, (hb2.cell (p := ⟨w.heap.size, 4, none⟩) (show w.heap.size < WF.heap.size from hszF)).trans HK5.out.2.2.2.2.1, M6.out.reg ha, (hb2.cell (p := ⟨fb, 0, none⟩) (show fb < WF.heap.size from hfbF)).trans HK5.out.2.2.2.2.2.2⟩); clear hb2))
    all_goals
      obtain ⟨z0, z1, z2, z3, z4, z5, z6⟩ := HK6.out
      go_wp2_with (go_at_call 126; (with_reducible refine (result_any M6.out op imm d a b hd ha hb i1 i2 _ hv).mono ?_); rintro e w3 ⟨rfl, hm, hb3⟩; have M7 := Lib.hid hm; have B7 := Lib.hid hb3; clear hm hb3)
      go_ret
      exact ⟨rfl, M7.out, ((B5.out.drewN 1).trans (But.of_below B6.out)).trans B7.out⟩
end
end Go.Proofs.YtnaceogkaiodnaaGreat

