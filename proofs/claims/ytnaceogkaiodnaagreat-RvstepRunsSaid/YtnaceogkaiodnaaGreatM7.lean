/- What the smaller effects of package rvstep return and leave: contracts for any machine, in whatever memory of the program. -/
import Derived.Test.YtnaceogkaiodnaaGreatM6
import Derived.Test.YtnaceogkaiodnaaGreatM5
namespace Go.Proofs.YtnaceogkaiodnaaGreat
open Go.RowKit
set_option linter.unusedVariables false

theorem wrap_sg {a : Int} (h : InW a) : wrap64 a = sg a := by
  have h1 := h.1
  have h2 := h.2
  unfold sg wrap64
  split <;> omega
theorem wrap_add2 (a b : Int) : IntKind.u64.wrap (a + w64 b) = w64 (a + b) := by
  rw [wrap_w64]; unfold w64; omega
section
variable {w w' : World} {xb mb bb c eb : Nat} {V : Value} {code : List Int} {s : MSt}
theorem result_any (h : Mach w xb mb bb c eb V code s) (op imm : Int) (d a b : Nat) (hd : d < 32) (ha : a < 32) (hb : b < 32) (i1 : -1048576 ≤ imm) (i2 : imm ≤ 1048576) (v : Int) (hv : InW v) :
    Calls Tryz.prog 126 #[.pointer (some ⟨xb, 0, none⟩), .agg #[.int .i64 op, .int .i64 d, .int .i64 a, .int .i64 b, .int .i64 imm], .int .u64 v] w (EffDone xb mb bb c eb V code w (0, (s.set d v).at' (nextV s))) := by
  have HW := Lib.hid (h.alloc (.cells #[.int .i64 op, .int .i64 d, .int .i64 a, .int .i64 b, .int .i64 imm] 76))
  have BW := Lib.hid ((But.refl (TwoBlocks xb bb) w).alloc (.cells #[.int .i64 op, .int .i64 d, .int .i64 a, .int .i64 b, .int .i64 imm] 76))
  obtain ⟨lt1, lt2, lt3, lt4⟩ := h.lt
  clear h
  go_enter Tryz.func126, Tryz.ntmps126
  go_wp2_with (first
    | (go_at_call 47; (with_reducible refine (write_any HW.out d hd v hv).mono ?_); rintro e w1 ⟨rfl, hm, hb⟩; have M1 := Lib.hid hm; have B1 := Lib.hid hb; clear hm hb)
    | (go_at_call 146; (with_reducible refine (next_any M1.out).mono ?_); rintro e w2 ⟨rfl, hm, hb⟩; have M2 := Lib.hid hm; have B2 := Lib.hid hb; clear hm hb))
  go_ret
  have e : nextV (s.set d v) = nextV s := by unfold nextV; rw [set_pc]
  have hm := M2.out
  rw [e] at hm
  exact ⟨rfl, hm, (BW.out.trans B1.out.two1).trans B2.out.two1⟩
set_option maxRecDepth 100000 in
theorem link_any (h : Mach w xb mb bb c eb V code s) (op imm : Int) (d a b : Nat) (hd : d < 32) (ha : a < 32) (hb : b < 32) (i1 : -1048576 ≤ imm) (i2 : imm ≤ 1048576) (to : Int) (ht : InW to) :
    Calls Tryz.prog 128 #[.pointer (some ⟨xb, 0, none⟩), .agg #[.int .i64 op, .int .i64 d, .int .i64 a, .int .i64 b, .int .i64 imm], .int .u64 to] w (EffDone xb mb bb c eb V code w (0, (s.set d (nextV s)).at' to)) := by
  have HW := Lib.hid (h.alloc (.cells #[.int .i64 op, .int .i64 d, .int .i64 a, .int .i64 b, .int .i64 imm] 76))
  have BW := Lib.hid ((But.refl (TwoBlocks xb bb) w).alloc (.cells #[.int .i64 op, .int .i64 d, .int .i64 a, .int .i64 b, .int .i64 imm] 76))
  obtain ⟨lt1, lt2, lt3, lt4⟩ := h.lt
  clear h
  have HK0 := Lib.hid (show (w.alloc (.cells #[.int .i64 op, .int .i64 d, .int .i64 a, .int .i64 b, .int .i64 imm] 76)).cell? ⟨w.heap.size, 0, none⟩ = some (.int .i64 op) ∧ (w.alloc (.cells #[.int .i64 op, .int .i64 d, .int .i64 a, .int .i64 b, .int .i64 imm] 76)).cell? ⟨w.heap.size, 1, none⟩ = some (.int .i64 d) ∧ (w.alloc (.cells #[.int .i64 op, .int .i64 d, .int .i64 a, .int .i64 b, .int .i64 imm] 76)).cell? ⟨w.heap.size, 2, none⟩ = some (.int .i64 a) ∧ (w.alloc (.cells #[.int .i64 op, .int .i64 d, .int .i64 a, .int .i64 b, .int .i64 imm] 76)).cell? ⟨w.heap.size, 3, none⟩ = some (.int .i64 b) ∧ (w.alloc (.cells #[.int .i64 op, .int .i64 d, .int .i64 a, .int .i64 b, .int .i64 imm] 76)).cell? ⟨w.heap.size, 4, none⟩ = some (.int .i64 imm) from ⟨new_cell _ _ _ _ _ _ rfl rfl, new_cell _ _ _ _ _ _ rfl rfl, new_cell _ _ _ _ _ _ rfl rfl, new_cell _ _ _ _ _ _ rfl rfl, new_cell _ _ _ _ _ _ rfl rfl⟩)
  have HWd := Lib.hid (HW.out.drewN 1)
  have c1 := HW.out.pc
  go_enter Tryz.func128, Tryz.ntmps128
  go_wp2_with fail
  obtain ⟨k0, k1, k2, k3, k4⟩ := HK0.out
  have HSZ := Lib.hid (show w.heap.size < (w.alloc (.cells #[.int .i64 op, .int .i64 d, .int .i64 a, .int .i64 b, .int .i64 imm] 76)).heap.size by simp)
  generalize w.alloc (.cells #[.int .i64 op, .int .i64 d, .int .i64 a, .int .i64 b, .int .i64 imm] 76) = W at *
  go_still_tail 8, (by kernel_rfl)
  go_wp2_with (go_at_call 47; refine (write_any HWd.out d hd _ (by rw [wrap_w64]; exact w64_bd _)).mono ?_; rintro e w1 ⟨rfl, hm, hb⟩; have M1 := Lib.hid hm; have B1 := Lib.hid hb; have g1 := hm.free 33; have g2 := hm.pc; clear hm hb)
  go_ret
  have hm := M1.out
  rw [wrap_w64] at hm
  exact ⟨rfl, hm.setPc ht, ((BW.out.drewN 1).trans B1.out.two1).setCell (p := ⟨xb, 33, none⟩) (.inl (.inl rfl)) _⟩
theorem branch_no (h : Mach w xb mb bb c eb V code s) (op imm : Int) (d a b : Nat) (hd : d < 32) (ha : a < 32) (hb : b < 32) (i1 : -1048576 ≤ imm) (i2 : imm ≤ 1048576)  :
    Calls Tryz.prog 129 #[.pointer (some ⟨xb, 0, none⟩), .agg #[.int .i64 op, .int .i64 d, .int .i64 a, .int .i64 b, .int .i64 imm], .bool false] w (EffDone xb mb bb c eb V code w (0, s.at' (nextV s))) := by
  have HW := Lib.hid (h.alloc (.cells #[.int .i64 op, .int .i64 d, .int .i64 a, .int .i64 b, .int .i64 imm] 76))
  have BW := Lib.hid ((But.refl (TwoBlocks xb bb) w).alloc (.cells #[.int .i64 op, .int .i64 d, .int .i64 a, .int .i64 b, .int .i64 imm] 76))
  obtain ⟨lt1, lt2, lt3, lt4⟩ := h.lt
  clear h
  go_enter Tryz.func129, Tryz.ntmps129
  go_wp2_with (go_at_call 146; (with_reducible refine (next_any HW.out).mono ?_); rintro e w2 ⟨rfl, hm, hb⟩; have M2 := Lib.hid hm; have B2 := Lib.hid hb; clear hm hb)
  go_ret
  exact ⟨rfl, M2.out, BW.out.trans B2.out.two1⟩
set_option maxRecDepth 100000 in
theorem branch_yes (h : Mach w xb mb bb c eb V code s) (op imm : Int) (d a b : Nat) (hd : d < 32) (ha : a < 32) (hb : b < 32) (i1 : -1048576 ≤ imm) (i2 : imm ≤ 1048576)  :
    Calls Tryz.prog 129 #[.pointer (some ⟨xb, 0, none⟩), .agg #[.int .i64 op, .int .i64 d, .int .i64 a, .int .i64 b, .int .i64 imm], .bool true] w (EffDone xb mb bb c eb V code w (0, s.at' (w64 (s.pc + imm)))) := by
  have HW := Lib.hid (h.alloc (.cells #[.int .i64 op, .int .i64 d, .int .i64 a, .int .i64 b, .int .i64 imm] 76))
  have BW := Lib.hid ((But.refl (TwoBlocks xb bb) w).alloc (.cells #[.int .i64 op, .int .i64 d, .int .i64 a, .int .i64 b, .int .i64 imm] 76))
  obtain ⟨lt1, lt2, lt3, lt4⟩ := h.lt
  clear h
  have HK0 := Lib.hid (show (w.alloc (.cells #[.int .i64 op, .int .i64 d, .int .i64 a, .int .i64 b, .int .i64 imm] 76)).cell? ⟨w.heap.size, 0, none⟩ = some (.int .i64 op) ∧ (w.alloc (.cells #[.int .i64 op, .int .i64 d, .int .i64 a, .int .i64 b, .int .i64 imm] 76)).cell? ⟨w.heap.size, 1, none⟩ = some (.int .i64 d) ∧ (w.alloc (.cells #[.int .i64 op, .int .i64 d, .int .i64 a, .int .i64 b, .int .i64 imm] 76)).cell? ⟨w.heap.size, 2, none⟩ = some (.int .i64 a) ∧ (w.alloc (.cells #[.int .i64 op, .int .i64 d, .int .i64 a, .int .i64 b, .int .i64 imm] 76)).cell? ⟨w.heap.size, 3, none⟩ = some (.int .i64 b) ∧ (w.alloc (.cells #[.int .i64 op, .int .i64 d, .int .i64 a, .int .i64 b, .int .i64 imm] 76)).cell? ⟨w.heap.size, 4, none⟩ = some (.int .i64 imm) from ⟨new_cell _ _ _ _ _ _ rfl rfl, new_cell _ _ _ _ _ _ rfl rfl, new_cell _ _ _ _ _ _ rfl rfl, new_cell _ _ _ _ _ _ rfl rfl, new_cell _ _ _ _ _ _ rfl rfl⟩)
  have HWd := Lib.hid (HW.out.drewN 1)
  have c1 := HW.out.pc
  have f1 := HW.out.free 33
  go_enter Tryz.func129, Tryz.ntmps129
  go_wp2_with fail
  obtain ⟨k0, k1, k2, k3, k4⟩ := HK0.out
  have HSZ := Lib.hid (show w.heap.size < (w.alloc (.cells #[.int .i64 op, .int .i64 d, .int .i64 a, .int .i64 b, .int .i64 imm] 76)).heap.size by simp)
  generalize w.alloc (.cells #[.int .i64 op, .int .i64 d, .int .i64 a, .int .i64 b, .int .i64 imm] 76) = W at *
  go_still_tail 10, (by kernel_rfl)
  go_wp2
  go_ret
  have hm := HWd.out.setPc (p := IntKind.u64.wrap (s.pc + IntKind.u64.wrap imm)) (by rw [wrap_w64]; exact w64_bd _)
  refine ⟨rfl, ?_, (BW.out.drewN 1).setCell (p := ⟨xb, 33, none⟩) (.inl (.inl rfl)) _⟩
  rw [show w64 (s.pc + imm) = IntKind.u64.wrap (s.pc + IntKind.u64.wrap imm) from (wrap_add _ _).symm]
  exact hm
theorem branch_any (h : Mach w xb mb bb c eb V code s) (op imm : Int) (d a b : Nat) (hd : d < 32) (ha : a < 32) (hb : b < 32) (i1 : -1048576 ≤ imm) (i2 : imm ≤ 1048576) (t : Bool) :
    Calls Tryz.prog 129 #[.pointer (some ⟨xb, 0, none⟩), .agg #[.int .i64 op, .int .i64 d, .int .i64 a, .int .i64 b, .int .i64 imm], .bool t] w (EffDone xb mb bb c eb V code w (0, s.at' (if t = true then w64 (s.pc + imm) else nextV s))) := by
  cases t
  · exact branch_no h op imm d a b hd ha hb i1 i2
  · exact branch_yes h op imm d a b hd ha hb i1 i2
theorem less_any (h : Mach w xb mb bb c eb V code s) (op imm : Int) (d a b : Nat) (hd : d < 32) (ha : a < 32) (hb : b < 32) (i1 : -1048576 ≤ imm) (i2 : imm ≤ 1048576) :
    Calls Tryz.prog 130 #[.pointer (some ⟨xb, 0, none⟩), .agg #[.int .i64 op, .int .i64 d, .int .i64 a, .int .i64 b, .int .i64 imm]] w fun e w' => e = .returned (.bool (decide (sg (s.r a) < sg (s.r b)))) ∧ Below w.heap.size w w' := by
  have HW := Lib.hid (h.alloc (.cells #[.int .i64 op, .int .i64 d, .int .i64 a, .int .i64 b, .int .i64 imm] 76))
  have c1 := HW.out.reg ha
  have c2 := HW.out.reg hb
  have r1 := h.ok.r a
  have r2 := h.ok.r b
  have hi : (a : Int) < 32 := by omega
  have hj : (b : Int) < 32 := by omega
  clear h
  go_enter Tryz.func130, Tryz.ntmps130
  go_wp2_with fail
  go_quiet (fail)
  go_wp2
  go_ret
  exact ⟨by rw [← wrap_sg r1, ← wrap_sg r2]; rfl, below_drewN ((Below.refl _ _).alloc (Nat.le_refl _) _) _⟩
set_option maxRecDepth 100000 in
set_option maxHeartbeats 2000000 in
theorem lui_any (h : Mach w xb mb bb c eb V code s) (op imm : Int) (d a b : Nat) (hd : d < 32) (ha : a < 32) (hb : b < 32) (i1 : -1048576 ≤ imm) (i2 : imm ≤ 1048576)  :
    Calls Tryz.prog 93 #[.pointer (some ⟨xb, 0, none⟩), .agg #[.int .i64 op, .int .i64 d, .int .i64 a, .int .i64 b, .int .i64 imm]] w (EffDone xb mb bb c eb V code w (0, (s.set d (w64 (imm * 4096))).at' (nextV s))) := by
  have HW := Lib.hid (h.alloc (.cells #[.int .i64 op, .int .i64 d, .int .i64 a, .int .i64 b, .int .i64 imm] 76))
  have BW := Lib.hid ((But.refl (TwoBlocks xb bb) w).alloc (.cells #[.int .i64 op, .int .i64 d, .int .i64 a, .int .i64 b, .int .i64 imm] 76))
  obtain ⟨lt1, lt2, lt3, lt4⟩ := h.lt
  clear h
  have HK0 := Lib.hid (show (w.alloc (.cells #[.int .i64 op, .int .i64 d, .int .i64 a, .int .i64 b, .int .i64 imm] 76)).cell? ⟨w.heap.size, 0, none⟩ = some (.int .i64 op) ∧ (w.alloc (.cells #[.int .i64 op, .int .i64 d, .int .i64 a, .int .i64 b, .int .i64 imm] 76)).cell? ⟨w.heap.size, 1, none⟩ = some (.int .i64 d) ∧ (w.alloc (.cells #[.int .i64 op, .int .i64 d, .int .i64 a, .int .i64 b, .int .i64 imm] 76)).cell? ⟨w.heap.size, 2, none⟩ = some (.int .i64 a) ∧ (w.alloc (.cells #[.int .i64 op, .int .i64 d, .int .i64 a, .int .i64 b, .int .i64 imm] 76)).cell? ⟨w.heap.size, 3, none⟩ = some (.int .i64 b) ∧ (w.alloc (.cells #[.int .i64 op, .int .i64 d, .int .i64 a, .int .i64 b, .int .i64 imm] 76)).cell? ⟨w.heap.size, 4, none⟩ = some (.int .i64 imm) from ⟨new_cell _ _ _ _ _ _ rfl rfl, new_cell _ _ _ _ _ _ rfl rfl, new_cell _ _ _ _ _ _ rfl rfl, new_cell _ _ _ _ _ _ rfl rfl, new_cell _ _ _ _ _ _ rfl rfl⟩)
  go_enter Tryz.func93, Tryz.ntmps93
  go_wp2_with fail
  obtain ⟨k0, k1, k2, k3, k4⟩ := HK0.out
  have HSZ := Lib.hid (show w.heap.size < (w.alloc (.cells #[.int .i64 op, .int .i64 d, .int .i64 a, .int .i64 b, .int .i64 imm] 76)).heap.size by simp)
  generalize w.alloc (.cells #[.int .i64 op, .int .i64 d, .int .i64 a, .int .i64 b, .int .i64 imm] 76) = W at *
  have HWd := Lib.hid (HW.out.drewN 1)
  have p0 := HW.out.pc
  clear k0 k1 k2 k3 k4
  have hsz : w.heap.size < W.heap.size := HSZ.out
  go_region_held3 (fun w' => w'.cell? ⟨w.heap.size, 0, none⟩ = some (.int .i64 op) ∧ w'.cell? ⟨w.heap.size, 1, none⟩ = some (.int .i64 d) ∧ w'.cell? ⟨w.heap.size, 2, none⟩ = some (.int .i64 a) ∧ w'.cell? ⟨w.heap.size, 3, none⟩ = some (.int .i64 b) ∧ w'.cell? ⟨w.heap.size, 4, none⟩ = some (.int .i64 imm)) (first | with_reducible exact HK2.out | with_reducible exact HK1.out | exact HK0.out | go_keep)
    (first
      | (go_at_call 127; (with_reducible refine (upperR_any op d a b imm _ i1 i2).mono ?_); rintro e w1 ⟨rfl, hb1⟩; have M1 := Lib.hid (HWd.out.below hb1); have B1 := Lib.hid hb1; have l1 : w.heap.size < w1.heap.size := Nat.lt_of_lt_of_le hsz hb1.size; have p1 := M1.out.pc; have HK1 := Lib.hid (show w1.cell? ⟨w.heap.size, 0, none⟩ = some (.int .i64 op) ∧ w1.cell? ⟨w.heap.size, 1, none⟩ = some (.int .i64 d) ∧ w1.cell? ⟨w.heap.size, 2, none⟩ = some (.int .i64 a) ∧ w1.cell? ⟨w.heap.size, 3, none⟩ = some (.int .i64 b) ∧ w1.cell? ⟨w.heap.size, 4, none⟩ = some (.int .i64 imm) from ⟨(hb1.cell (p := ⟨w.heap.size, 0, none⟩) hsz).trans HK0.out.1, (hb1.cell (p := ⟨w.heap.size, 1, none⟩) hsz).trans HK0.out.2.1, (hb1.cell (p := ⟨w.heap.size, 2, none⟩) hsz).trans HK0.out.2.2.1, (hb1.cell (p := ⟨w.heap.size, 3, none⟩) hsz).trans HK0.out.2.2.2.1, (hb1.cell (p := ⟨w.heap.size, 4, none⟩) hsz).trans HK0.out.2.2.2.2⟩); clear hb1)
      | (go_at_call 126; refine (result_any M1.out op imm d a b hd ha hb i1 i2 _ (w64_bd _)).mono ?_; rintro e w2 ⟨rfl, hm, hb2⟩; have M2 := Lib.hid hm; have B2 := Lib.hid hb2; have HK2 := Lib.hid (show w2.cell? ⟨w.heap.size, 0, none⟩ = some (.int .i64 op) ∧ w2.cell? ⟨w.heap.size, 1, none⟩ = some (.int .i64 d) ∧ w2.cell? ⟨w.heap.size, 2, none⟩ = some (.int .i64 a) ∧ w2.cell? ⟨w.heap.size, 3, none⟩ = some (.int .i64 b) ∧ w2.cell? ⟨w.heap.size, 4, none⟩ = some (.int .i64 imm) from ⟨(hb2.cell (p := ⟨w.heap.size, 0, none⟩) l1 (twoBlocks_not (show w.heap.size ≠ xb by omega) (show w.heap.size ≠ bb by omega))).trans HK1.out.1, (hb2.cell (p := ⟨w.heap.size, 1, none⟩) l1 (twoBlocks_not (show w.heap.size ≠ xb by omega) (show w.heap.size ≠ bb by omega))).trans HK1.out.2.1, (hb2.cell (p := ⟨w.heap.size, 2, none⟩) l1 (twoBlocks_not (show w.heap.size ≠ xb by omega) (show w.heap.size ≠ bb by omega))).trans HK1.out.2.2.1, (hb2.cell (p := ⟨w.heap.size, 3, none⟩) l1 (twoBlocks_not (show w.heap.size ≠ xb by omega) (show w.heap.size ≠ bb by omega))).trans HK1.out.2.2.2.1, (hb2.cell (p := ⟨w.heap.size, 4, none⟩) l1 (twoBlocks_not (show w.heap.size ≠ xb by omega) (show w.heap.size ≠ bb by omega))).trans HK1.out.2.2.2.2⟩); clear hm hb2))
  all_goals
    go_wp2
    go_ret
    exact ⟨rfl, M2.out, ((BW.out.drewN 1).trans (But.of_below B1.out)).trans B2.out⟩
set_option maxRecDepth 100000 in
set_option maxHeartbeats 2000000 in
theorem auipc_any (h : Mach w xb mb bb c eb V code s) (op imm : Int) (d a b : Nat) (hd : d < 32) (ha : a < 32) (hb : b < 32) (i1 : -1048576 ≤ imm) (i2 : imm ≤ 1048576)  :
    Calls Tryz.prog 94 #[.pointer (some ⟨xb, 0, none⟩), .agg #[.int .i64 op, .int .i64 d, .int .i64 a, .int .i64 b, .int .i64 imm]] w (EffDone xb mb bb c eb V code w (0, (s.set d (w64 (s.pc + imm * 4096))).at' (nextV s))) := by
  have HW := Lib.hid (h.alloc (.cells #[.int .i64 op, .int .i64 d, .int .i64 a, .int .i64 b, .int .i64 imm] 76))
  have BW := Lib.hid ((But.refl (TwoBlocks xb bb) w).alloc (.cells #[.int .i64 op, .int .i64 d, .int .i64 a, .int .i64 b, .int .i64 imm] 76))
  obtain ⟨lt1, lt2, lt3, lt4⟩ := h.lt
  clear h
  have HK0 := Lib.hid (show (w.alloc (.cells #[.int .i64 op, .int .i64 d, .int .i64 a, .int .i64 b, .int .i64 imm] 76)).cell? ⟨w.heap.size, 0, none⟩ = some (.int .i64 op) ∧ (w.alloc (.cells #[.int .i64 op, .int .i64 d, .int .i64 a, .int .i64 b, .int .i64 imm] 76)).cell? ⟨w.heap.size, 1, none⟩ = some (.int .i64 d) ∧ (w.alloc (.cells #[.int .i64 op, .int .i64 d, .int .i64 a, .int .i64 b, .int .i64 imm] 76)).cell? ⟨w.heap.size, 2, none⟩ = some (.int .i64 a) ∧ (w.alloc (.cells #[.int .i64 op, .int .i64 d, .int .i64 a, .int .i64 b, .int .i64 imm] 76)).cell? ⟨w.heap.size, 3, none⟩ = some (.int .i64 b) ∧ (w.alloc (.cells #[.int .i64 op, .int .i64 d, .int .i64 a, .int .i64 b, .int .i64 imm] 76)).cell? ⟨w.heap.size, 4, none⟩ = some (.int .i64 imm) from ⟨new_cell _ _ _ _ _ _ rfl rfl, new_cell _ _ _ _ _ _ rfl rfl, new_cell _ _ _ _ _ _ rfl rfl, new_cell _ _ _ _ _ _ rfl rfl, new_cell _ _ _ _ _ _ rfl rfl⟩)
  go_enter Tryz.func94, Tryz.ntmps94
  go_wp2_with fail
  obtain ⟨k0, k1, k2, k3, k4⟩ := HK0.out
  have HSZ := Lib.hid (show w.heap.size < (w.alloc (.cells #[.int .i64 op, .int .i64 d, .int .i64 a, .int .i64 b, .int .i64 imm] 76)).heap.size by simp)
  generalize w.alloc (.cells #[.int .i64 op, .int .i64 d, .int .i64 a, .int .i64 b, .int .i64 imm] 76) = W at *
  have HWd := Lib.hid (HW.out.drewN 1)
  have p0 := HW.out.pc
  have hsz : w.heap.size < W.heap.size := HSZ.out
  go_region_with (first
      | (go_at_call 127; (with_reducible refine (upperR_any op d a b imm _ i1 i2).mono ?_); rintro e w1 ⟨rfl, hb1⟩; have M1 := Lib.hid (HWd.out.below hb1); have B1 := Lib.hid hb1; have p1 := M1.out.pc; obtain ⟨q0, q1, q2, q3, q4⟩ : w1.cell? ⟨w.heap.size, 0, none⟩ = some (.int .i64 op) ∧ w1.cell? ⟨w.heap.size, 1, none⟩ = some (.int .i64 d) ∧ w1.cell? ⟨w.heap.size, 2, none⟩ = some (.int .i64 a) ∧ w1.cell? ⟨w.heap.size, 3, none⟩ = some (.int .i64 b) ∧ w1.cell? ⟨w.heap.size, 4, none⟩ = some (.int .i64 imm) := ⟨(hb1.cell (p := ⟨w.heap.size, 0, none⟩) hsz).trans HK0.out.1, (hb1.cell (p := ⟨w.heap.size, 1, none⟩) hsz).trans HK0.out.2.1, (hb1.cell (p := ⟨w.heap.size, 2, none⟩) hsz).trans HK0.out.2.2.1, (hb1.cell (p := ⟨w.heap.size, 3, none⟩) hsz).trans HK0.out.2.2.2.1, (hb1.cell (p := ⟨w.heap.size, 4, none⟩) hsz).trans HK0.out.2.2.2.2⟩; clear hb1)
      | (go_at_call 126; refine (result_any M1.out op imm d a b hd ha hb i1 i2 _ (by rw [wrap_w64]; exact w64_bd _)).mono ?_; rintro e w2 ⟨rfl, hm, hb2⟩; have M2 := Lib.hid hm; have B2 := Lib.hid hb2; clear hm hb2))
  all_goals
    go_wp2
    go_ret
    have hm := M2.out
    rw [wrap_add2] at hm
    exact ⟨rfl, hm, ((BW.out.drewN 1).trans (But.of_below B1.out)).trans B2.out⟩
end
end Go.Proofs.YtnaceogkaiodnaaGreat

namespace Go.Proofs.YtnaceogkaiodnaaGreat
open Go.RowKit
set_option linter.unusedVariables false
set_option linter.unusedSimpArgs false

theorem beq_eq_decide' (x y : Int) : (x == y) = decide (x = y) := by
  by_cases h : x = y
  · simp [h]
  · simp [h]
/-- Where a branch leads. -/
def brV (op : Int) (s : MSt) (x y imm : Int) : MSt := s.at' (if takesV op x y = true then w64 (s.pc + imm) else nextV s)
theorem even_bd {x : Int} (h : InW x) : InW (x / 2 * 2) := by
  have h1 := h.1
  have h2 := h.2
  exact ⟨by omega, by omega⟩
theorem nat_even (x : Nat) (h : x < 18446744073709551616) : x &&& 18446744073709551614 = x / 2 * 2 := by
  apply Nat.eq_of_testBit_eq
  intro i
  rw [Nat.testBit_and]
  cases i with
  | zero => simp [Nat.testBit_zero]
  | succ i =>
    rw [Nat.testBit_succ, Nat.testBit_succ, Nat.testBit_succ, show 18446744073709551614 / 2 = 2 ^ 63 - 1 by decide, Nat.testBit_two_pow_sub_one, show x / 2 * 2 / 2 = x / 2 by omega]
    by_cases hi : i < 63
    · simp [hi]
    · have : (x / 2).testBit i = false := Nat.testBit_lt_two_pow (Nat.lt_of_lt_of_le (show x / 2 < 2 ^ 63 by omega) (Nat.pow_le_pow_right (by omega) (by omega)))
      simp [this]
theorem andNot_1 {x : Int} (h : InW x) : bits .andNot .u64 x 1 = x / 2 * 2 := by
  have h1 := h.1
  have h2 := h.2
  rw [u64_andNot x 1 h1 h2 (by omega) (by omega), show (18446744073709551615 - (1 : Int).toNat) = 18446744073709551614 by decide, nat_even _ (by omega)]
  omega
section
variable {w w' : World} {xb mb bb c eb : Nat} {V : Value} {code : List Int} {s : MSt}
set_option maxRecDepth 100000 in
set_option maxHeartbeats 2000000 in
theorem jal_any (h : Mach w xb mb bb c eb V code s) (op imm : Int) (d a b : Nat) (hd : d < 32) (ha : a < 32) (hb : b < 32) (i1 : -1048576 ≤ imm) (i2 : imm ≤ 1048576)  :
    Calls Tryz.prog 95 #[.pointer (some ⟨xb, 0, none⟩), .agg #[.int .i64 op, .int .i64 d, .int .i64 a, .int .i64 b, .int .i64 imm]] w (EffDone xb mb bb c eb V code w (0, (s.set d (nextV s)).at' (w64 (s.pc + imm)))) := by
  have HW := Lib.hid (h.alloc (.cells #[.int .i64 op, .int .i64 d, .int .i64 a, .int .i64 b, .int .i64 imm] 76))
  have BW := Lib.hid ((But.refl (TwoBlocks xb bb) w).alloc (.cells #[.int .i64 op, .int .i64 d, .int .i64 a, .int .i64 b, .int .i64 imm] 76))
  obtain ⟨lt1, lt2, lt3, lt4⟩ := h.lt
  clear h
  have HK0 := Lib.hid (show (w.alloc (.cells #[.int .i64 op, .int .i64 d, .int .i64 a, .int .i64 b, .int .i64 imm] 76)).cell? ⟨w.heap.size, 0, none⟩ = some (.int .i64 op) ∧ (w.alloc (.cells #[.int .i64 op, .int .i64 d, .int .i64 a, .int .i64 b, .int .i64 imm] 76)).cell? ⟨w.heap.size, 1, none⟩ = some (.int .i64 d) ∧ (w.alloc (.cells #[.int .i64 op, .int .i64 d, .int .i64 a, .int .i64 b, .int .i64 imm] 76)).cell? ⟨w.heap.size, 2, none⟩ = some (.int .i64 a) ∧ (w.alloc (.cells #[.int .i64 op, .int .i64 d, .int .i64 a, .int .i64 b, .int .i64 imm] 76)).cell? ⟨w.heap.size, 3, none⟩ = some (.int .i64 b) ∧ (w.alloc (.cells #[.int .i64 op, .int .i64 d, .int .i64 a, .int .i64 b, .int .i64 imm] 76)).cell? ⟨w.heap.size, 4, none⟩ = some (.int .i64 imm) from ⟨new_cell _ _ _ _ _ _ rfl rfl, new_cell _ _ _ _ _ _ rfl rfl, new_cell _ _ _ _ _ _ rfl rfl, new_cell _ _ _ _ _ _ rfl rfl, new_cell _ _ _ _ _ _ rfl rfl⟩)
  have HWd := Lib.hid (HW.out.drewN 1)
  have c1 := HW.out.pc
  have c2 := HW.out.reg ha
  have c3 := HW.out.reg hb
  have hi : (a : Int) < 32 := by omega
  have hj : (b : Int) < 32 := by omega
  go_enter Tryz.func95, Tryz.ntmps95
  go_wp2_with fail
  obtain ⟨k0, k1, k2, k3, k4⟩ := HK0.out
  have HSZ := Lib.hid (show w.heap.size < (w.alloc (.cells #[.int .i64 op, .int .i64 d, .int .i64 a, .int .i64 b, .int .i64 imm] 76)).heap.size by simp)
  generalize w.alloc (.cells #[.int .i64 op, .int .i64 d, .int .i64 a, .int .i64 b, .int .i64 imm] 76) = W at *
  go_still_tail 10, (by kernel_rfl)
  go_wp2_with (go_at_call 128; refine (link_any HWd.out op imm d a b hd ha hb i1 i2 _ (by rw [wrap_w64]; exact w64_bd _)).mono ?_; rintro e w1 ⟨rfl, hm, hb⟩; have M1 := Lib.hid hm; have B1 := Lib.hid hb; clear hm hb)
  go_ret
  have hm := M1.out
  rw [wrap_add] at hm
  exact ⟨rfl, hm, (BW.out.drewN 1).trans B1.out⟩
set_option maxRecDepth 100000 in
set_option maxHeartbeats 2000000 in
theorem jalr_any (h : Mach w xb mb bb c eb V code s) (op imm : Int) (d a b : Nat) (hd : d < 32) (ha : a < 32) (hb : b < 32) (i1 : -1048576 ≤ imm) (i2 : imm ≤ 1048576)  :
    Calls Tryz.prog 96 #[.pointer (some ⟨xb, 0, none⟩), .agg #[.int .i64 op, .int .i64 d, .int .i64 a, .int .i64 b, .int .i64 imm]] w (EffDone xb mb bb c eb V code w (0, (s.set d (nextV s)).at' (w64 (s.r a + imm) / 2 * 2))) := by
  have HW := Lib.hid (h.alloc (.cells #[.int .i64 op, .int .i64 d, .int .i64 a, .int .i64 b, .int .i64 imm] 76))
  have BW := Lib.hid ((But.refl (TwoBlocks xb bb) w).alloc (.cells #[.int .i64 op, .int .i64 d, .int .i64 a, .int .i64 b, .int .i64 imm] 76))
  obtain ⟨lt1, lt2, lt3, lt4⟩ := h.lt
  clear h
  have HK0 := Lib.hid (show (w.alloc (.cells #[.int .i64 op, .int .i64 d, .int .i64 a, .int .i64 b, .int .i64 imm] 76)).cell? ⟨w.heap.size, 0, none⟩ = some (.int .i64 op) ∧ (w.alloc (.cells #[.int .i64 op, .int .i64 d, .int .i64 a, .int .i64 b, .int .i64 imm] 76)).cell? ⟨w.heap.size, 1, none⟩ = some (.int .i64 d) ∧ (w.alloc (.cells #[.int .i64 op, .int .i64 d, .int .i64 a, .int .i64 b, .int .i64 imm] 76)).cell? ⟨w.heap.size, 2, none⟩ = some (.int .i64 a) ∧ (w.alloc (.cells #[.int .i64 op, .int .i64 d, .int .i64 a, .int .i64 b, .int .i64 imm] 76)).cell? ⟨w.heap.size, 3, none⟩ = some (.int .i64 b) ∧ (w.alloc (.cells #[.int .i64 op, .int .i64 d, .int .i64 a, .int .i64 b, .int .i64 imm] 76)).cell? ⟨w.heap.size, 4, none⟩ = some (.int .i64 imm) from ⟨new_cell _ _ _ _ _ _ rfl rfl, new_cell _ _ _ _ _ _ rfl rfl, new_cell _ _ _ _ _ _ rfl rfl, new_cell _ _ _ _ _ _ rfl rfl, new_cell _ _ _ _ _ _ rfl rfl⟩)
  have HWd := Lib.hid (HW.out.drewN 1)
  have c1 := HW.out.pc
  have c2 := HW.out.reg ha
  have c3 := HW.out.reg hb
  have hi : (a : Int) < 32 := by omega
  have hj : (b : Int) < 32 := by omega
  go_enter Tryz.func96, Tryz.ntmps96
  go_wp2_with fail
  obtain ⟨k0, k1, k2, k3, k4⟩ := HK0.out
  have HSZ := Lib.hid (show w.heap.size < (w.alloc (.cells #[.int .i64 op, .int .i64 d, .int .i64 a, .int .i64 b, .int .i64 imm] 76)).heap.size by simp)
  generalize w.alloc (.cells #[.int .i64 op, .int .i64 d, .int .i64 a, .int .i64 b, .int .i64 imm] 76) = W at *
  go_still_tail 14, (by kernel_rfl)
  go_wp2_with (go_at_call 128; refine (link_any HWd.out op imm d a b hd ha hb i1 i2 _ (by rw [andNot_1 (by rw [wrap_w64]; exact w64_bd _)]; exact even_bd (by rw [wrap_w64]; exact w64_bd _))).mono ?_; rintro e w1 ⟨rfl, hm, hb⟩; have M1 := Lib.hid hm; have B1 := Lib.hid hb; clear hm hb)
  go_ret
  have hm := M1.out
  rw [wrap_add, andNot_1 (w64_bd _)] at hm
  exact ⟨rfl, hm, (BW.out.drewN 1).trans B1.out⟩
set_option maxRecDepth 100000 in
set_option maxHeartbeats 2000000 in
theorem beq_any (h : Mach w xb mb bb c eb V code s) (op imm : Int) (d a b : Nat) (hd : d < 32) (ha : a < 32) (hb : b < 32) (i1 : -1048576 ≤ imm) (i2 : imm ≤ 1048576)  :
    Calls Tryz.prog 97 #[.pointer (some ⟨xb, 0, none⟩), .agg #[.int .i64 op, .int .i64 d, .int .i64 a, .int .i64 b, .int .i64 imm]] w (EffDone xb mb bb c eb V code w (0, brV 5 s (s.r a) (s.r b) imm)) := by
  have HW := Lib.hid (h.alloc (.cells #[.int .i64 op, .int .i64 d, .int .i64 a, .int .i64 b, .int .i64 imm] 76))
  have BW := Lib.hid ((But.refl (TwoBlocks xb bb) w).alloc (.cells #[.int .i64 op, .int .i64 d, .int .i64 a, .int .i64 b, .int .i64 imm] 76))
  obtain ⟨lt1, lt2, lt3, lt4⟩ := h.lt
  clear h
  have HK0 := Lib.hid (show (w.alloc (.cells #[.int .i64 op, .int .i64 d, .int .i64 a, .int .i64 b, .int .i64 imm] 76)).cell? ⟨w.heap.size, 0, none⟩ = some (.int .i64 op) ∧ (w.alloc (.cells #[.int .i64 op, .int .i64 d, .int .i64 a, .int .i64 b, .int .i64 imm] 76)).cell? ⟨w.heap.size, 1, none⟩ = some (.int .i64 d) ∧ (w.alloc (.cells #[.int .i64 op, .int .i64 d, .int .i64 a, .int .i64 b, .int .i64 imm] 76)).cell? ⟨w.heap.size, 2, none⟩ = some (.int .i64 a) ∧ (w.alloc (.cells #[.int .i64 op, .int .i64 d, .int .i64 a, .int .i64 b, .int .i64 imm] 76)).cell? ⟨w.heap.size, 3, none⟩ = some (.int .i64 b) ∧ (w.alloc (.cells #[.int .i64 op, .int .i64 d, .int .i64 a, .int .i64 b, .int .i64 imm] 76)).cell? ⟨w.heap.size, 4, none⟩ = some (.int .i64 imm) from ⟨new_cell _ _ _ _ _ _ rfl rfl, new_cell _ _ _ _ _ _ rfl rfl, new_cell _ _ _ _ _ _ rfl rfl, new_cell _ _ _ _ _ _ rfl rfl, new_cell _ _ _ _ _ _ rfl rfl⟩)
  have HWd := Lib.hid (HW.out.drewN 1)
  have c1 := HW.out.pc
  have c2 := HW.out.reg ha
  have c3 := HW.out.reg hb
  have hi : (a : Int) < 32 := by omega
  have hj : (b : Int) < 32 := by omega
  go_enter Tryz.func97, Tryz.ntmps97
  go_wp2_with fail
  obtain ⟨k0, k1, k2, k3, k4⟩ := HK0.out
  have HSZ := Lib.hid (show w.heap.size < (w.alloc (.cells #[.int .i64 op, .int .i64 d, .int .i64 a, .int .i64 b, .int .i64 imm] 76)).heap.size by simp)
  generalize w.alloc (.cells #[.int .i64 op, .int .i64 d, .int .i64 a, .int .i64 b, .int .i64 imm] 76) = W at *
  go_still_tail 17, (by kernel_rfl)
  go_wp2_with (go_at_call 129; refine (branch_any HWd.out op imm d a b hd ha hb i1 i2 _).mono ?_; rintro e w1 ⟨rfl, hm, hb⟩; have M1 := Lib.hid hm; have B1 := Lib.hid hb; clear hm hb)
  go_ret
  have hm := M1.out
  have e : takesV 5 (s.r a) (s.r b) = (s.r a == s.r b) := by simp [takesV, bne, beq_eq_decide']
  unfold brV
  rw [e]
  exact ⟨rfl, hm, (BW.out.drewN 1).trans B1.out⟩
set_option maxRecDepth 100000 in
set_option maxHeartbeats 2000000 in
theorem bne_any (h : Mach w xb mb bb c eb V code s) (op imm : Int) (d a b : Nat) (hd : d < 32) (ha : a < 32) (hb : b < 32) (i1 : -1048576 ≤ imm) (i2 : imm ≤ 1048576)  :
    Calls Tryz.prog 98 #[.pointer (some ⟨xb, 0, none⟩), .agg #[.int .i64 op, .int .i64 d, .int .i64 a, .int .i64 b, .int .i64 imm]] w (EffDone xb mb bb c eb V code w (0, brV 6 s (s.r a) (s.r b) imm)) := by
  have HW := Lib.hid (h.alloc (.cells #[.int .i64 op, .int .i64 d, .int .i64 a, .int .i64 b, .int .i64 imm] 76))
  have BW := Lib.hid ((But.refl (TwoBlocks xb bb) w).alloc (.cells #[.int .i64 op, .int .i64 d, .int .i64 a, .int .i64 b, .int .i64 imm] 76))
  obtain ⟨lt1, lt2, lt3, lt4⟩ := h.lt
  clear h
  have HK0 := Lib.hid (show (w.alloc (.cells #[.int .i64 op, .int .i64 d, .int .i64 a, .int .i64 b, .int .i64 imm] 76)).cell? ⟨w.heap.size, 0, none⟩ = some (.int .i64 op) ∧ (w.alloc (.cells #[.int .i64 op, .int .i64 d, .int .i64 a, .int .i64 b, .int .i64 imm] 76)).cell? ⟨w.heap.size, 1, none⟩ = some (.int .i64 d) ∧ (w.alloc (.cells #[.int .i64 op, .int .i64 d, .int .i64 a, .int .i64 b, .int .i64 imm] 76)).cell? ⟨w.heap.size, 2, none⟩ = some (.int .i64 a) ∧ (w.alloc (.cells #[.int .i64 op, .int .i64 d, .int .i64 a, .int .i64 b, .int .i64 imm] 76)).cell? ⟨w.heap.size, 3, none⟩ = some (.int .i64 b) ∧ (w.alloc (.cells #[.int .i64 op, .int .i64 d, .int .i64 a, .int .i64 b, .int .i64 imm] 76)).cell? ⟨w.heap.size, 4, none⟩ = some (.int .i64 imm) from ⟨new_cell _ _ _ _ _ _ rfl rfl, new_cell _ _ _ _ _ _ rfl rfl, new_cell _ _ _ _ _ _ rfl rfl, new_cell _ _ _ _ _ _ rfl rfl, new_cell _ _ _ _ _ _ rfl rfl⟩)
  have HWd := Lib.hid (HW.out.drewN 1)
  have c1 := HW.out.pc
  have c2 := HW.out.reg ha
  have c3 := HW.out.reg hb
  have hi : (a : Int) < 32 := by omega
  have hj : (b : Int) < 32 := by omega
  go_enter Tryz.func98, Tryz.ntmps98
  go_wp2_with fail
  obtain ⟨k0, k1, k2, k3, k4⟩ := HK0.out
  have HSZ := Lib.hid (show w.heap.size < (w.alloc (.cells #[.int .i64 op, .int .i64 d, .int .i64 a, .int .i64 b, .int .i64 imm] 76)).heap.size by simp)
  generalize w.alloc (.cells #[.int .i64 op, .int .i64 d, .int .i64 a, .int .i64 b, .int .i64 imm] 76) = W at *
  go_still_tail 17, (by kernel_rfl)
  go_wp2_with (go_at_call 129; refine (branch_any HWd.out op imm d a b hd ha hb i1 i2 _).mono ?_; rintro e w1 ⟨rfl, hm, hb⟩; have M1 := Lib.hid hm; have B1 := Lib.hid hb; clear hm hb)
  go_ret
  have hm := M1.out
  have e : takesV 6 (s.r a) (s.r b) = (s.r a != s.r b) := by simp [takesV, bne, beq_eq_decide']
  unfold brV
  rw [e]
  exact ⟨rfl, hm, (BW.out.drewN 1).trans B1.out⟩
set_option maxRecDepth 100000 in
set_option maxHeartbeats 2000000 in
theorem bltu_any (h : Mach w xb mb bb c eb V code s) (op imm : Int) (d a b : Nat) (hd : d < 32) (ha : a < 32) (hb : b < 32) (i1 : -1048576 ≤ imm) (i2 : imm ≤ 1048576)  :
    Calls Tryz.prog 101 #[.pointer (some ⟨xb, 0, none⟩), .agg #[.int .i64 op, .int .i64 d, .int .i64 a, .int .i64 b, .int .i64 imm]] w (EffDone xb mb bb c eb V code w (0, brV 9 s (s.r a) (s.r b) imm)) := by
  have HW := Lib.hid (h.alloc (.cells #[.int .i64 op, .int .i64 d, .int .i64 a, .int .i64 b, .int .i64 imm] 76))
  have BW := Lib.hid ((But.refl (TwoBlocks xb bb) w).alloc (.cells #[.int .i64 op, .int .i64 d, .int .i64 a, .int .i64 b, .int .i64 imm] 76))
  obtain ⟨lt1, lt2, lt3, lt4⟩ := h.lt
  clear h
  have HK0 := Lib.hid (show (w.alloc (.cells #[.int .i64 op, .int .i64 d, .int .i64 a, .int .i64 b, .int .i64 imm] 76)).cell? ⟨w.heap.size, 0, none⟩ = some (.int .i64 op) ∧ (w.alloc (.cells #[.int .i64 op, .int .i64 d, .int .i64 a, .int .i64 b, .int .i64 imm] 76)).cell? ⟨w.heap.size, 1, none⟩ = some (.int .i64 d) ∧ (w.alloc (.cells #[.int .i64 op, .int .i64 d, .int .i64 a, .int .i64 b, .int .i64 imm] 76)).cell? ⟨w.heap.size, 2, none⟩ = some (.int .i64 a) ∧ (w.alloc (.cells #[.int .i64 op, .int .i64 d, .int .i64 a, .int .i64 b, .int .i64 imm] 76)).cell? ⟨w.heap.size, 3, none⟩ = some (.int .i64 b) ∧ (w.alloc (.cells #[.int .i64 op, .int .i64 d, .int .i64 a, .int .i64 b, .int .i64 imm] 76)).cell? ⟨w.heap.size, 4, none⟩ = some (.int .i64 imm) from ⟨new_cell _ _ _ _ _ _ rfl rfl, new_cell _ _ _ _ _ _ rfl rfl, new_cell _ _ _ _ _ _ rfl rfl, new_cell _ _ _ _ _ _ rfl rfl, new_cell _ _ _ _ _ _ rfl rfl⟩)
  have HWd := Lib.hid (HW.out.drewN 1)
  have c1 := HW.out.pc
  have c2 := HW.out.reg ha
  have c3 := HW.out.reg hb
  have hi : (a : Int) < 32 := by omega
  have hj : (b : Int) < 32 := by omega
  go_enter Tryz.func101, Tryz.ntmps101
  go_wp2_with fail
  obtain ⟨k0, k1, k2, k3, k4⟩ := HK0.out
  have HSZ := Lib.hid (show w.heap.size < (w.alloc (.cells #[.int .i64 op, .int .i64 d, .int .i64 a, .int .i64 b, .int .i64 imm] 76)).heap.size by simp)
  generalize w.alloc (.cells #[.int .i64 op, .int .i64 d, .int .i64 a, .int .i64 b, .int .i64 imm] 76) = W at *
  go_still_tail 17, (by kernel_rfl)
  go_wp2_with (go_at_call 129; refine (branch_any HWd.out op imm d a b hd ha hb i1 i2 _).mono ?_; rintro e w1 ⟨rfl, hm, hb⟩; have M1 := Lib.hid hm; have B1 := Lib.hid hb; clear hm hb)
  go_ret
  have hm := M1.out
  have e : takesV 9 (s.r a) (s.r b) = (decide (s.r a < s.r b)) := by simp [takesV, bne, beq_eq_decide']
  unfold brV
  rw [e]
  exact ⟨rfl, hm, (BW.out.drewN 1).trans B1.out⟩
set_option maxRecDepth 100000 in
set_option maxHeartbeats 2000000 in
theorem bgeu_any (h : Mach w xb mb bb c eb V code s) (op imm : Int) (d a b : Nat) (hd : d < 32) (ha : a < 32) (hb : b < 32) (i1 : -1048576 ≤ imm) (i2 : imm ≤ 1048576)  :
    Calls Tryz.prog 102 #[.pointer (some ⟨xb, 0, none⟩), .agg #[.int .i64 op, .int .i64 d, .int .i64 a, .int .i64 b, .int .i64 imm]] w (EffDone xb mb bb c eb V code w (0, brV 10 s (s.r a) (s.r b) imm)) := by
  have HW := Lib.hid (h.alloc (.cells #[.int .i64 op, .int .i64 d, .int .i64 a, .int .i64 b, .int .i64 imm] 76))
  have BW := Lib.hid ((But.refl (TwoBlocks xb bb) w).alloc (.cells #[.int .i64 op, .int .i64 d, .int .i64 a, .int .i64 b, .int .i64 imm] 76))
  obtain ⟨lt1, lt2, lt3, lt4⟩ := h.lt
  clear h
  have HK0 := Lib.hid (show (w.alloc (.cells #[.int .i64 op, .int .i64 d, .int .i64 a, .int .i64 b, .int .i64 imm] 76)).cell? ⟨w.heap.size, 0, none⟩ = some (.int .i64 op) ∧ (w.alloc (.cells #[.int .i64 op, .int .i64 d, .int .i64 a, .int .i64 b, .int .i64 imm] 76)).cell? ⟨w.heap.size, 1, none⟩ = some (.int .i64 d) ∧ (w.alloc (.cells #[.int .i64 op, .int .i64 d, .int .i64 a, .int .i64 b, .int .i64 imm] 76)).cell? ⟨w.heap.size, 2, none⟩ = some (.int .i64 a) ∧ (w.alloc (.cells #[.int .i64 op, .int .i64 d, .int .i64 a, .int .i64 b, .int .i64 imm] 76)).cell? ⟨w.heap.size, 3, none⟩ = some (.int .i64 b) ∧ (w.alloc (.cells #[.int .i64 op, .int .i64 d, .int .i64 a, .int .i64 b, .int .i64 imm] 76)).cell? ⟨w.heap.size, 4, none⟩ = some (.int .i64 imm) from ⟨new_cell _ _ _ _ _ _ rfl rfl, new_cell _ _ _ _ _ _ rfl rfl, new_cell _ _ _ _ _ _ rfl rfl, new_cell _ _ _ _ _ _ rfl rfl, new_cell _ _ _ _ _ _ rfl rfl⟩)
  have HWd := Lib.hid (HW.out.drewN 1)
  have c1 := HW.out.pc
  have c2 := HW.out.reg ha
  have c3 := HW.out.reg hb
  have hi : (a : Int) < 32 := by omega
  have hj : (b : Int) < 32 := by omega
  go_enter Tryz.func102, Tryz.ntmps102
  go_wp2_with fail
  obtain ⟨k0, k1, k2, k3, k4⟩ := HK0.out
  have HSZ := Lib.hid (show w.heap.size < (w.alloc (.cells #[.int .i64 op, .int .i64 d, .int .i64 a, .int .i64 b, .int .i64 imm] 76)).heap.size by simp)
  generalize w.alloc (.cells #[.int .i64 op, .int .i64 d, .int .i64 a, .int .i64 b, .int .i64 imm] 76) = W at *
  go_still_tail 17, (by kernel_rfl)
  go_wp2_with (go_at_call 129; refine (branch_any HWd.out op imm d a b hd ha hb i1 i2 _).mono ?_; rintro e w1 ⟨rfl, hm, hb⟩; have M1 := Lib.hid hm; have B1 := Lib.hid hb; clear hm hb)
  go_ret
  have hm := M1.out
  have e : takesV 10 (s.r a) (s.r b) = (decide (s.r b ≤ s.r a)) := by simp [takesV, bne, beq_eq_decide']
  unfold brV
  rw [e]
  exact ⟨rfl, hm, (BW.out.drewN 1).trans B1.out⟩
set_option maxRecDepth 100000 in
set_option maxHeartbeats 2000000 in
theorem blt_any (h : Mach w xb mb bb c eb V code s) (op imm : Int) (d a b : Nat) (hd : d < 32) (ha : a < 32) (hb : b < 32) (i1 : -1048576 ≤ imm) (i2 : imm ≤ 1048576)  :
    Calls Tryz.prog 99 #[.pointer (some ⟨xb, 0, none⟩), .agg #[.int .i64 op, .int .i64 d, .int .i64 a, .int .i64 b, .int .i64 imm]] w (EffDone xb mb bb c eb V code w (0, brV 7 s (s.r a) (s.r b) imm)) := by
  have HW := Lib.hid (h.alloc (.cells #[.int .i64 op, .int .i64 d, .int .i64 a, .int .i64 b, .int .i64 imm] 76))
  have BW := Lib.hid ((But.refl (TwoBlocks xb bb) w).alloc (.cells #[.int .i64 op, .int .i64 d, .int .i64 a, .int .i64 b, .int .i64 imm] 76))
  obtain ⟨lt1, lt2, lt3, lt4⟩ := h.lt
  clear h
  have HK0 := Lib.hid (show (w.alloc (.cells #[.int .i64 op, .int .i64 d, .int .i64 a, .int .i64 b, .int .i64 imm] 76)).cell? ⟨w.heap.size, 0, none⟩ = some (.int .i64 op) ∧ (w.alloc (.cells #[.int .i64 op, .int .i64 d, .int .i64 a, .int .i64 b, .int .i64 imm] 76)).cell? ⟨w.heap.size, 1, none⟩ = some (.int .i64 d) ∧ (w.alloc (.cells #[.int .i64 op, .int .i64 d, .int .i64 a, .int .i64 b, .int .i64 imm] 76)).cell? ⟨w.heap.size, 2, none⟩ = some (.int .i64 a) ∧ (w.alloc (.cells #[.int .i64 op, .int .i64 d, .int .i64 a, .int .i64 b, .int .i64 imm] 76)).cell? ⟨w.heap.size, 3, none⟩ = some (.int .i64 b) ∧ (w.alloc (.cells #[.int .i64 op, .int .i64 d, .int .i64 a, .int .i64 b, .int .i64 imm] 76)).cell? ⟨w.heap.size, 4, none⟩ = some (.int .i64 imm) from ⟨new_cell _ _ _ _ _ _ rfl rfl, new_cell _ _ _ _ _ _ rfl rfl, new_cell _ _ _ _ _ _ rfl rfl, new_cell _ _ _ _ _ _ rfl rfl, new_cell _ _ _ _ _ _ rfl rfl⟩)
  go_enter Tryz.func99, Tryz.ntmps99
  go_wp2_with fail
  obtain ⟨k0, k1, k2, k3, k4⟩ := HK0.out
  have HSZ := Lib.hid (show w.heap.size < (w.alloc (.cells #[.int .i64 op, .int .i64 d, .int .i64 a, .int .i64 b, .int .i64 imm] 76)).heap.size by simp)
  generalize w.alloc (.cells #[.int .i64 op, .int .i64 d, .int .i64 a, .int .i64 b, .int .i64 imm] 76) = W at *
  have HWd := Lib.hid (show Mach W.drew xb mb bb c eb V code s from HW.out.drewN 1)
  have p0 := HW.out.pc
  clear k0 k1 k2 k3 k4
  have hsz : w.heap.size < W.heap.size := HSZ.out
  go_region_held3 (fun w' => w'.cell? ⟨w.heap.size, 0, none⟩ = some (.int .i64 op) ∧ w'.cell? ⟨w.heap.size, 1, none⟩ = some (.int .i64 d) ∧ w'.cell? ⟨w.heap.size, 2, none⟩ = some (.int .i64 a) ∧ w'.cell? ⟨w.heap.size, 3, none⟩ = some (.int .i64 b) ∧ w'.cell? ⟨w.heap.size, 4, none⟩ = some (.int .i64 imm)) (first | with_reducible exact HK2.out | with_reducible exact HK1.out | exact HK0.out | go_keep)
    (first
      | (go_at_call 130; (with_reducible refine (less_any HWd.out op imm d a b hd ha hb i1 i2).mono ?_); rintro e w1 ⟨rfl, hb1⟩; have M1 := Lib.hid (HWd.out.below hb1); have B1 := Lib.hid hb1; have l1 : w.heap.size < w1.heap.size := Nat.lt_of_lt_of_le hsz hb1.size; have p1 := M1.out.pc; have HK1 := Lib.hid (show w1.cell? ⟨w.heap.size, 0, none⟩ = some (.int .i64 op) ∧ w1.cell? ⟨w.heap.size, 1, none⟩ = some (.int .i64 d) ∧ w1.cell? ⟨w.heap.size, 2, none⟩ = some (.int .i64 a) ∧ w1.cell? ⟨w.heap.size, 3, none⟩ = some (.int .i64 b) ∧ w1.cell? ⟨w.heap.size, 4, none⟩ = some (.int .i64 imm) from ⟨(hb1.cell (p := ⟨w.heap.size, 0, none⟩) hsz).trans HK0.out.1, (hb1.cell (p := ⟨w.heap.size, 1, none⟩) hsz).trans HK0.out.2.1, (hb1.cell (p := ⟨w.heap.size, 2, none⟩) hsz).trans HK0.out.2.2.1, (hb1.cell (p := ⟨w.heap.size, 3, none⟩) hsz).trans HK0.out.2.2.2.1, (hb1.cell (p := ⟨w.heap.size, 4, none⟩) hsz).trans HK0.out.2.2.2.2⟩); clear hb1)
      | (go_at_call 129; refine (branch_any M1.out op imm d a b hd ha hb i1 i2 _ ).mono ?_; rintro e w2 ⟨rfl, hm, hb2⟩; have M2 := Lib.hid hm; have B2 := Lib.hid hb2; have HK2 := Lib.hid (show w2.cell? ⟨w.heap.size, 0, none⟩ = some (.int .i64 op) ∧ w2.cell? ⟨w.heap.size, 1, none⟩ = some (.int .i64 d) ∧ w2.cell? ⟨w.heap.size, 2, none⟩ = some (.int .i64 a) ∧ w2.cell? ⟨w.heap.size, 3, none⟩ = some (.int .i64 b) ∧ w2.cell? ⟨w.heap.size, 4, none⟩ = some (.int .i64 imm) from ⟨(hb2.cell (p := ⟨w.heap.size, 0, none⟩) l1 (twoBlocks_not (show w.heap.size ≠ xb by omega) (show w.heap.size ≠ bb by omega))).trans HK1.out.1, (hb2.cell (p := ⟨w.heap.size, 1, none⟩) l1 (twoBlocks_not (show w.heap.size ≠ xb by omega) (show w.heap.size ≠ bb by omega))).trans HK1.out.2.1, (hb2.cell (p := ⟨w.heap.size, 2, none⟩) l1 (twoBlocks_not (show w.heap.size ≠ xb by omega) (show w.heap.size ≠ bb by omega))).trans HK1.out.2.2.1, (hb2.cell (p := ⟨w.heap.size, 3, none⟩) l1 (twoBlocks_not (show w.heap.size ≠ xb by omega) (show w.heap.size ≠ bb by omega))).trans HK1.out.2.2.2.1, (hb2.cell (p := ⟨w.heap.size, 4, none⟩) l1 (twoBlocks_not (show w.heap.size ≠ xb by omega) (show w.heap.size ≠ bb by omega))).trans HK1.out.2.2.2.2⟩); clear hm hb2))
  all_goals
    go_wp2
    go_ret
    have hm := M2.out
    have e : takesV 7 (s.r a) (s.r b) = (decide (sg (s.r a) < sg (s.r b))) := by first | rfl | (rw [← decide_not]; rfl)
    unfold brV
    rw [e]
    exact ⟨rfl, hm, ((BW.out.drewN 1).trans (But.of_below B1.out)).trans B2.out⟩
set_option maxRecDepth 100000 in
set_option maxHeartbeats 2000000 in
theorem bge_any (h : Mach w xb mb bb c eb V code s) (op imm : Int) (d a b : Nat) (hd : d < 32) (ha : a < 32) (hb : b < 32) (i1 : -1048576 ≤ imm) (i2 : imm ≤ 1048576)  :
    Calls Tryz.prog 100 #[.pointer (some ⟨xb, 0, none⟩), .agg #[.int .i64 op, .int .i64 d, .int .i64 a, .int .i64 b, .int .i64 imm]] w (EffDone xb mb bb c eb V code w (0, brV 8 s (s.r a) (s.r b) imm)) := by
  have HW := Lib.hid (h.alloc (.cells #[.int .i64 op, .int .i64 d, .int .i64 a, .int .i64 b, .int .i64 imm] 76))
  have BW := Lib.hid ((But.refl (TwoBlocks xb bb) w).alloc (.cells #[.int .i64 op, .int .i64 d, .int .i64 a, .int .i64 b, .int .i64 imm] 76))
  obtain ⟨lt1, lt2, lt3, lt4⟩ := h.lt
  clear h
  have HK0 := Lib.hid (show (w.alloc (.cells #[.int .i64 op, .int .i64 d, .int .i64 a, .int .i64 b, .int .i64 imm] 76)).cell? ⟨w.heap.size, 0, none⟩ = some (.int .i64 op) ∧ (w.alloc (.cells #[.int .i64 op, .int .i64 d, .int .i64 a, .int .i64 b, .int .i64 imm] 76)).cell? ⟨w.heap.size, 1, none⟩ = some (.int .i64 d) ∧ (w.alloc (.cells #[.int .i64 op, .int .i64 d, .int .i64 a, .int .i64 b, .int .i64 imm] 76)).cell? ⟨w.heap.size, 2, none⟩ = some (.int .i64 a) ∧ (w.alloc (.cells #[.int .i64 op, .int .i64 d, .int .i64 a, .int .i64 b, .int .i64 imm] 76)).cell? ⟨w.heap.size, 3, none⟩ = some (.int .i64 b) ∧ (w.alloc (.cells #[.int .i64 op, .int .i64 d, .int .i64 a, .int .i64 b, .int .i64 imm] 76)).cell? ⟨w.heap.size, 4, none⟩ = some (.int .i64 imm) from ⟨new_cell _ _ _ _ _ _ rfl rfl, new_cell _ _ _ _ _ _ rfl rfl, new_cell _ _ _ _ _ _ rfl rfl, new_cell _ _ _ _ _ _ rfl rfl, new_cell _ _ _ _ _ _ rfl rfl⟩)
  go_enter Tryz.func100, Tryz.ntmps100
  go_wp2_with fail
  obtain ⟨k0, k1, k2, k3, k4⟩ := HK0.out
  have HSZ := Lib.hid (show w.heap.size < (w.alloc (.cells #[.int .i64 op, .int .i64 d, .int .i64 a, .int .i64 b, .int .i64 imm] 76)).heap.size by simp)
  generalize w.alloc (.cells #[.int .i64 op, .int .i64 d, .int .i64 a, .int .i64 b, .int .i64 imm] 76) = W at *
  have HWd := Lib.hid (show Mach W.drew xb mb bb c eb V code s from HW.out.drewN 1)
  have p0 := HW.out.pc
  clear k0 k1 k2 k3 k4
  have hsz : w.heap.size < W.heap.size := HSZ.out
  go_region_held3 (fun w' => w'.cell? ⟨w.heap.size, 0, none⟩ = some (.int .i64 op) ∧ w'.cell? ⟨w.heap.size, 1, none⟩ = some (.int .i64 d) ∧ w'.cell? ⟨w.heap.size, 2, none⟩ = some (.int .i64 a) ∧ w'.cell? ⟨w.heap.size, 3, none⟩ = some (.int .i64 b) ∧ w'.cell? ⟨w.heap.size, 4, none⟩ = some (.int .i64 imm)) (first | with_reducible exact HK2.out | with_reducible exact HK1.out | exact HK0.out | go_keep)
    (first
      | (go_at_call 130; (with_reducible refine (less_any HWd.out op imm d a b hd ha hb i1 i2).mono ?_); rintro e w1 ⟨rfl, hb1⟩; have M1 := Lib.hid (HWd.out.below hb1); have B1 := Lib.hid hb1; have l1 : w.heap.size < w1.heap.size := Nat.lt_of_lt_of_le hsz hb1.size; have p1 := M1.out.pc; have HK1 := Lib.hid (show w1.cell? ⟨w.heap.size, 0, none⟩ = some (.int .i64 op) ∧ w1.cell? ⟨w.heap.size, 1, none⟩ = some (.int .i64 d) ∧ w1.cell? ⟨w.heap.size, 2, none⟩ = some (.int .i64 a) ∧ w1.cell? ⟨w.heap.size, 3, none⟩ = some (.int .i64 b) ∧ w1.cell? ⟨w.heap.size, 4, none⟩ = some (.int .i64 imm) from ⟨(hb1.cell (p := ⟨w.heap.size, 0, none⟩) hsz).trans HK0.out.1, (hb1.cell (p := ⟨w.heap.size, 1, none⟩) hsz).trans HK0.out.2.1, (hb1.cell (p := ⟨w.heap.size, 2, none⟩) hsz).trans HK0.out.2.2.1, (hb1.cell (p := ⟨w.heap.size, 3, none⟩) hsz).trans HK0.out.2.2.2.1, (hb1.cell (p := ⟨w.heap.size, 4, none⟩) hsz).trans HK0.out.2.2.2.2⟩); clear hb1)
      | (go_at_call 129; refine (branch_any M1.out op imm d a b hd ha hb i1 i2 _ ).mono ?_; rintro e w2 ⟨rfl, hm, hb2⟩; have M2 := Lib.hid hm; have B2 := Lib.hid hb2; have HK2 := Lib.hid (show w2.cell? ⟨w.heap.size, 0, none⟩ = some (.int .i64 op) ∧ w2.cell? ⟨w.heap.size, 1, none⟩ = some (.int .i64 d) ∧ w2.cell? ⟨w.heap.size, 2, none⟩ = some (.int .i64 a) ∧ w2.cell? ⟨w.heap.size, 3, none⟩ = some (.int .i64 b) ∧ w2.cell? ⟨w.heap.size, 4, none⟩ = some (.int .i64 imm) from ⟨(hb2.cell (p := ⟨w.heap.size, 0, none⟩) l1 (twoBlocks_not (show w.heap.size ≠ xb by omega) (show w.heap.size ≠ bb by omega))).trans HK1.out.1, (hb2.cell (p := ⟨w.heap.size, 1, none⟩) l1 (twoBlocks_not (show w.heap.size ≠ xb by omega) (show w.heap.size ≠ bb by omega))).trans HK1.out.2.1, (hb2.cell (p := ⟨w.heap.size, 2, none⟩) l1 (twoBlocks_not (show w.heap.size ≠ xb by omega) (show w.heap.size ≠ bb by omega))).trans HK1.out.2.2.1, (hb2.cell (p := ⟨w.heap.size, 3, none⟩) l1 (twoBlocks_not (show w.heap.size ≠ xb by omega) (show w.heap.size ≠ bb by omega))).trans HK1.out.2.2.2.1, (hb2.cell (p := ⟨w.heap.size, 4, none⟩) l1 (twoBlocks_not (show w.heap.size ≠ xb by omega) (show w.heap.size ≠ bb by omega))).trans HK1.out.2.2.2.2⟩); clear hm hb2))
  all_goals
    go_wp2
    go_ret
    have hm := M2.out
    have e : takesV 8 (s.r a) (s.r b) = (!(decide (sg (s.r a) < sg (s.r b)))) := by first | rfl | (rw [← decide_not]; rfl)
    unfold brV
    rw [e]
    exact ⟨rfl, hm, ((BW.out.drewN 1).trans (But.of_below B1.out)).trans B2.out⟩
end
end Go.Proofs.YtnaceogkaiodnaaGreat

