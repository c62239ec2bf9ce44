/- Jumps of the document's own way of layer 4: contracts for any such machine, in whatever memory of the program. -/
import Derived.Test.YtnaceogkaiodnaaGreatM14
import Derived.Test.YtnaceogkaiodnaaGreatM25
namespace Go.Proofs.YtnaceogkaiodnaaGreat
open Go.RowKit
set_option linter.unusedVariables false

section
variable {w w' : World} {rx rm rb rc : Nat} {V : Value} {code : List Int} {s : MSt}
def RJumpDone (rx rm rb rc : Nat) (V : Value) (code : List Int) (w : World) (t : MSt) (e : Ending) (w' : World) : Prop :=
  e = .returned (.tuple #[]) ∧ RMach w' rx rm rb rc V code t ∧ But (TwoBlocks rx rb) w w'
set_option maxRecDepth 100000 in
set_option maxHeartbeats 8000000 in
theorem rjump_jal (h : RMach w rx rm rb rc V code s) (imm : Int) (d a b : Nat) (hd : d < 32) (ha : a < 32) (hb : b < 32) : Calls Tryz.prog 42 #[.pointer (some ⟨rx, 0, none⟩), .agg #[.int .i64 3, .int .i64 d, .int .i64 a, .int .i64 b, .int .i64 imm]] w (RJumpDone rx rm rb rc V code w ((s.set d (nextV s)).at' (w64 (s.pc + imm)))) := by
  have hnx : IntKind.u64.wrap (s.pc + 4) = nextV s := wrap_w64 _
  have hnb : InW (nextV s) := nextV_bd s
  have hj : IntKind.u64.wrap (s.pc + IntKind.u64.wrap imm) = w64 (s.pc + imm) := by
    rw [wrap_w64, wrap_w64]
    unfold w64
    omega
  have hjb := w64_bd (s.pc + imm)
  generalize hq : nextV s = q at *
  generalize w64 (s.pc + imm) = J at *
  have HU0 := Lib.hid (h.alloc (.cells #[.int .i64 3, .int .i64 d, .int .i64 a, .int .i64 b, .int .i64 imm] 76))
  have BU0 := Lib.hid ((But.refl (TwoBlocks rx rb) w).alloc (.cells #[.int .i64 3, .int .i64 d, .int .i64 a, .int .i64 b, .int .i64 imm] 76))
  have k0 := new_cell w #[.int .i64 3, .int .i64 d, .int .i64 a, .int .i64 b, .int .i64 imm] 76 w.heap.size 0 _ rfl rfl
  have k1 := new_cell w #[.int .i64 3, .int .i64 d, .int .i64 a, .int .i64 b, .int .i64 imm] 76 w.heap.size 1 _ rfl rfl
  have k2 := new_cell w #[.int .i64 3, .int .i64 d, .int .i64 a, .int .i64 b, .int .i64 imm] 76 w.heap.size 2 _ rfl rfl
  have k3 := new_cell w #[.int .i64 3, .int .i64 d, .int .i64 a, .int .i64 b, .int .i64 imm] 76 w.heap.size 3 _ rfl rfl
  have k4 := new_cell w #[.int .i64 3, .int .i64 d, .int .i64 a, .int .i64 b, .int .i64 imm] 76 w.heap.size 4 _ rfl rfl
  have SZ0 : w.heap.size < (w.alloc (.cells #[.int .i64 3, .int .i64 d, .int .i64 a, .int .i64 b, .int .i64 imm] 76)).heap.size := by simp
  have c0 := HU0.out.pc
  have c1 := HU0.out.reg ha
  have c2 := HU0.out.reg hb
  have lt := h.lt
  have a0 : (0 : Int) ≤ (a : Int) := by omega
  have a1 : (a : Int) < 32 := by omega
  have b0 : (0 : Int) ≤ (b : Int) := by omega
  have b1 : (b : Int) < 32 := by omega
  clear h hq
  go_enter Tryz.func42, Tryz.ntmps42
  go_wp2_with fail
  generalize w.alloc (.cells #[.int .i64 3, .int .i64 d, .int .i64 a, .int .i64 b, .int .i64 imm] 76) = W at *
  go_quiet (fail)
  go_wp2_with fail
  have HU1 := Lib.hid (show RMach (W.drewN nq) rx rm rb rc V code s from HU0.out.drewN nq)
  have BU1 := Lib.hid (show But (TwoBlocks rx rb) w (W.drewN nq) from BU0.out.drewN nq)
  have SZ1 : w.heap.size < (W.drewN nq).heap.size := SZ0
  replace k0 : (W.drewN nq).cell? ⟨w.heap.size, 0, none⟩ = _ := k0
  replace k1 : (W.drewN nq).cell? ⟨w.heap.size, 1, none⟩ = _ := k1
  replace k2 : (W.drewN nq).cell? ⟨w.heap.size, 2, none⟩ = _ := k2
  replace k3 : (W.drewN nq).cell? ⟨w.heap.size, 3, none⟩ = _ := k3
  replace k4 : (W.drewN nq).cell? ⟨w.heap.size, 4, none⟩ = _ := k4
  replace c0 : (W.drewN nq).cell? ⟨rx, 32, none⟩ = _ := c0
  replace c1 : (W.drewN nq).cell? ⟨rx, a, none⟩ = _ := c1
  replace c2 : (W.drewN nq).cell? ⟨rx, b, none⟩ = _ := c2
  clear HU0 BU0 SZ0
  generalize W.drewN nq = U at *
  go_quiet (fail)
  have HU2 := Lib.hid (show RMach (U.drewN nq) rx rm rb rc V code s from HU1.out.drewN nq)
  have BU2 := Lib.hid (show But (TwoBlocks rx rb) w (U.drewN nq) from BU1.out.drewN nq)
  have SZ2 : w.heap.size < (U.drewN nq).heap.size := SZ1
  replace k0 : (U.drewN nq).cell? ⟨w.heap.size, 0, none⟩ = _ := k0
  replace k1 : (U.drewN nq).cell? ⟨w.heap.size, 1, none⟩ = _ := k1
  replace k2 : (U.drewN nq).cell? ⟨w.heap.size, 2, none⟩ = _ := k2
  replace k3 : (U.drewN nq).cell? ⟨w.heap.size, 3, none⟩ = _ := k3
  replace k4 : (U.drewN nq).cell? ⟨w.heap.size, 4, none⟩ = _ := k4
  replace c0 : (U.drewN nq).cell? ⟨rx, 32, none⟩ = _ := c0
  replace c1 : (U.drewN nq).cell? ⟨rx, a, none⟩ = _ := c1
  replace c2 : (U.drewN nq).cell? ⟨rx, b, none⟩ = _ := c2
  clear HU1 BU1 SZ1
  generalize U.drewN nq = X at *
  have hset := rSet_any HU2.out (d : Int) q hnb
  rw [if_pos (⟨by omega, by omega⟩ : (0 : Int) ≤ (d : Int) ∧ (d : Int) < 32)] at hset
  have HSET := Lib.hid hset
  clear hset
  go_wp2_with (go_at_call 18; (with_reducible refine HSET.out.mono ?_); rintro e w2 ⟨rfl, hm, hb2⟩; have M2 := Lib.hid hm; have B2 := Lib.hid (BU2.out.trans hb2.two1); replace k4 := (hb2.cell (p := ⟨w.heap.size, 4, none⟩) SZ2 (oneBlock_not (show w.heap.size ≠ rx by omega))).trans k4; replace k0 := (hb2.cell (p := ⟨w.heap.size, 0, none⟩) SZ2 (oneBlock_not (show w.heap.size ≠ rx by omega))).trans k0; have d1 : w2.cell? ⟨rx, 32, none⟩ = some (.int .u64 s.pc) := (M2.out.pc).trans (by rw [set_pc]); have d2 := M2.out.free 32; clear hm hb2)
  go_end0
  exact ⟨rfl, M2.out.setPc hjb, B2.out.setCell (p := ⟨rx, 32, none⟩) (.inl (.inl rfl)) _⟩
set_option maxRecDepth 100000 in
set_option maxHeartbeats 8000000 in
theorem rjump_jalr (h : RMach w rx rm rb rc V code s) (imm : Int) (d a b : Nat) (hd : d < 32) (ha : a < 32) (hb : b < 32) : Calls Tryz.prog 42 #[.pointer (some ⟨rx, 0, none⟩), .agg #[.int .i64 4, .int .i64 d, .int .i64 a, .int .i64 b, .int .i64 imm]] w (RJumpDone rx rm rb rc V code w ((s.set d (nextV s)).at' (w64 (s.r a + imm) / 2 * 2))) := by
  have hnx : IntKind.u64.wrap (s.pc + 4) = nextV s := wrap_w64 _
  have hnb : InW (nextV s) := nextV_bd s
  have hj : IntKind.u64.wrap (s.pc + IntKind.u64.wrap imm) = w64 (s.pc + imm) := by
    rw [wrap_w64, wrap_w64]
    unfold w64
    omega
  have hjb := w64_bd (s.pc + imm)
  have haddr : IntKind.u64.wrap (s.r a + IntKind.u64.wrap imm) = w64 (s.r a + imm) := by
    rw [wrap_w64, wrap_w64]
    unfold w64
    omega
  have hA := w64_bd (s.r a + imm)
  have hev := even_bd hA
  generalize w64 (s.r a + imm) = A at *
  have hA1 := hA.1
  have hA2 := hA.2
  have hq2 : IntKind.u64.wrap (A.tdiv 2) = A / 2 := by
    rw [wrap_w64, Int.tdiv_eq_ediv_of_nonneg hA1]
    unfold w64
    omega
  have hq3 : IntKind.u64.wrap (A / 2 * 2) = A / 2 * 2 := by
    rw [wrap_w64]
    unfold w64
    omega
  have HT : InW (A / 2 * 2) := hev
  clear hA hA1 hA2 hev
  generalize A / 2 = H at *
  generalize hq : nextV s = q at *
  generalize w64 (s.pc + imm) = J at *
  have HU0 := Lib.hid (h.alloc (.cells #[.int .i64 4, .int .i64 d, .int .i64 a, .int .i64 b, .int .i64 imm] 76))
  have BU0 := Lib.hid ((But.refl (TwoBlocks rx rb) w).alloc (.cells #[.int .i64 4, .int .i64 d, .int .i64 a, .int .i64 b, .int .i64 imm] 76))
  have k0 := new_cell w #[.int .i64 4, .int .i64 d, .int .i64 a, .int .i64 b, .int .i64 imm] 76 w.heap.size 0 _ rfl rfl
  have k1 := new_cell w #[.int .i64 4, .int .i64 d, .int .i64 a, .int .i64 b, .int .i64 imm] 76 w.heap.size 1 _ rfl rfl
  have k2 := new_cell w #[.int .i64 4, .int .i64 d, .int .i64 a, .int .i64 b, .int .i64 imm] 76 w.heap.size 2 _ rfl rfl
  have k3 := new_cell w #[.int .i64 4, .int .i64 d, .int .i64 a, .int .i64 b, .int .i64 imm] 76 w.heap.size 3 _ rfl rfl
  have k4 := new_cell w #[.int .i64 4, .int .i64 d, .int .i64 a, .int .i64 b, .int .i64 imm] 76 w.heap.size 4 _ rfl rfl
  have SZ0 : w.heap.size < (w.alloc (.cells #[.int .i64 4, .int .i64 d, .int .i64 a, .int .i64 b, .int .i64 imm] 76)).heap.size := by simp
  have c0 := HU0.out.pc
  have c1 := HU0.out.reg ha
  have c2 := HU0.out.reg hb
  have lt := h.lt
  have a0 : (0 : Int) ≤ (a : Int) := by omega
  have a1 : (a : Int) < 32 := by omega
  have b0 : (0 : Int) ≤ (b : Int) := by omega
  have b1 : (b : Int) < 32 := by omega
  clear h hq
  go_enter Tryz.func42, Tryz.ntmps42
  go_wp2_with fail
  generalize w.alloc (.cells #[.int .i64 4, .int .i64 d, .int .i64 a, .int .i64 b, .int .i64 imm] 76) = W at *
  go_quiet (fail)
  go_wp2_with fail
  have HU1 := Lib.hid (show RMach (W.drewN nq) rx rm rb rc V code s from HU0.out.drewN nq)
  have BU1 := Lib.hid (show But (TwoBlocks rx rb) w (W.drewN nq) from BU0.out.drewN nq)
  have SZ1 : w.heap.size < (W.drewN nq).heap.size := SZ0
  replace k0 : (W.drewN nq).cell? ⟨w.heap.size, 0, none⟩ = _ := k0
  replace k1 : (W.drewN nq).cell? ⟨w.heap.size, 1, none⟩ = _ := k1
  replace k2 : (W.drewN nq).cell? ⟨w.heap.size, 2, none⟩ = _ := k2
  replace k3 : (W.drewN nq).cell? ⟨w.heap.size, 3, none⟩ = _ := k3
  replace k4 : (W.drewN nq).cell? ⟨w.heap.size, 4, none⟩ = _ := k4
  replace c0 : (W.drewN nq).cell? ⟨rx, 32, none⟩ = _ := c0
  replace c1 : (W.drewN nq).cell? ⟨rx, a, none⟩ = _ := c1
  replace c2 : (W.drewN nq).cell? ⟨rx, b, none⟩ = _ := c2
  clear HU0 BU0 SZ0
  generalize W.drewN nq = U at *
  go_quiet (fail)
  have HU2 := Lib.hid (show RMach (U.drewN nq) rx rm rb rc V code s from HU1.out.drewN nq)
  have BU2 := Lib.hid (show But (TwoBlocks rx rb) w (U.drewN nq) from BU1.out.drewN nq)
  have SZ2 : w.heap.size < (U.drewN nq).heap.size := SZ1
  replace k0 : (U.drewN nq).cell? ⟨w.heap.size, 0, none⟩ = _ := k0
  replace k1 : (U.drewN nq).cell? ⟨w.heap.size, 1, none⟩ = _ := k1
  replace k2 : (U.drewN nq).cell? ⟨w.heap.size, 2, none⟩ = _ := k2
  replace k3 : (U.drewN nq).cell? ⟨w.heap.size, 3, none⟩ = _ := k3
  replace k4 : (U.drewN nq).cell? ⟨w.heap.size, 4, none⟩ = _ := k4
  replace c0 : (U.drewN nq).cell? ⟨rx, 32, none⟩ = _ := c0
  replace c1 : (U.drewN nq).cell? ⟨rx, a, none⟩ = _ := c1
  replace c2 : (U.drewN nq).cell? ⟨rx, b, none⟩ = _ := c2
  clear HU1 BU1 SZ1
  generalize U.drewN nq = X at *
  have hset := rSet_any HU2.out (d : Int) q hnb
  rw [if_pos (⟨by omega, by omega⟩ : (0 : Int) ≤ (d : Int) ∧ (d : Int) < 32)] at hset
  have HSET := Lib.hid hset
  clear hset
  go_wp2_with (go_at_call 18; (with_reducible refine HSET.out.mono ?_); rintro e w2 ⟨rfl, hm, hb2⟩; have M2 := Lib.hid hm; have B2 := Lib.hid (BU2.out.trans hb2.two1); replace k4 := (hb2.cell (p := ⟨w.heap.size, 4, none⟩) SZ2 (oneBlock_not (show w.heap.size ≠ rx by omega))).trans k4; replace k0 := (hb2.cell (p := ⟨w.heap.size, 0, none⟩) SZ2 (oneBlock_not (show w.heap.size ≠ rx by omega))).trans k0; have d1 : w2.cell? ⟨rx, 32, none⟩ = some (.int .u64 s.pc) := (M2.out.pc).trans (by rw [set_pc]); have d2 := M2.out.free 32; clear hm hb2)
  go_end0
  exact ⟨rfl, M2.out.setPc HT, B2.out.setCell (p := ⟨rx, 32, none⟩) (.inl (.inl rfl)) _⟩
set_option maxRecDepth 100000 in
set_option maxHeartbeats 8000000 in
theorem rjump_br (h : RMach w rx rm rb rc V code s) (imm : Int) (d a b : Nat) (hd : d < 32) (ha : a < 32) (hb : b < 32) {op : Int} (ho : 5 ≤ op ∧ op ≤ 10) : Calls Tryz.prog 42 #[.pointer (some ⟨rx, 0, none⟩), .agg #[.int .i64 op, .int .i64 d, .int .i64 a, .int .i64 b, .int .i64 imm]] w (RJumpDone rx rm rb rc V code w (brV op s (s.r a) (s.r b) imm)) := by
  have hnx : IntKind.u64.wrap (s.pc + 4) = nextV s := wrap_w64 _
  have hnb : InW (nextV s) := nextV_bd s
  have hj : IntKind.u64.wrap (s.pc + IntKind.u64.wrap imm) = w64 (s.pc + imm) := by
    rw [wrap_w64, wrap_w64]
    unfold w64
    omega
  have hjb := w64_bd (s.pc + imm)
  have o3 : (op == 3) = false := ne_beq (by omega)
  have o4 : (op == 4) = false := ne_beq (by omega)
  have HTK := Lib.hid (fun u => rtakes_any ho (h.ok.r a) (h.ok.r b) u)
  unfold brV
  generalize hq : nextV s = q at *
  generalize w64 (s.pc + imm) = J at *
  have HU0 := Lib.hid (h.alloc (.cells #[.int .i64 op, .int .i64 d, .int .i64 a, .int .i64 b, .int .i64 imm] 76))
  have BU0 := Lib.hid ((But.refl (TwoBlocks rx rb) w).alloc (.cells #[.int .i64 op, .int .i64 d, .int .i64 a, .int .i64 b, .int .i64 imm] 76))
  have k0 := new_cell w #[.int .i64 op, .int .i64 d, .int .i64 a, .int .i64 b, .int .i64 imm] 76 w.heap.size 0 _ rfl rfl
  have k1 := new_cell w #[.int .i64 op, .int .i64 d, .int .i64 a, .int .i64 b, .int .i64 imm] 76 w.heap.size 1 _ rfl rfl
  have k2 := new_cell w #[.int .i64 op, .int .i64 d, .int .i64 a, .int .i64 b, .int .i64 imm] 76 w.heap.size 2 _ rfl rfl
  have k3 := new_cell w #[.int .i64 op, .int .i64 d, .int .i64 a, .int .i64 b, .int .i64 imm] 76 w.heap.size 3 _ rfl rfl
  have k4 := new_cell w #[.int .i64 op, .int .i64 d, .int .i64 a, .int .i64 b, .int .i64 imm] 76 w.heap.size 4 _ rfl rfl
  have SZ0 : w.heap.size < (w.alloc (.cells #[.int .i64 op, .int .i64 d, .int .i64 a, .int .i64 b, .int .i64 imm] 76)).heap.size := by simp
  have c0 := HU0.out.pc
  have c1 := HU0.out.reg ha
  have c2 := HU0.out.reg hb
  have lt := h.lt
  have a0 : (0 : Int) ≤ (a : Int) := by omega
  have a1 : (a : Int) < 32 := by omega
  have b0 : (0 : Int) ≤ (b : Int) := by omega
  have b1 : (b : Int) < 32 := by omega
  clear h hq
  by_cases htk : takesV op (s.r a) (s.r b) = true
  · rw [htk] at HTK
    rw [if_pos htk]
    go_enter Tryz.func42, Tryz.ntmps42
    go_wp2_with fail
    generalize w.alloc (.cells #[.int .i64 op, .int .i64 d, .int .i64 a, .int .i64 b, .int .i64 imm] 76) = W at *
    go_quiet (fail)
    go_wp2_with fail
    have HU1 := Lib.hid (show RMach (W.drewN nq) rx rm rb rc V code s from HU0.out.drewN nq)
    have BU1 := Lib.hid (show But (TwoBlocks rx rb) w (W.drewN nq) from BU0.out.drewN nq)
    have SZ1 : w.heap.size < (W.drewN nq).heap.size := SZ0
    replace k0 : (W.drewN nq).cell? ⟨w.heap.size, 0, none⟩ = _ := k0
    replace k1 : (W.drewN nq).cell? ⟨w.heap.size, 1, none⟩ = _ := k1
    replace k2 : (W.drewN nq).cell? ⟨w.heap.size, 2, none⟩ = _ := k2
    replace k3 : (W.drewN nq).cell? ⟨w.heap.size, 3, none⟩ = _ := k3
    replace k4 : (W.drewN nq).cell? ⟨w.heap.size, 4, none⟩ = _ := k4
    replace c0 : (W.drewN nq).cell? ⟨rx, 32, none⟩ = _ := c0
    replace c1 : (W.drewN nq).cell? ⟨rx, a, none⟩ = _ := c1
    replace c2 : (W.drewN nq).cell? ⟨rx, b, none⟩ = _ := c2
    clear HU0 BU0 SZ0
    generalize W.drewN nq = U at *
    go_quiet (fail)
    have HU2 := Lib.hid (show RMach (U.drewN nq) rx rm rb rc V code s from HU1.out.drewN nq)
    have BU2 := Lib.hid (show But (TwoBlocks rx rb) w (U.drewN nq) from BU1.out.drewN nq)
    have SZ2 : w.heap.size < (U.drewN nq).heap.size := SZ1
    replace k0 : (U.drewN nq).cell? ⟨w.heap.size, 0, none⟩ = _ := k0
    replace k1 : (U.drewN nq).cell? ⟨w.heap.size, 1, none⟩ = _ := k1
    replace k2 : (U.drewN nq).cell? ⟨w.heap.size, 2, none⟩ = _ := k2
    replace k3 : (U.drewN nq).cell? ⟨w.heap.size, 3, none⟩ = _ := k3
    replace k4 : (U.drewN nq).cell? ⟨w.heap.size, 4, none⟩ = _ := k4
    replace c0 : (U.drewN nq).cell? ⟨rx, 32, none⟩ = _ := c0
    replace c1 : (U.drewN nq).cell? ⟨rx, a, none⟩ = _ := c1
    replace c2 : (U.drewN nq).cell? ⟨rx, b, none⟩ = _ := c2
    clear HU1 BU1 SZ1
    generalize U.drewN nq = X at *
    have d2 := HU2.out.free 32
    have HB := Lib.hid hjb
    go_wp2_with (go_at_call 69; (with_reducible refine (HTK.out _).mono ?_); rintro e w' ⟨rfl, rfl⟩)
    go_end0
    exact ⟨rfl, HU2.out.setPc HB.out, BU2.out.setCell (p := ⟨rx, 32, none⟩) (.inl (.inl rfl)) _⟩
  · have hf : takesV op (s.r a) (s.r b) = false := by cases hh : takesV op (s.r a) (s.r b) <;> simp_all
    rw [hf] at HTK
    rw [if_neg htk]
    go_enter Tryz.func42, Tryz.ntmps42
    go_wp2_with fail
    generalize w.alloc (.cells #[.int .i64 op, .int .i64 d, .int .i64 a, .int .i64 b, .int .i64 imm] 76) = W at *
    go_quiet (fail)
    go_wp2_with fail
    have HU1 := Lib.hid (show RMach (W.drewN nq) rx rm rb rc V code s from HU0.out.drewN nq)
    have BU1 := Lib.hid (show But (TwoBlocks rx rb) w (W.drewN nq) from BU0.out.drewN nq)
    have SZ1 : w.heap.size < (W.drewN nq).heap.size := SZ0
    replace k0 : (W.drewN nq).cell? ⟨w.heap.size, 0, none⟩ = _ := k0
    replace k1 : (W.drewN nq).cell? ⟨w.heap.size, 1, none⟩ = _ := k1
    replace k2 : (W.drewN nq).cell? ⟨w.heap.size, 2, none⟩ = _ := k2
    replace k3 : (W.drewN nq).cell? ⟨w.heap.size, 3, none⟩ = _ := k3
    replace k4 : (W.drewN nq).cell? ⟨w.heap.size, 4, none⟩ = _ := k4
    replace c0 : (W.drewN nq).cell? ⟨rx, 32, none⟩ = _ := c0
    replace c1 : (W.drewN nq).cell? ⟨rx, a, none⟩ = _ := c1
    replace c2 : (W.drewN nq).cell? ⟨rx, b, none⟩ = _ := c2
    clear HU0 BU0 SZ0
    generalize W.drewN nq = U at *
    go_quiet (fail)
    have HU2 := Lib.hid (show RMach (U.drewN nq) rx rm rb rc V code s from HU1.out.drewN nq)
    have BU2 := Lib.hid (show But (TwoBlocks rx rb) w (U.drewN nq) from BU1.out.drewN nq)
    have SZ2 : w.heap.size < (U.drewN nq).heap.size := SZ1
    replace k0 : (U.drewN nq).cell? ⟨w.heap.size, 0, none⟩ = _ := k0
    replace k1 : (U.drewN nq).cell? ⟨w.heap.size, 1, none⟩ = _ := k1
    replace k2 : (U.drewN nq).cell? ⟨w.heap.size, 2, none⟩ = _ := k2
    replace k3 : (U.drewN nq).cell? ⟨w.heap.size, 3, none⟩ = _ := k3
    replace k4 : (U.drewN nq).cell? ⟨w.heap.size, 4, none⟩ = _ := k4
    replace c0 : (U.drewN nq).cell? ⟨rx, 32, none⟩ = _ := c0
    replace c1 : (U.drewN nq).cell? ⟨rx, a, none⟩ = _ := c1
    replace c2 : (U.drewN nq).cell? ⟨rx, b, none⟩ = _ := c2
    clear HU1 BU1 SZ1
    generalize U.drewN nq = X at *
    have d2 := HU2.out.free 32
    have HB := Lib.hid hnb
    go_wp2_with (go_at_call 69; (with_reducible refine (HTK.out _).mono ?_); rintro e w' ⟨rfl, rfl⟩)
    go_end0
    exact ⟨rfl, HU2.out.setPc HB.out, BU2.out.setCell (p := ⟨rx, 32, none⟩) (.inl (.inl rfl)) _⟩
end
end Go.Proofs.YtnaceogkaiodnaaGreat

