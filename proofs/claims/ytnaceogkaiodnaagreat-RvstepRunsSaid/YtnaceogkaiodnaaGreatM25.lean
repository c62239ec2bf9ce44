/- Memory of the document's own way of layer 4: contracts for any such machine, in whatever memory of the program. -/
import Derived.Test.YtnaceogkaiodnaaGreatM14
import Derived.Test.YtnaceogkaiodnaaGreatM24
import Derived.Test.YtnaceogkaiodnaaGreatM2
import Derived.StillTailTactics
namespace Go.Proofs.YtnaceogkaiodnaaGreat
open Go.RowKit
set_option linter.unusedVariables false

section
variable {w w' : World} {rx rm rb rc : Nat} {V : Value} {code : List Int} {s : MSt}
def REffDone (rx rm rb rc : Nat) (V : Value) (code : List Int) (w : World) (r : Int × MSt) (e : Ending) (w' : World) : Prop :=
  e = .returned (.int .i64 r.1) ∧ RMach w' rx rm rb rc V code r.2 ∧ But (TwoBlocks rx rb) w w'
theorem sizeV_le (op : Int) : sizeV op ≤ 8 := by
  unfold sizeV
  repeat' split
  all_goals omega
theorem ne_beq {a b : Int} (h : a ≠ b) : (a == b) = false := beq_eq_false_iff_ne.2 h
set_option maxRecDepth 100000 in
set_option maxHeartbeats 8000000 in
theorem rmemStore_ok (h : RMach w rx rm rb rc V code s) (op imm : Int) (d a b : Nat) (hd : d < 32) (ha : a < 32) (hb : b < 32) (o1 : 18 ≤ op) (o2 : op ≤ 21) (he : numE s.xs.length (w64 (s.r a + imm)) (sizeV op) = 0) :
    Calls Tryz.prog 41 #[.pointer (some ⟨rx, 0, none⟩), .agg #[.int .i64 op, .int .i64 d, .int .i64 a, .int .i64 b, .int .i64 imm]] w (REffDone rx rm rb rc V code w (0, { s with pc := nextV s, xs := storeL s.xs (w64 (s.r a + imm)) (sizeV op) (s.r b) })) := by
  have hn8 := sizeV_le op
  have HZ := Lib.hid (fun u => sizes_any (op := op) (by omega) u)
  have haddr : IntKind.u64.wrap (s.r a + IntKind.u64.wrap imm) = w64 (s.r a + imm) := by
    rw [wrap_w64, wrap_w64]
    unfold w64
    omega
  have hA := w64_bd (s.r a + imm)
  have hnx : IntKind.u64.wrap (s.pc + 4) = nextV s := wrap_w64 _
  have hnb : InW (nextV s) := nextV_bd s
  have hst : ∀ u, RMach u rx rm rb rc V code s → Calls Tryz.prog 66 #[.pointer (some ⟨rm, 0, none⟩), .int .u64 (w64 (s.r a + imm)), .int .i64 (sizeV op), .int .u64 (s.r b)] u (RStoreDone u rm rb rc (storeL s.xs (w64 (s.r a + imm)) (sizeV op) (s.r b)) (numE s.xs.length (w64 (s.r a + imm)) (sizeV op))) := fun u hu => rstore_any hu.mem _ _ _ hA.1 hA.2 (by omega) (h.ok.r b).1 (h.ok.r b).2
  rw [he] at hst
  generalize storeL s.xs (w64 (s.r a + imm)) (sizeV op) (s.r b) = XS at hst ⊢
  generalize sizeV op = n at *
  generalize w64 (s.r a + imm) = A at *
  generalize hq : nextV s = q at hnx hnb ⊢
  have HQ := Lib.hid hq
  have HS := Lib.hid hst
  clear hst hq
  have HW := Lib.hid (h.alloc (.cells #[.int .i64 op, .int .i64 d, .int .i64 a, .int .i64 b, .int .i64 imm] 76))
  have BW := Lib.hid ((But.refl (TwoBlocks rx rb) w).alloc (.cells #[.int .i64 op, .int .i64 d, .int .i64 a, .int .i64 b, .int .i64 imm] 76))
  have k0 := new_cell w #[.int .i64 op, .int .i64 d, .int .i64 a, .int .i64 b, .int .i64 imm] 76 w.heap.size 0 _ rfl rfl
  have k1 := new_cell w #[.int .i64 op, .int .i64 d, .int .i64 a, .int .i64 b, .int .i64 imm] 76 w.heap.size 1 _ rfl rfl
  have k2 := new_cell w #[.int .i64 op, .int .i64 d, .int .i64 a, .int .i64 b, .int .i64 imm] 76 w.heap.size 2 _ rfl rfl
  have k3 := new_cell w #[.int .i64 op, .int .i64 d, .int .i64 a, .int .i64 b, .int .i64 imm] 76 w.heap.size 3 _ rfl rfl
  have k4 := new_cell w #[.int .i64 op, .int .i64 d, .int .i64 a, .int .i64 b, .int .i64 imm] 76 w.heap.size 4 _ rfl rfl
  have hsz : w.heap.size < (w.alloc (.cells #[.int .i64 op, .int .i64 d, .int .i64 a, .int .i64 b, .int .i64 imm] 76)).heap.size := by simp
  have c1 := HW.out.reg ha
  have c2 := HW.out.reg hb
  have c3 := HW.out.memc
  have lt := h.lt
  have a0 : (0 : Int) ≤ (a : Int) := by omega
  have a1 : (a : Int) < 32 := by omega
  have b0 : (0 : Int) ≤ (b : Int) := by omega
  have b1 : (b : Int) < 32 := by omega
  clear h
  go_enter Tryz.func41, Tryz.ntmps41
  go_wp2_with fail
  generalize w.alloc (.cells #[.int .i64 op, .int .i64 d, .int .i64 a, .int .i64 b, .int .i64 imm] 76) = W at *
  go_wp2_with (go_at_call 39; (with_reducible refine (HZ.out _).mono ?_); rintro e w' ⟨rfl, rfl⟩)
  go_quiet (fail)
  go_wp2_with fail
  have HU := Lib.hid (show RMach (W.drewN nq) rx rm rb rc V code s from HW.out.drewN nq)
  have BU := Lib.hid (show But (TwoBlocks rx rb) w (W.drewN nq) from BW.out.drewN nq)
  replace k0 : (W.drewN nq).cell? ⟨w.heap.size, 0, none⟩ = _ := k0
  replace k1 : (W.drewN nq).cell? ⟨w.heap.size, 1, none⟩ = _ := k1
  replace k2 : (W.drewN nq).cell? ⟨w.heap.size, 2, none⟩ = _ := k2
  replace k3 : (W.drewN nq).cell? ⟨w.heap.size, 3, none⟩ = _ := k3
  replace k4 : (W.drewN nq).cell? ⟨w.heap.size, 4, none⟩ = _ := k4
  replace c2 : (W.drewN nq).cell? ⟨rx, b, none⟩ = _ := c2
  replace c3 : (W.drewN nq).cell? ⟨rx, 33, none⟩ = _ := c3
  clear c1 HW BW
  generalize W.drewN nq = U at *
  have HST := Lib.hid (HS.out U.drew (HU.out.drewN 1))
  go_still_tail 13, (by kernel_rfl)
  go_wp2_with (go_at_call 66; (with_reducible refine HST.out.mono ?_); rintro e w2 ⟨rfl, hm, hb2⟩; have M2 := Lib.hid ((HU.out.drewN 1).setMem hb2 hm); have B2 := Lib.hid ((BU.out.drewN 1).trans hb2.two2); have d1 : w2.cell? ⟨rx, 32, none⟩ = some (.int .u64 s.pc) := M2.out.pc; have d2 := M2.out.free 32; clear hm hb2)
  go_ret
  exact ⟨rfl, M2.out.setPc hnb, B2.out.setCell (p := ⟨rx, 32, none⟩) (.inl (.inl rfl)) _⟩
set_option maxRecDepth 100000 in
set_option maxHeartbeats 8000000 in
theorem rmemStore_bad (h : RMach w rx rm rb rc V code s) (op imm : Int) (d a b : Nat) (hd : d < 32) (ha : a < 32) (hb : b < 32) (o1 : 18 ≤ op) (o2 : op ≤ 21) (he : numE s.xs.length (w64 (s.r a + imm)) (sizeV op) ≠ 0) :
    Calls Tryz.prog 41 #[.pointer (some ⟨rx, 0, none⟩), .agg #[.int .i64 op, .int .i64 d, .int .i64 a, .int .i64 b, .int .i64 imm]] w (REffDone rx rm rb rc V code w (5, s)) := by
  have hn8 := sizeV_le op
  have HZ := Lib.hid (fun u => sizes_any (op := op) (by omega) u)
  have haddr : IntKind.u64.wrap (s.r a + IntKind.u64.wrap imm) = w64 (s.r a + imm) := by
    rw [wrap_w64, wrap_w64]
    unfold w64
    omega
  have hA := w64_bd (s.r a + imm)
  have hnx : IntKind.u64.wrap (s.pc + 4) = nextV s := wrap_w64 _
  have hnb : InW (nextV s) := nextV_bd s
  have hst : ∀ u, RMach u rx rm rb rc V code s → Calls Tryz.prog 66 #[.pointer (some ⟨rm, 0, none⟩), .int .u64 (w64 (s.r a + imm)), .int .i64 (sizeV op), .int .u64 (s.r b)] u (RStoreDone u rm rb rc (storeL s.xs (w64 (s.r a + imm)) (sizeV op) (s.r b)) (numE s.xs.length (w64 (s.r a + imm)) (sizeV op))) := fun u hu => rstore_any hu.mem _ _ _ hA.1 hA.2 (by omega) (h.ok.r b).1 (h.ok.r b).2
  have hkeep : storeL s.xs (w64 (s.r a + imm)) (sizeV op) (s.r b) = s.xs := by unfold storeL; rw [if_neg he]
  rw [hkeep] at hst
  have heq := ne_beq he
  generalize numE s.xs.length (w64 (s.r a + imm)) (sizeV op) = E at hst heq
  clear hkeep he
  generalize sizeV op = n at *
  generalize w64 (s.r a + imm) = A at *
  generalize hq : nextV s = q at hnx hnb ⊢
  have HQ := Lib.hid hq
  have HS := Lib.hid hst
  clear hst hq
  have HW := Lib.hid (h.alloc (.cells #[.int .i64 op, .int .i64 d, .int .i64 a, .int .i64 b, .int .i64 imm] 76))
  have BW := Lib.hid ((But.refl (TwoBlocks rx rb) w).alloc (.cells #[.int .i64 op, .int .i64 d, .int .i64 a, .int .i64 b, .int .i64 imm] 76))
  have k0 := new_cell w #[.int .i64 op, .int .i64 d, .int .i64 a, .int .i64 b, .int .i64 imm] 76 w.heap.size 0 _ rfl rfl
  have k1 := new_cell w #[.int .i64 op, .int .i64 d, .int .i64 a, .int .i64 b, .int .i64 imm] 76 w.heap.size 1 _ rfl rfl
  have k2 := new_cell w #[.int .i64 op, .int .i64 d, .int .i64 a, .int .i64 b, .int .i64 imm] 76 w.heap.size 2 _ rfl rfl
  have k3 := new_cell w #[.int .i64 op, .int .i64 d, .int .i64 a, .int .i64 b, .int .i64 imm] 76 w.heap.size 3 _ rfl rfl
  have k4 := new_cell w #[.int .i64 op, .int .i64 d, .int .i64 a, .int .i64 b, .int .i64 imm] 76 w.heap.size 4 _ rfl rfl
  have hsz : w.heap.size < (w.alloc (.cells #[.int .i64 op, .int .i64 d, .int .i64 a, .int .i64 b, .int .i64 imm] 76)).heap.size := by simp
  have c1 := HW.out.reg ha
  have c2 := HW.out.reg hb
  have c3 := HW.out.memc
  have lt := h.lt
  have a0 : (0 : Int) ≤ (a : Int) := by omega
  have a1 : (a : Int) < 32 := by omega
  have b0 : (0 : Int) ≤ (b : Int) := by omega
  have b1 : (b : Int) < 32 := by omega
  clear h
  go_enter Tryz.func41, Tryz.ntmps41
  go_wp2_with fail
  generalize w.alloc (.cells #[.int .i64 op, .int .i64 d, .int .i64 a, .int .i64 b, .int .i64 imm] 76) = W at *
  go_wp2_with (go_at_call 39; (with_reducible refine (HZ.out _).mono ?_); rintro e w' ⟨rfl, rfl⟩)
  go_quiet (fail)
  go_wp2_with fail
  have HU := Lib.hid (show RMach (W.drewN nq) rx rm rb rc V code s from HW.out.drewN nq)
  have BU := Lib.hid (show But (TwoBlocks rx rb) w (W.drewN nq) from BW.out.drewN nq)
  replace k0 : (W.drewN nq).cell? ⟨w.heap.size, 0, none⟩ = _ := k0
  replace k1 : (W.drewN nq).cell? ⟨w.heap.size, 1, none⟩ = _ := k1
  replace k2 : (W.drewN nq).cell? ⟨w.heap.size, 2, none⟩ = _ := k2
  replace k3 : (W.drewN nq).cell? ⟨w.heap.size, 3, none⟩ = _ := k3
  replace k4 : (W.drewN nq).cell? ⟨w.heap.size, 4, none⟩ = _ := k4
  replace c2 : (W.drewN nq).cell? ⟨rx, b, none⟩ = _ := c2
  replace c3 : (W.drewN nq).cell? ⟨rx, 33, none⟩ = _ := c3
  clear c1 HW BW
  generalize W.drewN nq = U at *
  have HST := Lib.hid (HS.out U.drew (HU.out.drewN 1))
  go_still_tail 13, (by kernel_rfl)
  go_wp2_with (go_at_call 66; (with_reducible refine HST.out.mono ?_); rintro e w2 ⟨rfl, hm, hb2⟩; have M2 := Lib.hid ((HU.out.drewN 1).setMem hb2 hm); have B2 := Lib.hid ((BU.out.drewN 1).trans hb2.two2); clear hm hb2)
  go_ret
  exact ⟨rfl, M2.out, B2.out⟩
set_option maxRecDepth 100000 in
set_option maxHeartbeats 8000000 in
theorem rmemLoad_okS (h : RMach w rx rm rb rc V code s) (op imm : Int) (d a b : Nat) (hd : d < 32) (ha : a < 32) (hb : b < 32) (o1 : 11 ≤ op) (o2 : op ≤ 17) (hs : signedOp op = true) (he : numE s.xs.length (w64 (s.r a + imm)) (sizeV op) = 0) :
    Calls Tryz.prog 41 #[.pointer (some ⟨rx, 0, none⟩), .agg #[.int .i64 op, .int .i64 d, .int .i64 a, .int .i64 b, .int .i64 imm]] w (REffDone rx rm rb rc V code w (0, (s.set d (sextV (loadV s.xs (w64 (s.r a + imm)) (sizeV op)) (sizeV op))).at' (nextV s))) := by
  have hn8 := sizeV_le op
  have HZ := Lib.hid (fun u => sizes_any (op := op) (by omega) u)
  have haddr : IntKind.u64.wrap (s.r a + IntKind.u64.wrap imm) = w64 (s.r a + imm) := by
    rw [wrap_w64, wrap_w64]
    unfold w64
    omega
  have hA := w64_bd (s.r a + imm)
  have hnx : IntKind.u64.wrap (s.pc + 4) = nextV s := wrap_w64 _
  have hnb : InW (nextV s) := nextV_bd s
  have o3 : ¬ 18 ≤ op := by omega
  have hst : ∀ u, RMach u rx rm rb rc V code s → Calls Tryz.prog 67 #[.pointer (some ⟨rm, 0, none⟩), .int .u64 (w64 (s.r a + imm)), .int .i64 (sizeV op)] u fun e w' => e = .returned (.tuple #[.int .u64 (loadV s.xs (w64 (s.r a + imm)) (sizeV op)), .int .i64 (numE s.xs.length (w64 (s.r a + imm)) (sizeV op))]) ∧ u = w' := fun u hu => rload_any hu.mem _ _ hA.1 hA.2 (by omega)
  rw [he] at hst
  have hz := loadBd s.xs (w64 (s.r a + imm)) (sizeV op) h.ok.xs
  rw [hs] at HZ
  have hx := fun u => rsext_any (loadV s.xs (w64 (s.r a + imm)) (sizeV op)) (sizeV op) u hz.1 hz.2
  have hv : InW (sextV (loadV s.xs (w64 (s.r a + imm)) (sizeV op)) (sizeV op)) := sextV_bd hz.1 hz.2
  generalize sextV (loadV s.xs (w64 (s.r a + imm)) (sizeV op)) (sizeV op) = v at hx hv ⊢
  generalize loadV s.xs (w64 (s.r a + imm)) (sizeV op) = z at *
  have HX := Lib.hid hx
  clear hz he
  clear hx
  generalize sizeV op = n at *
  generalize w64 (s.r a + imm) = A at *
  generalize hq : nextV s = q at hnx hnb ⊢
  have HQ := Lib.hid hq
  have HS := Lib.hid hst
  clear hst hq
  have HW := Lib.hid (h.alloc (.cells #[.int .i64 op, .int .i64 d, .int .i64 a, .int .i64 b, .int .i64 imm] 76))
  have BW := Lib.hid ((But.refl (TwoBlocks rx rb) w).alloc (.cells #[.int .i64 op, .int .i64 d, .int .i64 a, .int .i64 b, .int .i64 imm] 76))
  have k0 := new_cell w #[.int .i64 op, .int .i64 d, .int .i64 a, .int .i64 b, .int .i64 imm] 76 w.heap.size 0 _ rfl rfl
  have k1 := new_cell w #[.int .i64 op, .int .i64 d, .int .i64 a, .int .i64 b, .int .i64 imm] 76 w.heap.size 1 _ rfl rfl
  have k2 := new_cell w #[.int .i64 op, .int .i64 d, .int .i64 a, .int .i64 b, .int .i64 imm] 76 w.heap.size 2 _ rfl rfl
  have k3 := new_cell w #[.int .i64 op, .int .i64 d, .int .i64 a, .int .i64 b, .int .i64 imm] 76 w.heap.size 3 _ rfl rfl
  have k4 := new_cell w #[.int .i64 op, .int .i64 d, .int .i64 a, .int .i64 b, .int .i64 imm] 76 w.heap.size 4 _ rfl rfl
  have hsz : w.heap.size < (w.alloc (.cells #[.int .i64 op, .int .i64 d, .int .i64 a, .int .i64 b, .int .i64 imm] 76)).heap.size := by simp
  have c1 := HW.out.reg ha
  have c2 := HW.out.reg hb
  have c3 := HW.out.memc
  have lt := h.lt
  have a0 : (0 : Int) ≤ (a : Int) := by omega
  have a1 : (a : Int) < 32 := by omega
  have b0 : (0 : Int) ≤ (b : Int) := by omega
  have b1 : (b : Int) < 32 := by omega
  clear h
  go_enter Tryz.func41, Tryz.ntmps41
  go_wp2_with fail
  generalize w.alloc (.cells #[.int .i64 op, .int .i64 d, .int .i64 a, .int .i64 b, .int .i64 imm] 76) = W at *
  go_wp2_with (go_at_call 39; (with_reducible refine (HZ.out _).mono ?_); rintro e w' ⟨rfl, rfl⟩)
  go_quiet (fail)
  have HST := Lib.hid (HS.out (W.drewN nq) (HW.out.drewN nq))
  have HWN := Lib.hid (HW.out.drewN nq)
  have hset := fun u (hu : RMach u rx rm rb rc V code s) => rSet_any hu (d : Int) v hv
  rw [if_pos (⟨by omega, by omega⟩ : (0 : Int) ≤ (d : Int) ∧ (d : Int) < 32)] at hset
  have HSET := Lib.hid (hset _ HWN.out)
  clear hset
  go_wp2_with (first
    | (go_at_call 67; (with_reducible refine HST.out.mono ?_); rintro e w' ⟨rfl, rfl⟩)
    | (go_at_call 68; (with_reducible refine (HX.out _).mono ?_); rintro e w' ⟨rfl, rfl⟩)
    | (go_at_call 18; (with_reducible refine HSET.out.mono ?_); rintro e w2 ⟨rfl, hm, hb2⟩; have M2 := Lib.hid hm; have B2 := Lib.hid ((BW.out.drewN nq).trans hb2.two1); have d1 : w2.cell? ⟨rx, 32, none⟩ = some (.int .u64 s.pc) := (M2.out.pc).trans (by rw [set_pc]); have d2 := M2.out.free 32; clear hm hb2))
  go_ret
  exact ⟨rfl, M2.out.setPc hnb, B2.out.setCell (p := ⟨rx, 32, none⟩) (.inl (.inl rfl)) _⟩
set_option maxRecDepth 100000 in
set_option maxHeartbeats 8000000 in
theorem rmemLoad_okU (h : RMach w rx rm rb rc V code s) (op imm : Int) (d a b : Nat) (hd : d < 32) (ha : a < 32) (hb : b < 32) (o1 : 11 ≤ op) (o2 : op ≤ 17) (hs : signedOp op = false) (he : numE s.xs.length (w64 (s.r a + imm)) (sizeV op) = 0) :
    Calls Tryz.prog 41 #[.pointer (some ⟨rx, 0, none⟩), .agg #[.int .i64 op, .int .i64 d, .int .i64 a, .int .i64 b, .int .i64 imm]] w (REffDone rx rm rb rc V code w (0, (s.set d (loadV s.xs (w64 (s.r a + imm)) (sizeV op))).at' (nextV s))) := by
  have hn8 := sizeV_le op
  have HZ := Lib.hid (fun u => sizes_any (op := op) (by omega) u)
  have haddr : IntKind.u64.wrap (s.r a + IntKind.u64.wrap imm) = w64 (s.r a + imm) := by
    rw [wrap_w64, wrap_w64]
    unfold w64
    omega
  have hA := w64_bd (s.r a + imm)
  have hnx : IntKind.u64.wrap (s.pc + 4) = nextV s := wrap_w64 _
  have hnb : InW (nextV s) := nextV_bd s
  have o3 : ¬ 18 ≤ op := by omega
  have hst : ∀ u, RMach u rx rm rb rc V code s → Calls Tryz.prog 67 #[.pointer (some ⟨rm, 0, none⟩), .int .u64 (w64 (s.r a + imm)), .int .i64 (sizeV op)] u fun e w' => e = .returned (.tuple #[.int .u64 (loadV s.xs (w64 (s.r a + imm)) (sizeV op)), .int .i64 (numE s.xs.length (w64 (s.r a + imm)) (sizeV op))]) ∧ u = w' := fun u hu => rload_any hu.mem _ _ hA.1 hA.2 (by omega)
  rw [he] at hst
  have hz := loadBd s.xs (w64 (s.r a + imm)) (sizeV op) h.ok.xs
  rw [hs] at HZ
  have hv : InW (loadV s.xs (w64 (s.r a + imm)) (sizeV op)) := hz
  generalize loadV s.xs (w64 (s.r a + imm)) (sizeV op) = v at *
  clear hz he
  generalize sizeV op = n at *
  generalize w64 (s.r a + imm) = A at *
  generalize hq : nextV s = q at hnx hnb ⊢
  have HQ := Lib.hid hq
  have HS := Lib.hid hst
  clear hst hq
  have HW := Lib.hid (h.alloc (.cells #[.int .i64 op, .int .i64 d, .int .i64 a, .int .i64 b, .int .i64 imm] 76))
  have BW := Lib.hid ((But.refl (TwoBlocks rx rb) w).alloc (.cells #[.int .i64 op, .int .i64 d, .int .i64 a, .int .i64 b, .int .i64 imm] 76))
  have k0 := new_cell w #[.int .i64 op, .int .i64 d, .int .i64 a, .int .i64 b, .int .i64 imm] 76 w.heap.size 0 _ rfl rfl
  have k1 := new_cell w #[.int .i64 op, .int .i64 d, .int .i64 a, .int .i64 b, .int .i64 imm] 76 w.heap.size 1 _ rfl rfl
  have k2 := new_cell w #[.int .i64 op, .int .i64 d, .int .i64 a, .int .i64 b, .int .i64 imm] 76 w.heap.size 2 _ rfl rfl
  have k3 := new_cell w #[.int .i64 op, .int .i64 d, .int .i64 a, .int .i64 b, .int .i64 imm] 76 w.heap.size 3 _ rfl rfl
  have k4 := new_cell w #[.int .i64 op, .int .i64 d, .int .i64 a, .int .i64 b, .int .i64 imm] 76 w.heap.size 4 _ rfl rfl
  have hsz : w.heap.size < (w.alloc (.cells #[.int .i64 op, .int .i64 d, .int .i64 a, .int .i64 b, .int .i64 imm] 76)).heap.size := by simp
  have c1 := HW.out.reg ha
  have c2 := HW.out.reg hb
  have c3 := HW.out.memc
  have lt := h.lt
  have a0 : (0 : Int) ≤ (a : Int) := by omega
  have a1 : (a : Int) < 32 := by omega
  have b0 : (0 : Int) ≤ (b : Int) := by omega
  have b1 : (b : Int) < 32 := by omega
  clear h
  go_enter Tryz.func41, Tryz.ntmps41
  go_wp2_with fail
  generalize w.alloc (.cells #[.int .i64 op, .int .i64 d, .int .i64 a, .int .i64 b, .int .i64 imm] 76) = W at *
  go_wp2_with (go_at_call 39; (with_reducible refine (HZ.out _).mono ?_); rintro e w' ⟨rfl, rfl⟩)
  go_quiet (fail)
  have HST := Lib.hid (HS.out (W.drewN nq) (HW.out.drewN nq))
  have HWN := Lib.hid (HW.out.drewN nq)
  have hset := fun u (hu : RMach u rx rm rb rc V code s) => rSet_any hu (d : Int) v hv
  rw [if_pos (⟨by omega, by omega⟩ : (0 : Int) ≤ (d : Int) ∧ (d : Int) < 32)] at hset
  have HSET := Lib.hid (hset _ HWN.out)
  clear hset
  go_wp2_with (first
    | (go_at_call 67; (with_reducible refine HST.out.mono ?_); rintro e w' ⟨rfl, rfl⟩)
    | (go_at_call 18; (with_reducible refine HSET.out.mono ?_); rintro e w2 ⟨rfl, hm, hb2⟩; have M2 := Lib.hid hm; have B2 := Lib.hid ((BW.out.drewN nq).trans hb2.two1); have d1 : w2.cell? ⟨rx, 32, none⟩ = some (.int .u64 s.pc) := (M2.out.pc).trans (by rw [set_pc]); have d2 := M2.out.free 32; clear hm hb2))
  go_ret
  exact ⟨rfl, M2.out.setPc hnb, B2.out.setCell (p := ⟨rx, 32, none⟩) (.inl (.inl rfl)) _⟩
set_option maxRecDepth 100000 in
set_option maxHeartbeats 8000000 in
theorem rmemLoad_bad (h : RMach w rx rm rb rc V code s) (op imm : Int) (d a b : Nat) (hd : d < 32) (ha : a < 32) (hb : b < 32) (o1 : 11 ≤ op) (o2 : op ≤ 17) (he : numE s.xs.length (w64 (s.r a + imm)) (sizeV op) ≠ 0) :
    Calls Tryz.prog 41 #[.pointer (some ⟨rx, 0, none⟩), .agg #[.int .i64 op, .int .i64 d, .int .i64 a, .int .i64 b, .int .i64 imm]] w (REffDone rx rm rb rc V code w (5, s)) := by
  have hn8 := sizeV_le op
  have HZ := Lib.hid (fun u => sizes_any (op := op) (by omega) u)
  have haddr : IntKind.u64.wrap (s.r a + IntKind.u64.wrap imm) = w64 (s.r a + imm) := by
    rw [wrap_w64, wrap_w64]
    unfold w64
    omega
  have hA := w64_bd (s.r a + imm)
  have hnx : IntKind.u64.wrap (s.pc + 4) = nextV s := wrap_w64 _
  have hnb : InW (nextV s) := nextV_bd s
  have o3 : ¬ 18 ≤ op := by omega
  have hst : ∀ u, RMach u rx rm rb rc V code s → Calls Tryz.prog 67 #[.pointer (some ⟨rm, 0, none⟩), .int .u64 (w64 (s.r a + imm)), .int .i64 (sizeV op)] u fun e w' => e = .returned (.tuple #[.int .u64 (loadV s.xs (w64 (s.r a + imm)) (sizeV op)), .int .i64 (numE s.xs.length (w64 (s.r a + imm)) (sizeV op))]) ∧ u = w' := fun u hu => rload_any hu.mem _ _ hA.1 hA.2 (by omega)
  have heq := ne_beq he
  generalize numE s.xs.length (w64 (s.r a + imm)) (sizeV op) = E at hst heq
  generalize loadV s.xs (w64 (s.r a + imm)) (sizeV op) = z at hst
  clear he
  generalize sizeV op = n at *
  generalize w64 (s.r a + imm) = A at *
  generalize hq : nextV s = q at hnx hnb ⊢
  have HQ := Lib.hid hq
  have HS := Lib.hid hst
  clear hst hq
  have HW := Lib.hid (h.alloc (.cells #[.int .i64 op, .int .i64 d, .int .i64 a, .int .i64 b, .int .i64 imm] 76))
  have BW := Lib.hid ((But.refl (TwoBlocks rx rb) w).alloc (.cells #[.int .i64 op, .int .i64 d, .int .i64 a, .int .i64 b, .int .i64 imm] 76))
  have k0 := new_cell w #[.int .i64 op, .int .i64 d, .int .i64 a, .int .i64 b, .int .i64 imm] 76 w.heap.size 0 _ rfl rfl
  have k1 := new_cell w #[.int .i64 op, .int .i64 d, .int .i64 a, .int .i64 b, .int .i64 imm] 76 w.heap.size 1 _ rfl rfl
  have k2 := new_cell w #[.int .i64 op, .int .i64 d, .int .i64 a, .int .i64 b, .int .i64 imm] 76 w.heap.size 2 _ rfl rfl
  have k3 := new_cell w #[.int .i64 op, .int .i64 d, .int .i64 a, .int .i64 b, .int .i64 imm] 76 w.heap.size 3 _ rfl rfl
  have k4 := new_cell w #[.int .i64 op, .int .i64 d, .int .i64 a, .int .i64 b, .int .i64 imm] 76 w.heap.size 4 _ rfl rfl
  have hsz : w.heap.size < (w.alloc (.cells #[.int .i64 op, .int .i64 d, .int .i64 a, .int .i64 b, .int .i64 imm] 76)).heap.size := by simp
  have c1 := HW.out.reg ha
  have c2 := HW.out.reg hb
  have c3 := HW.out.memc
  have lt := h.lt
  have a0 : (0 : Int) ≤ (a : Int) := by omega
  have a1 : (a : Int) < 32 := by omega
  have b0 : (0 : Int) ≤ (b : Int) := by omega
  have b1 : (b : Int) < 32 := by omega
  clear h
  go_enter Tryz.func41, Tryz.ntmps41
  go_wp2_with fail
  generalize w.alloc (.cells #[.int .i64 op, .int .i64 d, .int .i64 a, .int .i64 b, .int .i64 imm] 76) = W at *
  go_wp2_with (go_at_call 39; (with_reducible refine (HZ.out _).mono ?_); rintro e w' ⟨rfl, rfl⟩)
  go_quiet (fail)
  have HST := Lib.hid (HS.out (W.drewN nq) (HW.out.drewN nq))
  have HWN := Lib.hid (HW.out.drewN nq)
  go_wp2_with (go_at_call 67; (with_reducible refine HST.out.mono ?_); rintro e w' ⟨rfl, rfl⟩)
  go_ret
  exact ⟨rfl, HWN.out, BW.out.drewN nq⟩
end
end Go.Proofs.YtnaceogkaiodnaaGreat

