/- Step of the document's own way of layer 4: contracts for any such machine, in whatever memory of the program. -/
import Derived.Test.YtnaceogkaiodnaaGreatM14
import Derived.Test.YtnaceogkaiodnaaGreatM26
namespace Go.Proofs.YtnaceogkaiodnaaGreat
open Go.RowKit
set_option linter.unusedVariables false

section
variable {w w' : World} {rx rm rb rc : Nat} {V : Value} {code : List Int} {s : MSt}
set_option maxRecDepth 100000 in
set_option maxHeartbeats 8000000 in
theorem rexec_none (h : RMach w rx rm rb rc V code s) {E : Int} (hE : E ≠ 0) (hf : Calls Tryz.prog 38 #[.pointer (some ⟨rx, 0, none⟩)] w (RFetchDone w (.agg #[.int .i64 0, .int .i64 0, .int .i64 0, .int .i64 0, .int .i64 0]) E)) :
    Calls Tryz.prog 14 #[.pointer (some ⟨rx, 0, none⟩)] w (REffDone rx rm rb rc V code w (E, s)) := by
  have HM := Lib.hid h
  have HF := Lib.hid hf
  have e2 := ne_beq hE
  clear h hf hE
  go_enter Tryz.func14, Tryz.ntmps14
  go_wp2_with (go_at_call 38; (with_reducible refine HF.out.mono ?_); rintro e w1 ⟨rfl, hb1⟩; have HW := Lib.hid ((HM.out.below hb1).alloc (.cells #[.int .i64 0, .int .i64 0, .int .i64 0, .int .i64 0, .int .i64 0] 76)); have BW := Lib.hid ((But.of_below (R := TwoBlocks rx rb) hb1).alloc (.cells #[.int .i64 0, .int .i64 0, .int .i64 0, .int .i64 0, .int .i64 0] 76)); clear hb1)
  go_ret
  exact ⟨rfl, HW.out, BW.out⟩
set_option maxRecDepth 100000 in
set_option maxHeartbeats 8000000 in
theorem rexec_63 (h : RMach w rx rm rb rc V code s) (imm : Int) (d a b : Nat) (hd : d < 32) (ha : a < 32) (hb : b < 32) (hf : Calls Tryz.prog 38 #[.pointer (some ⟨rx, 0, none⟩)] w (RFetchDone w (.agg #[.int .i64 63, .int .i64 d, .int .i64 a, .int .i64 b, .int .i64 imm]) 0)) :
    Calls Tryz.prog 14 #[.pointer (some ⟨rx, 0, none⟩)] w (REffDone rx rm rb rc V code w (1, s)) := by
  have HM := Lib.hid h
  have HF := Lib.hid hf
  have hnx : IntKind.u64.wrap (s.pc + 4) = nextV s := wrap_w64 _
  have hnb : InW (nextV s) := nextV_bd s
  have a0 : (0 : Int) ≤ (a : Int) := by omega
  have a1 : (a : Int) < 32 := by omega
  have b0 : (0 : Int) ≤ (b : Int) := by omega
  have b1 : (b : Int) < 32 := by omega
  have HZ := Lib.hid (fun u => sizes_any (op := 63) (by decide) u)
  have HFN := Lib.hid (fun u => function_any (op := 63) (by decide) u)
  rw [show sizeV 63 = 0 by decide] at HZ
  generalize signedOp 63 = sg at HZ
  generalize fnV 63 = fn at HFN
  generalize halfOp 63 = hf2 at HFN
  clear h hf
  go_enter Tryz.func14, Tryz.ntmps14
  go_wp2_with (first
    | (go_at_call 38; (with_reducible refine HF.out.mono ?_); rintro e w1 ⟨rfl, hb1⟩; have HW := Lib.hid ((HM.out.below hb1).alloc (.cells #[.int .i64 63, .int .i64 d, .int .i64 a, .int .i64 b, .int .i64 imm] 76)); have BW := Lib.hid ((But.of_below (R := TwoBlocks rx rb) hb1).alloc (.cells #[.int .i64 63, .int .i64 d, .int .i64 a, .int .i64 b, .int .i64 imm] 76)); have NX : rx ≠ w1.heap.size := Nat.ne_of_lt (Nat.lt_of_lt_of_le HM.out.lt.1 hb1.size); have SZ : w1.heap.size < (w1.alloc (.cells #[.int .i64 63, .int .i64 d, .int .i64 a, .int .i64 b, .int .i64 imm] 76)).heap.size := (by simp); have k0 := new_cell w1 #[.int .i64 63, .int .i64 d, .int .i64 a, .int .i64 b, .int .i64 imm] 76 w1.heap.size 0 _ rfl rfl; have k1 := new_cell w1 #[.int .i64 63, .int .i64 d, .int .i64 a, .int .i64 b, .int .i64 imm] 76 w1.heap.size 1 _ rfl rfl; have k2 := new_cell w1 #[.int .i64 63, .int .i64 d, .int .i64 a, .int .i64 b, .int .i64 imm] 76 w1.heap.size 2 _ rfl rfl; have k3 := new_cell w1 #[.int .i64 63, .int .i64 d, .int .i64 a, .int .i64 b, .int .i64 imm] 76 w1.heap.size 3 _ rfl rfl; have k4 := new_cell w1 #[.int .i64 63, .int .i64 d, .int .i64 a, .int .i64 b, .int .i64 imm] 76 w1.heap.size 4 _ rfl rfl; have c0 := HW.out.pc; have c1 := HW.out.reg ha; have c2 := HW.out.reg hb; clear hb1)
    | (go_at_call 39; generalize w1.alloc (.cells #[.int .i64 63, .int .i64 d, .int .i64 a, .int .i64 b, .int .i64 imm] 76) = W at *; generalize w1.heap.size = g at *; (with_reducible refine (HZ.out _).mono ?_); rintro e w' ⟨rfl, rfl⟩)
    | (go_at_call 40; (with_reducible refine (HFN.out _).mono ?_); rintro e w' ⟨rfl, rfl⟩))
  go_ret
  exact ⟨rfl, HW.out, BW.out⟩
set_option maxRecDepth 100000 in
set_option maxHeartbeats 8000000 in
theorem rexec_mem (h : RMach w rx rm rb rc V code s) {op : Int} (imm : Int) (d a b : Nat) (hd : d < 32) (ha : a < 32) (hb : b < 32) (r : Int × MSt) (o63 : op ≠ 63) (ho : 1 ≤ op ∧ op ≤ 62) (hn : 0 < sizeV op) (hme : ∀ u, RMach u rx rm rb rc V code s → Calls Tryz.prog 41 #[.pointer (some ⟨rx, 0, none⟩), .agg #[.int .i64 op, .int .i64 d, .int .i64 a, .int .i64 b, .int .i64 imm]] u (REffDone rx rm rb rc V code u r)) (hf : Calls Tryz.prog 38 #[.pointer (some ⟨rx, 0, none⟩)] w (RFetchDone w (.agg #[.int .i64 op, .int .i64 d, .int .i64 a, .int .i64 b, .int .i64 imm]) 0)) :
    Calls Tryz.prog 14 #[.pointer (some ⟨rx, 0, none⟩)] w (REffDone rx rm rb rc V code w r) := by
  have HM := Lib.hid h
  have HF := Lib.hid hf
  have hnx : IntKind.u64.wrap (s.pc + 4) = nextV s := wrap_w64 _
  have hnb : InW (nextV s) := nextV_bd s
  have a0 : (0 : Int) ≤ (a : Int) := by omega
  have a1 : (a : Int) < 32 := by omega
  have b0 : (0 : Int) ≤ (b : Int) := by omega
  have b1 : (b : Int) < 32 := by omega
  have HZ := Lib.hid (fun u => sizes_any (op := op) (by omega) u)
  have HFN := Lib.hid (fun u => function_any (op := op) (by omega) u)
  have HME := Lib.hid hme
  have e63 := ne_beq o63
  generalize sizeV op = n at *
  generalize signedOp op = sg at HZ
  generalize fnV op = fn at HFN
  generalize halfOp op = hf2 at HFN
  clear h hf hme o63 ho
  go_enter Tryz.func14, Tryz.ntmps14
  go_wp2_with (first
    | (go_at_call 38; (with_reducible refine HF.out.mono ?_); rintro e w1 ⟨rfl, hb1⟩; have HW := Lib.hid ((HM.out.below hb1).alloc (.cells #[.int .i64 op, .int .i64 d, .int .i64 a, .int .i64 b, .int .i64 imm] 76)); have BW := Lib.hid ((But.of_below (R := TwoBlocks rx rb) hb1).alloc (.cells #[.int .i64 op, .int .i64 d, .int .i64 a, .int .i64 b, .int .i64 imm] 76)); have NX : rx ≠ w1.heap.size := Nat.ne_of_lt (Nat.lt_of_lt_of_le HM.out.lt.1 hb1.size); have SZ : w1.heap.size < (w1.alloc (.cells #[.int .i64 op, .int .i64 d, .int .i64 a, .int .i64 b, .int .i64 imm] 76)).heap.size := (by simp); have k0 := new_cell w1 #[.int .i64 op, .int .i64 d, .int .i64 a, .int .i64 b, .int .i64 imm] 76 w1.heap.size 0 _ rfl rfl; have k1 := new_cell w1 #[.int .i64 op, .int .i64 d, .int .i64 a, .int .i64 b, .int .i64 imm] 76 w1.heap.size 1 _ rfl rfl; have k2 := new_cell w1 #[.int .i64 op, .int .i64 d, .int .i64 a, .int .i64 b, .int .i64 imm] 76 w1.heap.size 2 _ rfl rfl; have k3 := new_cell w1 #[.int .i64 op, .int .i64 d, .int .i64 a, .int .i64 b, .int .i64 imm] 76 w1.heap.size 3 _ rfl rfl; have k4 := new_cell w1 #[.int .i64 op, .int .i64 d, .int .i64 a, .int .i64 b, .int .i64 imm] 76 w1.heap.size 4 _ rfl rfl; have c0 := HW.out.pc; have c1 := HW.out.reg ha; have c2 := HW.out.reg hb; clear hb1)
    | (go_at_call 39; generalize w1.alloc (.cells #[.int .i64 op, .int .i64 d, .int .i64 a, .int .i64 b, .int .i64 imm] 76) = W at *; generalize w1.heap.size = g at *; (with_reducible refine (HZ.out _).mono ?_); rintro e w' ⟨rfl, rfl⟩)
    | (go_at_call 40; (with_reducible refine (HFN.out _).mono ?_); rintro e w' ⟨rfl, rfl⟩)
    | (go_at_call 41; (with_reducible refine (HME.out _ HW.out).mono ?_); rintro e w2 ⟨rfl, hm, hb2⟩; have M2 := Lib.hid hm; have B2 := Lib.hid (BW.out.trans hb2); clear hm hb2))
  go_ret
  exact ⟨rfl, M2.out, B2.out⟩
set_option maxRecDepth 100000 in
set_option maxHeartbeats 8000000 in
theorem rexec_jump (h : RMach w rx rm rb rc V code s) {op : Int} (imm : Int) (d a b : Nat) (hd : d < 32) (ha : a < 32) (hb : b < 32) (t : MSt) (o3 : 3 ≤ op) (o10 : op ≤ 10) (hju : ∀ u, RMach u rx rm rb rc V code s → Calls Tryz.prog 42 #[.pointer (some ⟨rx, 0, none⟩), .agg #[.int .i64 op, .int .i64 d, .int .i64 a, .int .i64 b, .int .i64 imm]] u (RJumpDone rx rm rb rc V code u t)) (hf : Calls Tryz.prog 38 #[.pointer (some ⟨rx, 0, none⟩)] w (RFetchDone w (.agg #[.int .i64 op, .int .i64 d, .int .i64 a, .int .i64 b, .int .i64 imm]) 0)) :
    Calls Tryz.prog 14 #[.pointer (some ⟨rx, 0, none⟩)] w (REffDone rx rm rb rc V code w (0, t)) := by
  have HM := Lib.hid h
  have HF := Lib.hid hf
  have hnx : IntKind.u64.wrap (s.pc + 4) = nextV s := wrap_w64 _
  have hnb : InW (nextV s) := nextV_bd s
  have a0 : (0 : Int) ≤ (a : Int) := by omega
  have a1 : (a : Int) < 32 := by omega
  have b0 : (0 : Int) ≤ (b : Int) := by omega
  have b1 : (b : Int) < 32 := by omega
  have hz0 : sizeV op = 0 := by
    unfold sizeV
    rw [if_neg (by omega), if_neg (by omega), if_neg (by omega), if_neg (by omega)]
  have HZ := Lib.hid (fun u => sizes_any (op := op) (by omega) u)
  rw [hz0] at HZ
  have HFN := Lib.hid (fun u => function_any (op := op) (by omega) u)
  have HJU := Lib.hid hju
  have e63 : (op == 63) = false := ne_beq (by omega)
  generalize signedOp op = sg at HZ
  generalize fnV op = fn at HFN
  generalize halfOp op = hf2 at HFN
  clear h hf hju hz0
  go_enter Tryz.func14, Tryz.ntmps14
  go_wp2_with (first
    | (go_at_call 38; (with_reducible refine HF.out.mono ?_); rintro e w1 ⟨rfl, hb1⟩; have HW := Lib.hid ((HM.out.below hb1).alloc (.cells #[.int .i64 op, .int .i64 d, .int .i64 a, .int .i64 b, .int .i64 imm] 76)); have BW := Lib.hid ((But.of_below (R := TwoBlocks rx rb) hb1).alloc (.cells #[.int .i64 op, .int .i64 d, .int .i64 a, .int .i64 b, .int .i64 imm] 76)); have NX : rx ≠ w1.heap.size := Nat.ne_of_lt (Nat.lt_of_lt_of_le HM.out.lt.1 hb1.size); have SZ : w1.heap.size < (w1.alloc (.cells #[.int .i64 op, .int .i64 d, .int .i64 a, .int .i64 b, .int .i64 imm] 76)).heap.size := (by simp); have k0 := new_cell w1 #[.int .i64 op, .int .i64 d, .int .i64 a, .int .i64 b, .int .i64 imm] 76 w1.heap.size 0 _ rfl rfl; have k1 := new_cell w1 #[.int .i64 op, .int .i64 d, .int .i64 a, .int .i64 b, .int .i64 imm] 76 w1.heap.size 1 _ rfl rfl; have k2 := new_cell w1 #[.int .i64 op, .int .i64 d, .int .i64 a, .int .i64 b, .int .i64 imm] 76 w1.heap.size 2 _ rfl rfl; have k3 := new_cell w1 #[.int .i64 op, .int .i64 d, .int .i64 a, .int .i64 b, .int .i64 imm] 76 w1.heap.size 3 _ rfl rfl; have k4 := new_cell w1 #[.int .i64 op, .int .i64 d, .int .i64 a, .int .i64 b, .int .i64 imm] 76 w1.heap.size 4 _ rfl rfl; have c0 := HW.out.pc; have c1 := HW.out.reg ha; have c2 := HW.out.reg hb; clear hb1)
    | (go_at_call 39; generalize w1.alloc (.cells #[.int .i64 op, .int .i64 d, .int .i64 a, .int .i64 b, .int .i64 imm] 76) = W at *; generalize w1.heap.size = g at *; (with_reducible refine (HZ.out _).mono ?_); rintro e w' ⟨rfl, rfl⟩)
    | (go_at_call 40; (with_reducible refine (HFN.out _).mono ?_); rintro e w' ⟨rfl, rfl⟩)
    | (go_at_call 42; (with_reducible refine (HJU.out _ HW.out).mono ?_); rintro e w2 ⟨rfl, hm, hb2⟩; have M2 := Lib.hid hm; have B2 := Lib.hid (BW.out.trans hb2); clear hm hb2))
  go_ret
  exact ⟨rfl, M2.out, B2.out⟩
set_option maxRecDepth 100000 in
set_option maxHeartbeats 8000000 in
theorem rexec_1 (h : RMach w rx rm rb rc V code s) (imm : Int) (d a b : Nat) (hd : d < 32) (ha : a < 32) (hb : b < 32) (hf : Calls Tryz.prog 38 #[.pointer (some ⟨rx, 0, none⟩)] w (RFetchDone w (.agg #[.int .i64 1, .int .i64 d, .int .i64 a, .int .i64 b, .int .i64 imm]) 0)) :
    Calls Tryz.prog 14 #[.pointer (some ⟨rx, 0, none⟩)] w (REffDone rx rm rb rc V code w (0, (s.set d (w64 (imm * 4096))).at' (nextV s))) := by
  have HM := Lib.hid h
  have HF := Lib.hid hf
  have hnx : IntKind.u64.wrap (s.pc + 4) = nextV s := wrap_w64 _
  have hnb : InW (nextV s) := nextV_bd s
  have a0 : (0 : Int) ≤ (a : Int) := by omega
  have a1 : (a : Int) < 32 := by omega
  have b0 : (0 : Int) ≤ (b : Int) := by omega
  have b1 : (b : Int) < 32 := by omega
  have HZ := Lib.hid (fun u => sizes_any (op := 1) (by decide) u)
  have HFN := Lib.hid (fun u => function_any (op := 1) (by decide) u)
  rw [show sizeV 1 = 0 by decide] at HZ
  generalize signedOp 1 = sg at HZ
  generalize fnV 1 = fn at HFN
  generalize halfOp 1 = hf2 at HFN
  have hi : IntKind.u64.wrap (IntKind.u64.wrap imm * 4096) = w64 (imm * 4096) := by
    rw [wrap_w64, wrap_w64]
    unfold w64
    omega
  have hv := w64_bd (imm * 4096)
  generalize w64 (imm * 4096) = v at *
  generalize hq : nextV s = q at *
  have hst := fun u (hu : RMach u rx rm rb rc V code s) => rSet_any hu (d : Int) v hv
  rw [if_pos (⟨by omega, by omega⟩ : (0 : Int) ≤ (d : Int) ∧ (d : Int) < 32)] at hst
  have HST := Lib.hid hst
  clear h hf hst hq
  go_enter Tryz.func14, Tryz.ntmps14
  go_wp2_with (first
    | (go_at_call 38; (with_reducible refine HF.out.mono ?_); rintro e w1 ⟨rfl, hb1⟩; have HW := Lib.hid ((HM.out.below hb1).alloc (.cells #[.int .i64 1, .int .i64 d, .int .i64 a, .int .i64 b, .int .i64 imm] 76)); have BW := Lib.hid ((But.of_below (R := TwoBlocks rx rb) hb1).alloc (.cells #[.int .i64 1, .int .i64 d, .int .i64 a, .int .i64 b, .int .i64 imm] 76)); have NX : rx ≠ w1.heap.size := Nat.ne_of_lt (Nat.lt_of_lt_of_le HM.out.lt.1 hb1.size); have SZ : w1.heap.size < (w1.alloc (.cells #[.int .i64 1, .int .i64 d, .int .i64 a, .int .i64 b, .int .i64 imm] 76)).heap.size := (by simp); have k0 := new_cell w1 #[.int .i64 1, .int .i64 d, .int .i64 a, .int .i64 b, .int .i64 imm] 76 w1.heap.size 0 _ rfl rfl; have k1 := new_cell w1 #[.int .i64 1, .int .i64 d, .int .i64 a, .int .i64 b, .int .i64 imm] 76 w1.heap.size 1 _ rfl rfl; have k2 := new_cell w1 #[.int .i64 1, .int .i64 d, .int .i64 a, .int .i64 b, .int .i64 imm] 76 w1.heap.size 2 _ rfl rfl; have k3 := new_cell w1 #[.int .i64 1, .int .i64 d, .int .i64 a, .int .i64 b, .int .i64 imm] 76 w1.heap.size 3 _ rfl rfl; have k4 := new_cell w1 #[.int .i64 1, .int .i64 d, .int .i64 a, .int .i64 b, .int .i64 imm] 76 w1.heap.size 4 _ rfl rfl; have c0 := HW.out.pc; have c1 := HW.out.reg ha; have c2 := HW.out.reg hb; clear hb1)
    | (go_at_call 39; generalize w1.alloc (.cells #[.int .i64 1, .int .i64 d, .int .i64 a, .int .i64 b, .int .i64 imm] 76) = W at *; generalize w1.heap.size = g at *; (with_reducible refine (HZ.out _).mono ?_); rintro e w' ⟨rfl, rfl⟩)
    | (go_at_call 40; (with_reducible refine (HFN.out _).mono ?_); rintro e w' ⟨rfl, rfl⟩)
    | (go_at_call 18; (with_reducible refine (HST.out _ HW.out).mono ?_); rintro e w3 ⟨rfl, hm, hb3⟩; have M3 := Lib.hid hm; have B3 := Lib.hid (BW.out.trans hb3.two1); have d1 : w3.cell? ⟨rx, 32, none⟩ = some (.int .u64 s.pc) := (M3.out.pc).trans (by rw [set_pc]); have d2 := M3.out.free 32; clear hm hb3))
  go_ret
  exact ⟨rfl, M3.out.setPc hnb, B3.out.setCell (p := ⟨rx, 32, none⟩) (.inl (.inl rfl)) _⟩
set_option maxRecDepth 100000 in
set_option maxHeartbeats 8000000 in
theorem rexec_2 (h : RMach w rx rm rb rc V code s) (imm : Int) (d a b : Nat) (hd : d < 32) (ha : a < 32) (hb : b < 32) (hf : Calls Tryz.prog 38 #[.pointer (some ⟨rx, 0, none⟩)] w (RFetchDone w (.agg #[.int .i64 2, .int .i64 d, .int .i64 a, .int .i64 b, .int .i64 imm]) 0)) :
    Calls Tryz.prog 14 #[.pointer (some ⟨rx, 0, none⟩)] w (REffDone rx rm rb rc V code w (0, (s.set d (w64 (s.pc + imm * 4096))).at' (nextV s))) := by
  have HM := Lib.hid h
  have HF := Lib.hid hf
  have hnx : IntKind.u64.wrap (s.pc + 4) = nextV s := wrap_w64 _
  have hnb : InW (nextV s) := nextV_bd s
  have a0 : (0 : Int) ≤ (a : Int) := by omega
  have a1 : (a : Int) < 32 := by omega
  have b0 : (0 : Int) ≤ (b : Int) := by omega
  have b1 : (b : Int) < 32 := by omega
  have HZ := Lib.hid (fun u => sizes_any (op := 2) (by decide) u)
  have HFN := Lib.hid (fun u => function_any (op := 2) (by decide) u)
  rw [show sizeV 2 = 0 by decide] at HZ
  generalize signedOp 2 = sg at HZ
  generalize fnV 2 = fn at HFN
  generalize halfOp 2 = hf2 at HFN
  have hi : IntKind.u64.wrap (s.pc + IntKind.u64.wrap (IntKind.u64.wrap imm * 4096)) = w64 (s.pc + imm * 4096) := by
    rw [wrap_w64, wrap_w64, wrap_w64]
    unfold w64
    omega
  have hv := w64_bd (s.pc + imm * 4096)
  generalize w64 (s.pc + imm * 4096) = v at *
  generalize hq : nextV s = q at *
  have hst := fun u (hu : RMach u rx rm rb rc V code s) => rSet_any hu (d : Int) v hv
  rw [if_pos (⟨by omega, by omega⟩ : (0 : Int) ≤ (d : Int) ∧ (d : Int) < 32)] at hst
  have HST := Lib.hid hst
  clear h hf hst hq
  go_enter Tryz.func14, Tryz.ntmps14
  go_wp2_with (first
    | (go_at_call 38; (with_reducible refine HF.out.mono ?_); rintro e w1 ⟨rfl, hb1⟩; have HW := Lib.hid ((HM.out.below hb1).alloc (.cells #[.int .i64 2, .int .i64 d, .int .i64 a, .int .i64 b, .int .i64 imm] 76)); have BW := Lib.hid ((But.of_below (R := TwoBlocks rx rb) hb1).alloc (.cells #[.int .i64 2, .int .i64 d, .int .i64 a, .int .i64 b, .int .i64 imm] 76)); have NX : rx ≠ w1.heap.size := Nat.ne_of_lt (Nat.lt_of_lt_of_le HM.out.lt.1 hb1.size); have SZ : w1.heap.size < (w1.alloc (.cells #[.int .i64 2, .int .i64 d, .int .i64 a, .int .i64 b, .int .i64 imm] 76)).heap.size := (by simp); have k0 := new_cell w1 #[.int .i64 2, .int .i64 d, .int .i64 a, .int .i64 b, .int .i64 imm] 76 w1.heap.size 0 _ rfl rfl; have k1 := new_cell w1 #[.int .i64 2, .int .i64 d, .int .i64 a, .int .i64 b, .int .i64 imm] 76 w1.heap.size 1 _ rfl rfl; have k2 := new_cell w1 #[.int .i64 2, .int .i64 d, .int .i64 a, .int .i64 b, .int .i64 imm] 76 w1.heap.size 2 _ rfl rfl; have k3 := new_cell w1 #[.int .i64 2, .int .i64 d, .int .i64 a, .int .i64 b, .int .i64 imm] 76 w1.heap.size 3 _ rfl rfl; have k4 := new_cell w1 #[.int .i64 2, .int .i64 d, .int .i64 a, .int .i64 b, .int .i64 imm] 76 w1.heap.size 4 _ rfl rfl; have c0 := HW.out.pc; have c1 := HW.out.reg ha; have c2 := HW.out.reg hb; clear hb1)
    | (go_at_call 39; generalize w1.alloc (.cells #[.int .i64 2, .int .i64 d, .int .i64 a, .int .i64 b, .int .i64 imm] 76) = W at *; generalize w1.heap.size = g at *; (with_reducible refine (HZ.out _).mono ?_); rintro e w' ⟨rfl, rfl⟩)
    | (go_at_call 40; (with_reducible refine (HFN.out _).mono ?_); rintro e w' ⟨rfl, rfl⟩))
  go_still_tail 12, (by kernel_rfl)
  have HSET := Lib.hid (HST.out W.drew (HW.out.drewN 1))
  go_wp2_with (go_at_call 18; (with_reducible refine HSET.out.mono ?_); rintro e w3 ⟨rfl, hm, hb3⟩; have M3 := Lib.hid hm; have B3 := Lib.hid ((BW.out.drewN 1).trans hb3.two1); have d1 : w3.cell? ⟨rx, 32, none⟩ = some (.int .u64 s.pc) := (M3.out.pc).trans (by rw [set_pc]); have d2 := M3.out.free 32; clear hm hb3)
  go_ret
  exact ⟨rfl, M3.out.setPc hnb, B3.out.setCell (p := ⟨rx, 32, none⟩) (.inl (.inl rfl)) _⟩
set_option maxRecDepth 100000 in
set_option maxHeartbeats 8000000 in
theorem rexec_Rdo (h : RMach w rx rm rb rc V code s) {op : Int} (imm : Int) (d a b : Nat) (hd : d < 32) (ha : a < 32) (hb : b < 32) (o1 : 22 ≤ op) (o2 : op ≤ 62) (hh : halfOp op = false) (hT : ∀ u, Calls Tryz.prog 43 #[.int .i64 op] u (TextDone u ⟨#[82]⟩)) (hf : Calls Tryz.prog 38 #[.pointer (some ⟨rx, 0, none⟩)] w (RFetchDone w (.agg #[.int .i64 op, .int .i64 d, .int .i64 a, .int .i64 b, .int .i64 imm]) 0)) :
    Calls Tryz.prog 14 #[.pointer (some ⟨rx, 0, none⟩)] w (REffDone rx rm rb rc V code w (0, (s.set d (doV (fnV op) (s.r a) (s.r b))).at' (nextV s))) := by
  have HM := Lib.hid h
  have HF := Lib.hid hf
  have hnx : IntKind.u64.wrap (s.pc + 4) = nextV s := wrap_w64 _
  have hnb : InW (nextV s) := nextV_bd s
  have a0 : (0 : Int) ≤ (a : Int) := by omega
  have a1 : (a : Int) < 32 := by omega
  have b0 : (0 : Int) ≤ (b : Int) := by omega
  have b1 : (b : Int) < 32 := by omega
  have hz0 : sizeV op = 0 := by
    unfold sizeV
    rw [if_neg (by omega), if_neg (by omega), if_neg (by omega), if_neg (by omega)]
  have HZ := Lib.hid (fun u => sizes_any (op := op) (by omega) u)
  rw [hz0] at HZ
  have HFN := Lib.hid (fun u => function_any (op := op) (by omega) u)
  rw [hh] at HFN
  have e63 : (op == 63) = false := ne_beq (by omega)
  have e1 : (op == 1) = false := ne_beq (by omega)
  have e2 : (op == 2) = false := ne_beq (by omega)
  have e10 : ¬ op ≤ 10 := by omega
  have hi : IntKind.u64.wrap imm = w64 imm := wrap_w64 imm
  have hyb : InW (s.r b) := h.ok.r b
  have hdo := fun u => rdo_any (fnV op) (s.r a) (s.r b) u (h.ok.r a).1 (h.ok.r a).2 hyb.1 hyb.2
  have HD := Lib.hid hdo
  have hv : InW (doV (fnV op) (s.r a) (s.r b)) := doV_bd (h.ok.r a).1 (h.ok.r a).2 hyb.1 hyb.2
  generalize doV (fnV op) (s.r a) (s.r b) = v at *
  generalize signedOp op = sg at HZ
  generalize fnV op = fn at *
  generalize hq : nextV s = q at *
  have HT := Lib.hid hT
  clear h hf hdo hT hz0 hh hyb hq
  go_enter Tryz.func14, Tryz.ntmps14
  go_wp2_with (first
    | (go_at_call 38; (with_reducible refine HF.out.mono ?_); rintro e w1 ⟨rfl, hb1⟩; have HW := Lib.hid ((HM.out.below hb1).alloc (.cells #[.int .i64 op, .int .i64 d, .int .i64 a, .int .i64 b, .int .i64 imm] 76)); have BW := Lib.hid ((But.of_below (R := TwoBlocks rx rb) hb1).alloc (.cells #[.int .i64 op, .int .i64 d, .int .i64 a, .int .i64 b, .int .i64 imm] 76)); have NX : rx ≠ w1.heap.size := Nat.ne_of_lt (Nat.lt_of_lt_of_le HM.out.lt.1 hb1.size); have SZ : w1.heap.size < (w1.alloc (.cells #[.int .i64 op, .int .i64 d, .int .i64 a, .int .i64 b, .int .i64 imm] 76)).heap.size := (by simp); have k0 := new_cell w1 #[.int .i64 op, .int .i64 d, .int .i64 a, .int .i64 b, .int .i64 imm] 76 w1.heap.size 0 _ rfl rfl; have k1 := new_cell w1 #[.int .i64 op, .int .i64 d, .int .i64 a, .int .i64 b, .int .i64 imm] 76 w1.heap.size 1 _ rfl rfl; have k2 := new_cell w1 #[.int .i64 op, .int .i64 d, .int .i64 a, .int .i64 b, .int .i64 imm] 76 w1.heap.size 2 _ rfl rfl; have k3 := new_cell w1 #[.int .i64 op, .int .i64 d, .int .i64 a, .int .i64 b, .int .i64 imm] 76 w1.heap.size 3 _ rfl rfl; have k4 := new_cell w1 #[.int .i64 op, .int .i64 d, .int .i64 a, .int .i64 b, .int .i64 imm] 76 w1.heap.size 4 _ rfl rfl; have c0 := HW.out.pc; have c1 := HW.out.reg ha; have c2 := HW.out.reg hb; clear hb1)
    | (go_at_call 39; generalize w1.alloc (.cells #[.int .i64 op, .int .i64 d, .int .i64 a, .int .i64 b, .int .i64 imm] 76) = W at *; generalize w1.heap.size = g at *; (with_reducible refine (HZ.out _).mono ?_); rintro e w' ⟨rfl, rfl⟩)
    | (go_at_call 40; (with_reducible refine (HFN.out _).mono ?_); rintro e w' ⟨rfl, rfl⟩))
  go_quiet (fail)
  have HWU := Lib.hid (show RMach (W.drewN nq) rx rm rb rc V code s from HW.out.drewN nq)
  have BWU := Lib.hid (show But (TwoBlocks rx rb) w (W.drewN nq) from BW.out.drewN nq)
  replace SZ : g < (W.drewN nq).heap.size := SZ
  replace k0 : (W.drewN nq).cell? ⟨g, 0, none⟩ = _ := k0
  replace k1 : (W.drewN nq).cell? ⟨g, 1, none⟩ = _ := k1
  replace k2 : (W.drewN nq).cell? ⟨g, 2, none⟩ = _ := k2
  replace k3 : (W.drewN nq).cell? ⟨g, 3, none⟩ = _ := k3
  replace k4 : (W.drewN nq).cell? ⟨g, 4, none⟩ = _ := k4
  replace c0 : (W.drewN nq).cell? ⟨rx, 32, none⟩ = _ := c0
  replace c1 : (W.drewN nq).cell? ⟨rx, a, none⟩ = _ := c1
  replace c2 : (W.drewN nq).cell? ⟨rx, b, none⟩ = _ := c2
  clear HW BW
  generalize W.drewN nq = U at *
  go_wp2_with (go_at_call 43; (with_reducible refine (HT.out _).mono ?_); rintro e w2 ⟨rfl, hb2⟩; have HW2 := Lib.hid (HWU.out.below hb2); have BW2 := Lib.hid (BWU.out.trans (But.of_below hb2)); replace k0 := (hb2.cell (p := ⟨g, 0, none⟩) SZ).trans k0; replace k1 := (hb2.cell (p := ⟨g, 1, none⟩) SZ).trans k1; replace k2 := (hb2.cell (p := ⟨g, 2, none⟩) SZ).trans k2; replace k3 := (hb2.cell (p := ⟨g, 3, none⟩) SZ).trans k3; replace k4 := (hb2.cell (p := ⟨g, 4, none⟩) SZ).trans k4; replace c0 := (hb2.cell (p := ⟨rx, 32, none⟩) HWU.out.lt.1).trans c0; replace c1 := (hb2.cell (p := ⟨rx, a, none⟩) HWU.out.lt.1).trans c1; replace c2 := (hb2.cell (p := ⟨rx, b, none⟩) HWU.out.lt.1).trans c2; replace SZ := Nat.lt_of_lt_of_le SZ hb2.size; clear hb2)
  go_quiet ((go_at_call 44; with_reducible exact quiet_left3 (HD.out _)))
  have HWX := Lib.hid (show RMach (w2.drewN nq) rx rm rb rc V code s from HW2.out.drewN nq)
  have BWX := Lib.hid (show But (TwoBlocks rx rb) w (w2.drewN nq) from BW2.out.drewN nq)
  replace SZ : g < (w2.drewN nq).heap.size := SZ
  replace k0 : (w2.drewN nq).cell? ⟨g, 0, none⟩ = _ := k0
  replace k1 : (w2.drewN nq).cell? ⟨g, 1, none⟩ = _ := k1
  replace k2 : (w2.drewN nq).cell? ⟨g, 2, none⟩ = _ := k2
  replace k3 : (w2.drewN nq).cell? ⟨g, 3, none⟩ = _ := k3
  replace k4 : (w2.drewN nq).cell? ⟨g, 4, none⟩ = _ := k4
  replace c0 : (w2.drewN nq).cell? ⟨rx, 32, none⟩ = _ := c0
  replace c1 : (w2.drewN nq).cell? ⟨rx, a, none⟩ = _ := c1
  replace c2 : (w2.drewN nq).cell? ⟨rx, b, none⟩ = _ := c2
  clear HW2 BW2
  generalize w2.drewN nq = X at *
  have hset := rSet_any HWX.out (d : Int) v hv
  rw [if_pos (⟨by omega, by omega⟩ : (0 : Int) ≤ (d : Int) ∧ (d : Int) < 32)] at hset
  have HSET := Lib.hid hset
  clear hset
  go_wp2_with (go_at_call 18; (with_reducible refine HSET.out.mono ?_); rintro e w3 ⟨rfl, hm, hb3⟩; have M3 := Lib.hid hm; have B3 := Lib.hid (BWX.out.trans hb3.two1); have d1 : w3.cell? ⟨rx, 32, none⟩ = some (.int .u64 s.pc) := (M3.out.pc).trans (by rw [set_pc]); have d2 := M3.out.free 32; clear hm hb3)
  go_ret
  exact ⟨rfl, M3.out.setPc hnb, B3.out.setCell (p := ⟨rx, 32, none⟩) (.inl (.inl rfl)) _⟩
set_option maxRecDepth 100000 in
set_option maxHeartbeats 8000000 in
theorem rexec_Rhalf (h : RMach w rx rm rb rc V code s) {op : Int} (imm : Int) (d a b : Nat) (hd : d < 32) (ha : a < 32) (hb : b < 32) (o1 : 22 ≤ op) (o2 : op ≤ 62) (hh : halfOp op = true) (hT : ∀ u, Calls Tryz.prog 43 #[.int .i64 op] u (TextDone u ⟨#[82]⟩)) (hf : Calls Tryz.prog 38 #[.pointer (some ⟨rx, 0, none⟩)] w (RFetchDone w (.agg #[.int .i64 op, .int .i64 d, .int .i64 a, .int .i64 b, .int .i64 imm]) 0)) :
    Calls Tryz.prog 14 #[.pointer (some ⟨rx, 0, none⟩)] w (REffDone rx rm rb rc V code w (0, (s.set d (halfV (fnV op) (s.r a) (s.r b))).at' (nextV s))) := by
  have HM := Lib.hid h
  have HF := Lib.hid hf
  have hnx : IntKind.u64.wrap (s.pc + 4) = nextV s := wrap_w64 _
  have hnb : InW (nextV s) := nextV_bd s
  have a0 : (0 : Int) ≤ (a : Int) := by omega
  have a1 : (a : Int) < 32 := by omega
  have b0 : (0 : Int) ≤ (b : Int) := by omega
  have b1 : (b : Int) < 32 := by omega
  have hz0 : sizeV op = 0 := by
    unfold sizeV
    rw [if_neg (by omega), if_neg (by omega), if_neg (by omega), if_neg (by omega)]
  have HZ := Lib.hid (fun u => sizes_any (op := op) (by omega) u)
  rw [hz0] at HZ
  have HFN := Lib.hid (fun u => function_any (op := op) (by omega) u)
  rw [hh] at HFN
  have e63 : (op == 63) = false := ne_beq (by omega)
  have e1 : (op == 1) = false := ne_beq (by omega)
  have e2 : (op == 2) = false := ne_beq (by omega)
  have e10 : ¬ op ≤ 10 := by omega
  have hi : IntKind.u64.wrap imm = w64 imm := wrap_w64 imm
  have hyb : InW (s.r b) := h.ok.r b
  have hdo := fun u => rdo_any (fnV op) (s.r a) (s.r b) u (h.ok.r a).1 (h.ok.r a).2 hyb.1 hyb.2
  have HD := Lib.hid hdo
  have hhf := fun u => rhalf_any (fnV op) (s.r a) (s.r b) u (h.ok.r a).1 (h.ok.r a).2 hyb.1 hyb.2
  have HHF := Lib.hid hhf
  have hv : InW (halfV (fnV op) (s.r a) (s.r b)) := halfV_bd
  clear hhf
  generalize halfV (fnV op) (s.r a) (s.r b) = v at *
  generalize signedOp op = sg at HZ
  generalize fnV op = fn at *
  generalize hq : nextV s = q at *
  have HT := Lib.hid hT
  clear h hf hdo hT hz0 hh hyb hq
  go_enter Tryz.func14, Tryz.ntmps14
  go_wp2_with (first
    | (go_at_call 38; (with_reducible refine HF.out.mono ?_); rintro e w1 ⟨rfl, hb1⟩; have HW := Lib.hid ((HM.out.below hb1).alloc (.cells #[.int .i64 op, .int .i64 d, .int .i64 a, .int .i64 b, .int .i64 imm] 76)); have BW := Lib.hid ((But.of_below (R := TwoBlocks rx rb) hb1).alloc (.cells #[.int .i64 op, .int .i64 d, .int .i64 a, .int .i64 b, .int .i64 imm] 76)); have NX : rx ≠ w1.heap.size := Nat.ne_of_lt (Nat.lt_of_lt_of_le HM.out.lt.1 hb1.size); have SZ : w1.heap.size < (w1.alloc (.cells #[.int .i64 op, .int .i64 d, .int .i64 a, .int .i64 b, .int .i64 imm] 76)).heap.size := (by simp); have k0 := new_cell w1 #[.int .i64 op, .int .i64 d, .int .i64 a, .int .i64 b, .int .i64 imm] 76 w1.heap.size 0 _ rfl rfl; have k1 := new_cell w1 #[.int .i64 op, .int .i64 d, .int .i64 a, .int .i64 b, .int .i64 imm] 76 w1.heap.size 1 _ rfl rfl; have k2 := new_cell w1 #[.int .i64 op, .int .i64 d, .int .i64 a, .int .i64 b, .int .i64 imm] 76 w1.heap.size 2 _ rfl rfl; have k3 := new_cell w1 #[.int .i64 op, .int .i64 d, .int .i64 a, .int .i64 b, .int .i64 imm] 76 w1.heap.size 3 _ rfl rfl; have k4 := new_cell w1 #[.int .i64 op, .int .i64 d, .int .i64 a, .int .i64 b, .int .i64 imm] 76 w1.heap.size 4 _ rfl rfl; have c0 := HW.out.pc; have c1 := HW.out.reg ha; have c2 := HW.out.reg hb; clear hb1)
    | (go_at_call 39; generalize w1.alloc (.cells #[.int .i64 op, .int .i64 d, .int .i64 a, .int .i64 b, .int .i64 imm] 76) = W at *; generalize w1.heap.size = g at *; (with_reducible refine (HZ.out _).mono ?_); rintro e w' ⟨rfl, rfl⟩)
    | (go_at_call 40; (with_reducible refine (HFN.out _).mono ?_); rintro e w' ⟨rfl, rfl⟩))
  go_quiet (fail)
  have HWU := Lib.hid (show RMach (W.drewN nq) rx rm rb rc V code s from HW.out.drewN nq)
  have BWU := Lib.hid (show But (TwoBlocks rx rb) w (W.drewN nq) from BW.out.drewN nq)
  replace SZ : g < (W.drewN nq).heap.size := SZ
  replace k0 : (W.drewN nq).cell? ⟨g, 0, none⟩ = _ := k0
  replace k1 : (W.drewN nq).cell? ⟨g, 1, none⟩ = _ := k1
  replace k2 : (W.drewN nq).cell? ⟨g, 2, none⟩ = _ := k2
  replace k3 : (W.drewN nq).cell? ⟨g, 3, none⟩ = _ := k3
  replace k4 : (W.drewN nq).cell? ⟨g, 4, none⟩ = _ := k4
  replace c0 : (W.drewN nq).cell? ⟨rx, 32, none⟩ = _ := c0
  replace c1 : (W.drewN nq).cell? ⟨rx, a, none⟩ = _ := c1
  replace c2 : (W.drewN nq).cell? ⟨rx, b, none⟩ = _ := c2
  clear HW BW
  generalize W.drewN nq = U at *
  go_wp2_with (go_at_call 43; (with_reducible refine (HT.out _).mono ?_); rintro e w2 ⟨rfl, hb2⟩; have HW2 := Lib.hid (HWU.out.below hb2); have BW2 := Lib.hid (BWU.out.trans (But.of_below hb2)); replace k0 := (hb2.cell (p := ⟨g, 0, none⟩) SZ).trans k0; replace k1 := (hb2.cell (p := ⟨g, 1, none⟩) SZ).trans k1; replace k2 := (hb2.cell (p := ⟨g, 2, none⟩) SZ).trans k2; replace k3 := (hb2.cell (p := ⟨g, 3, none⟩) SZ).trans k3; replace k4 := (hb2.cell (p := ⟨g, 4, none⟩) SZ).trans k4; replace c0 := (hb2.cell (p := ⟨rx, 32, none⟩) HWU.out.lt.1).trans c0; replace c1 := (hb2.cell (p := ⟨rx, a, none⟩) HWU.out.lt.1).trans c1; replace c2 := (hb2.cell (p := ⟨rx, b, none⟩) HWU.out.lt.1).trans c2; replace SZ := Nat.lt_of_lt_of_le SZ hb2.size; clear hb2)
  go_quiet ((go_at_call 44; with_reducible exact quiet_left3 (HD.out _)))
  have HWX := Lib.hid (show RMach (w2.drewN nq) rx rm rb rc V code s from HW2.out.drewN nq)
  have BWX := Lib.hid (show But (TwoBlocks rx rb) w (w2.drewN nq) from BW2.out.drewN nq)
  replace SZ : g < (w2.drewN nq).heap.size := SZ
  replace k0 : (w2.drewN nq).cell? ⟨g, 0, none⟩ = _ := k0
  replace k1 : (w2.drewN nq).cell? ⟨g, 1, none⟩ = _ := k1
  replace k2 : (w2.drewN nq).cell? ⟨g, 2, none⟩ = _ := k2
  replace k3 : (w2.drewN nq).cell? ⟨g, 3, none⟩ = _ := k3
  replace k4 : (w2.drewN nq).cell? ⟨g, 4, none⟩ = _ := k4
  replace c0 : (w2.drewN nq).cell? ⟨rx, 32, none⟩ = _ := c0
  replace c1 : (w2.drewN nq).cell? ⟨rx, a, none⟩ = _ := c1
  replace c2 : (w2.drewN nq).cell? ⟨rx, b, none⟩ = _ := c2
  clear HW2 BW2
  generalize w2.drewN nq = X at *
  go_wp2_with fail
  go_quiet ((go_at_call 45; with_reducible exact quiet_left3 (HHF.out _)))
  have HWY := Lib.hid (show RMach (X.drewN nq) rx rm rb rc V code s from HWX.out.drewN nq)
  have BWY := Lib.hid (show But (TwoBlocks rx rb) w (X.drewN nq) from BWX.out.drewN nq)
  replace SZ : g < (X.drewN nq).heap.size := SZ
  replace k0 : (X.drewN nq).cell? ⟨g, 0, none⟩ = _ := k0
  replace k1 : (X.drewN nq).cell? ⟨g, 1, none⟩ = _ := k1
  replace k2 : (X.drewN nq).cell? ⟨g, 2, none⟩ = _ := k2
  replace k3 : (X.drewN nq).cell? ⟨g, 3, none⟩ = _ := k3
  replace k4 : (X.drewN nq).cell? ⟨g, 4, none⟩ = _ := k4
  replace c0 : (X.drewN nq).cell? ⟨rx, 32, none⟩ = _ := c0
  replace c1 : (X.drewN nq).cell? ⟨rx, a, none⟩ = _ := c1
  replace c2 : (X.drewN nq).cell? ⟨rx, b, none⟩ = _ := c2
  clear HWX BWX
  generalize X.drewN nq = Y at *
  have hset := rSet_any HWY.out (d : Int) v hv
  rw [if_pos (⟨by omega, by omega⟩ : (0 : Int) ≤ (d : Int) ∧ (d : Int) < 32)] at hset
  have HSET := Lib.hid hset
  clear hset
  go_wp2_with (go_at_call 18; (with_reducible refine HSET.out.mono ?_); rintro e w3 ⟨rfl, hm, hb3⟩; have M3 := Lib.hid hm; have B3 := Lib.hid (BWY.out.trans hb3.two1); have d1 : w3.cell? ⟨rx, 32, none⟩ = some (.int .u64 s.pc) := (M3.out.pc).trans (by rw [set_pc]); have d2 := M3.out.free 32; clear hm hb3)
  go_ret
  exact ⟨rfl, M3.out.setPc hnb, B3.out.setCell (p := ⟨rx, 32, none⟩) (.inl (.inl rfl)) _⟩
set_option maxRecDepth 100000 in
set_option maxHeartbeats 8000000 in
theorem rexec_Ido (h : RMach w rx rm rb rc V code s) {op : Int} (imm : Int) (d a b : Nat) (hd : d < 32) (ha : a < 32) (hb : b < 32) (o1 : 22 ≤ op) (o2 : op ≤ 62) (hh : halfOp op = false) (tx : ByteArray) (hT : ∀ u, Calls Tryz.prog 43 #[.int .i64 op] u (TextDone u tx)) (hR : (tx.toList == [82]) = false) (hf : Calls Tryz.prog 38 #[.pointer (some ⟨rx, 0, none⟩)] w (RFetchDone w (.agg #[.int .i64 op, .int .i64 d, .int .i64 a, .int .i64 b, .int .i64 imm]) 0)) :
    Calls Tryz.prog 14 #[.pointer (some ⟨rx, 0, none⟩)] w (REffDone rx rm rb rc V code w (0, (s.set d (doV (fnV op) (s.r a) (w64 imm))).at' (nextV s))) := by
  have HM := Lib.hid h
  have HF := Lib.hid hf
  have hnx : IntKind.u64.wrap (s.pc + 4) = nextV s := wrap_w64 _
  have hnb : InW (nextV s) := nextV_bd s
  have a0 : (0 : Int) ≤ (a : Int) := by omega
  have a1 : (a : Int) < 32 := by omega
  have b0 : (0 : Int) ≤ (b : Int) := by omega
  have b1 : (b : Int) < 32 := by omega
  have hz0 : sizeV op = 0 := by
    unfold sizeV
    rw [if_neg (by omega), if_neg (by omega), if_neg (by omega), if_neg (by omega)]
  have HZ := Lib.hid (fun u => sizes_any (op := op) (by omega) u)
  rw [hz0] at HZ
  have HFN := Lib.hid (fun u => function_any (op := op) (by omega) u)
  rw [hh] at HFN
  have e63 : (op == 63) = false := ne_beq (by omega)
  have e1 : (op == 1) = false := ne_beq (by omega)
  have e2 : (op == 2) = false := ne_beq (by omega)
  have e10 : ¬ op ≤ 10 := by omega
  have hi : IntKind.u64.wrap imm = w64 imm := wrap_w64 imm
  have hyb : InW (w64 imm) := w64_bd imm
  have hdo := fun u => rdo_any (fnV op) (s.r a) (w64 imm) u (h.ok.r a).1 (h.ok.r a).2 hyb.1 hyb.2
  have HD := Lib.hid hdo
  have hv : InW (doV (fnV op) (s.r a) (w64 imm)) := doV_bd (h.ok.r a).1 (h.ok.r a).2 hyb.1 hyb.2
  generalize doV (fnV op) (s.r a) (w64 imm) = v at *
  generalize signedOp op = sg at HZ
  generalize fnV op = fn at *
  generalize w64 imm = y at *
  generalize hq : nextV s = q at *
  have HT := Lib.hid hT
  clear h hf hdo hT hz0 hh hyb hq
  go_enter Tryz.func14, Tryz.ntmps14
  go_wp2_with (first
    | (go_at_call 38; (with_reducible refine HF.out.mono ?_); rintro e w1 ⟨rfl, hb1⟩; have HW := Lib.hid ((HM.out.below hb1).alloc (.cells #[.int .i64 op, .int .i64 d, .int .i64 a, .int .i64 b, .int .i64 imm] 76)); have BW := Lib.hid ((But.of_below (R := TwoBlocks rx rb) hb1).alloc (.cells #[.int .i64 op, .int .i64 d, .int .i64 a, .int .i64 b, .int .i64 imm] 76)); have NX : rx ≠ w1.heap.size := Nat.ne_of_lt (Nat.lt_of_lt_of_le HM.out.lt.1 hb1.size); have SZ : w1.heap.size < (w1.alloc (.cells #[.int .i64 op, .int .i64 d, .int .i64 a, .int .i64 b, .int .i64 imm] 76)).heap.size := (by simp); have k0 := new_cell w1 #[.int .i64 op, .int .i64 d, .int .i64 a, .int .i64 b, .int .i64 imm] 76 w1.heap.size 0 _ rfl rfl; have k1 := new_cell w1 #[.int .i64 op, .int .i64 d, .int .i64 a, .int .i64 b, .int .i64 imm] 76 w1.heap.size 1 _ rfl rfl; have k2 := new_cell w1 #[.int .i64 op, .int .i64 d, .int .i64 a, .int .i64 b, .int .i64 imm] 76 w1.heap.size 2 _ rfl rfl; have k3 := new_cell w1 #[.int .i64 op, .int .i64 d, .int .i64 a, .int .i64 b, .int .i64 imm] 76 w1.heap.size 3 _ rfl rfl; have k4 := new_cell w1 #[.int .i64 op, .int .i64 d, .int .i64 a, .int .i64 b, .int .i64 imm] 76 w1.heap.size 4 _ rfl rfl; have c0 := HW.out.pc; have c1 := HW.out.reg ha; have c2 := HW.out.reg hb; clear hb1)
    | (go_at_call 39; generalize w1.alloc (.cells #[.int .i64 op, .int .i64 d, .int .i64 a, .int .i64 b, .int .i64 imm] 76) = W at *; generalize w1.heap.size = g at *; (with_reducible refine (HZ.out _).mono ?_); rintro e w' ⟨rfl, rfl⟩)
    | (go_at_call 40; (with_reducible refine (HFN.out _).mono ?_); rintro e w' ⟨rfl, rfl⟩))
  go_quiet (fail)
  have HWU := Lib.hid (show RMach (W.drewN nq) rx rm rb rc V code s from HW.out.drewN nq)
  have BWU := Lib.hid (show But (TwoBlocks rx rb) w (W.drewN nq) from BW.out.drewN nq)
  replace SZ : g < (W.drewN nq).heap.size := SZ
  replace k0 : (W.drewN nq).cell? ⟨g, 0, none⟩ = _ := k0
  replace k1 : (W.drewN nq).cell? ⟨g, 1, none⟩ = _ := k1
  replace k2 : (W.drewN nq).cell? ⟨g, 2, none⟩ = _ := k2
  replace k3 : (W.drewN nq).cell? ⟨g, 3, none⟩ = _ := k3
  replace k4 : (W.drewN nq).cell? ⟨g, 4, none⟩ = _ := k4
  replace c0 : (W.drewN nq).cell? ⟨rx, 32, none⟩ = _ := c0
  replace c1 : (W.drewN nq).cell? ⟨rx, a, none⟩ = _ := c1
  replace c2 : (W.drewN nq).cell? ⟨rx, b, none⟩ = _ := c2
  clear HW BW
  generalize W.drewN nq = U at *
  go_wp2_with (go_at_call 43; (with_reducible refine (HT.out _).mono ?_); rintro e w2 ⟨rfl, hb2⟩; have HW2 := Lib.hid (HWU.out.below hb2); have BW2 := Lib.hid (BWU.out.trans (But.of_below hb2)); replace k0 := (hb2.cell (p := ⟨g, 0, none⟩) SZ).trans k0; replace k1 := (hb2.cell (p := ⟨g, 1, none⟩) SZ).trans k1; replace k2 := (hb2.cell (p := ⟨g, 2, none⟩) SZ).trans k2; replace k3 := (hb2.cell (p := ⟨g, 3, none⟩) SZ).trans k3; replace k4 := (hb2.cell (p := ⟨g, 4, none⟩) SZ).trans k4; replace c0 := (hb2.cell (p := ⟨rx, 32, none⟩) HWU.out.lt.1).trans c0; replace c1 := (hb2.cell (p := ⟨rx, a, none⟩) HWU.out.lt.1).trans c1; replace c2 := (hb2.cell (p := ⟨rx, b, none⟩) HWU.out.lt.1).trans c2; replace SZ := Nat.lt_of_lt_of_le SZ hb2.size; clear hb2)
  go_quiet ((go_at_call 44; with_reducible exact quiet_left3 (HD.out _)))
  have HWX := Lib.hid (show RMach (w2.drewN nq) rx rm rb rc V code s from HW2.out.drewN nq)
  have BWX := Lib.hid (show But (TwoBlocks rx rb) w (w2.drewN nq) from BW2.out.drewN nq)
  replace SZ : g < (w2.drewN nq).heap.size := SZ
  replace k0 : (w2.drewN nq).cell? ⟨g, 0, none⟩ = _ := k0
  replace k1 : (w2.drewN nq).cell? ⟨g, 1, none⟩ = _ := k1
  replace k2 : (w2.drewN nq).cell? ⟨g, 2, none⟩ = _ := k2
  replace k3 : (w2.drewN nq).cell? ⟨g, 3, none⟩ = _ := k3
  replace k4 : (w2.drewN nq).cell? ⟨g, 4, none⟩ = _ := k4
  replace c0 : (w2.drewN nq).cell? ⟨rx, 32, none⟩ = _ := c0
  replace c1 : (w2.drewN nq).cell? ⟨rx, a, none⟩ = _ := c1
  replace c2 : (w2.drewN nq).cell? ⟨rx, b, none⟩ = _ := c2
  clear HW2 BW2
  generalize w2.drewN nq = X at *
  have hset := rSet_any HWX.out (d : Int) v hv
  rw [if_pos (⟨by omega, by omega⟩ : (0 : Int) ≤ (d : Int) ∧ (d : Int) < 32)] at hset
  have HSET := Lib.hid hset
  clear hset
  go_wp2_with (go_at_call 18; (with_reducible refine HSET.out.mono ?_); rintro e w3 ⟨rfl, hm, hb3⟩; have M3 := Lib.hid hm; have B3 := Lib.hid (BWX.out.trans hb3.two1); have d1 : w3.cell? ⟨rx, 32, none⟩ = some (.int .u64 s.pc) := (M3.out.pc).trans (by rw [set_pc]); have d2 := M3.out.free 32; clear hm hb3)
  go_ret
  exact ⟨rfl, M3.out.setPc hnb, B3.out.setCell (p := ⟨rx, 32, none⟩) (.inl (.inl rfl)) _⟩
set_option maxRecDepth 100000 in
set_option maxHeartbeats 8000000 in
theorem rexec_Ihalf (h : RMach w rx rm rb rc V code s) {op : Int} (imm : Int) (d a b : Nat) (hd : d < 32) (ha : a < 32) (hb : b < 32) (o1 : 22 ≤ op) (o2 : op ≤ 62) (hh : halfOp op = true) (tx : ByteArray) (hT : ∀ u, Calls Tryz.prog 43 #[.int .i64 op] u (TextDone u tx)) (hR : (tx.toList == [82]) = false) (hf : Calls Tryz.prog 38 #[.pointer (some ⟨rx, 0, none⟩)] w (RFetchDone w (.agg #[.int .i64 op, .int .i64 d, .int .i64 a, .int .i64 b, .int .i64 imm]) 0)) :
    Calls Tryz.prog 14 #[.pointer (some ⟨rx, 0, none⟩)] w (REffDone rx rm rb rc V code w (0, (s.set d (halfV (fnV op) (s.r a) (w64 imm))).at' (nextV s))) := by
  have HM := Lib.hid h
  have HF := Lib.hid hf
  have hnx : IntKind.u64.wrap (s.pc + 4) = nextV s := wrap_w64 _
  have hnb : InW (nextV s) := nextV_bd s
  have a0 : (0 : Int) ≤ (a : Int) := by omega
  have a1 : (a : Int) < 32 := by omega
  have b0 : (0 : Int) ≤ (b : Int) := by omega
  have b1 : (b : Int) < 32 := by omega
  have hz0 : sizeV op = 0 := by
    unfold sizeV
    rw [if_neg (by omega), if_neg (by omega), if_neg (by omega), if_neg (by omega)]
  have HZ := Lib.hid (fun u => sizes_any (op := op) (by omega) u)
  rw [hz0] at HZ
  have HFN := Lib.hid (fun u => function_any (op := op) (by omega) u)
  rw [hh] at HFN
  have e63 : (op == 63) = false := ne_beq (by omega)
  have e1 : (op == 1) = false := ne_beq (by omega)
  have e2 : (op == 2) = false := ne_beq (by omega)
  have e10 : ¬ op ≤ 10 := by omega
  have hi : IntKind.u64.wrap imm = w64 imm := wrap_w64 imm
  have hyb : InW (w64 imm) := w64_bd imm
  have hdo := fun u => rdo_any (fnV op) (s.r a) (w64 imm) u (h.ok.r a).1 (h.ok.r a).2 hyb.1 hyb.2
  have HD := Lib.hid hdo
  have hhf := fun u => rhalf_any (fnV op) (s.r a) (w64 imm) u (h.ok.r a).1 (h.ok.r a).2 hyb.1 hyb.2
  have HHF := Lib.hid hhf
  have hv : InW (halfV (fnV op) (s.r a) (w64 imm)) := halfV_bd
  clear hhf
  generalize halfV (fnV op) (s.r a) (w64 imm) = v at *
  generalize signedOp op = sg at HZ
  generalize fnV op = fn at *
  generalize w64 imm = y at *
  generalize hq : nextV s = q at *
  have HT := Lib.hid hT
  clear h hf hdo hT hz0 hh hyb hq
  go_enter Tryz.func14, Tryz.ntmps14
  go_wp2_with (first
    | (go_at_call 38; (with_reducible refine HF.out.mono ?_); rintro e w1 ⟨rfl, hb1⟩; have HW := Lib.hid ((HM.out.below hb1).alloc (.cells #[.int .i64 op, .int .i64 d, .int .i64 a, .int .i64 b, .int .i64 imm] 76)); have BW := Lib.hid ((But.of_below (R := TwoBlocks rx rb) hb1).alloc (.cells #[.int .i64 op, .int .i64 d, .int .i64 a, .int .i64 b, .int .i64 imm] 76)); have NX : rx ≠ w1.heap.size := Nat.ne_of_lt (Nat.lt_of_lt_of_le HM.out.lt.1 hb1.size); have SZ : w1.heap.size < (w1.alloc (.cells #[.int .i64 op, .int .i64 d, .int .i64 a, .int .i64 b, .int .i64 imm] 76)).heap.size := (by simp); have k0 := new_cell w1 #[.int .i64 op, .int .i64 d, .int .i64 a, .int .i64 b, .int .i64 imm] 76 w1.heap.size 0 _ rfl rfl; have k1 := new_cell w1 #[.int .i64 op, .int .i64 d, .int .i64 a, .int .i64 b, .int .i64 imm] 76 w1.heap.size 1 _ rfl rfl; have k2 := new_cell w1 #[.int .i64 op, .int .i64 d, .int .i64 a, .int .i64 b, .int .i64 imm] 76 w1.heap.size 2 _ rfl rfl; have k3 := new_cell w1 #[.int .i64 op, .int .i64 d, .int .i64 a, .int .i64 b, .int .i64 imm] 76 w1.heap.size 3 _ rfl rfl; have k4 := new_cell w1 #[.int .i64 op, .int .i64 d, .int .i64 a, .int .i64 b, .int .i64 imm] 76 w1.heap.size 4 _ rfl rfl; have c0 := HW.out.pc; have c1 := HW.out.reg ha; have c2 := HW.out.reg hb; clear hb1)
    | (go_at_call 39; generalize w1.alloc (.cells #[.int .i64 op, .int .i64 d, .int .i64 a, .int .i64 b, .int .i64 imm] 76) = W at *; generalize w1.heap.size = g at *; (with_reducible refine (HZ.out _).mono ?_); rintro e w' ⟨rfl, rfl⟩)
    | (go_at_call 40; (with_reducible refine (HFN.out _).mono ?_); rintro e w' ⟨rfl, rfl⟩))
  go_quiet (fail)
  have HWU := Lib.hid (show RMach (W.drewN nq) rx rm rb rc V code s from HW.out.drewN nq)
  have BWU := Lib.hid (show But (TwoBlocks rx rb) w (W.drewN nq) from BW.out.drewN nq)
  replace SZ : g < (W.drewN nq).heap.size := SZ
  replace k0 : (W.drewN nq).cell? ⟨g, 0, none⟩ = _ := k0
  replace k1 : (W.drewN nq).cell? ⟨g, 1, none⟩ = _ := k1
  replace k2 : (W.drewN nq).cell? ⟨g, 2, none⟩ = _ := k2
  replace k3 : (W.drewN nq).cell? ⟨g, 3, none⟩ = _ := k3
  replace k4 : (W.drewN nq).cell? ⟨g, 4, none⟩ = _ := k4
  replace c0 : (W.drewN nq).cell? ⟨rx, 32, none⟩ = _ := c0
  replace c1 : (W.drewN nq).cell? ⟨rx, a, none⟩ = _ := c1
  replace c2 : (W.drewN nq).cell? ⟨rx, b, none⟩ = _ := c2
  clear HW BW
  generalize W.drewN nq = U at *
  go_wp2_with (go_at_call 43; (with_reducible refine (HT.out _).mono ?_); rintro e w2 ⟨rfl, hb2⟩; have HW2 := Lib.hid (HWU.out.below hb2); have BW2 := Lib.hid (BWU.out.trans (But.of_below hb2)); replace k0 := (hb2.cell (p := ⟨g, 0, none⟩) SZ).trans k0; replace k1 := (hb2.cell (p := ⟨g, 1, none⟩) SZ).trans k1; replace k2 := (hb2.cell (p := ⟨g, 2, none⟩) SZ).trans k2; replace k3 := (hb2.cell (p := ⟨g, 3, none⟩) SZ).trans k3; replace k4 := (hb2.cell (p := ⟨g, 4, none⟩) SZ).trans k4; replace c0 := (hb2.cell (p := ⟨rx, 32, none⟩) HWU.out.lt.1).trans c0; replace c1 := (hb2.cell (p := ⟨rx, a, none⟩) HWU.out.lt.1).trans c1; replace c2 := (hb2.cell (p := ⟨rx, b, none⟩) HWU.out.lt.1).trans c2; replace SZ := Nat.lt_of_lt_of_le SZ hb2.size; clear hb2)
  go_quiet ((go_at_call 44; with_reducible exact quiet_left3 (HD.out _)))
  have HWX := Lib.hid (show RMach (w2.drewN nq) rx rm rb rc V code s from HW2.out.drewN nq)
  have BWX := Lib.hid (show But (TwoBlocks rx rb) w (w2.drewN nq) from BW2.out.drewN nq)
  replace SZ : g < (w2.drewN nq).heap.size := SZ
  replace k0 : (w2.drewN nq).cell? ⟨g, 0, none⟩ = _ := k0
  replace k1 : (w2.drewN nq).cell? ⟨g, 1, none⟩ = _ := k1
  replace k2 : (w2.drewN nq).cell? ⟨g, 2, none⟩ = _ := k2
  replace k3 : (w2.drewN nq).cell? ⟨g, 3, none⟩ = _ := k3
  replace k4 : (w2.drewN nq).cell? ⟨g, 4, none⟩ = _ := k4
  replace c0 : (w2.drewN nq).cell? ⟨rx, 32, none⟩ = _ := c0
  replace c1 : (w2.drewN nq).cell? ⟨rx, a, none⟩ = _ := c1
  replace c2 : (w2.drewN nq).cell? ⟨rx, b, none⟩ = _ := c2
  clear HW2 BW2
  generalize w2.drewN nq = X at *
  go_wp2_with fail
  go_quiet ((go_at_call 45; with_reducible exact quiet_left3 (HHF.out _)))
  have HWY := Lib.hid (show RMach (X.drewN nq) rx rm rb rc V code s from HWX.out.drewN nq)
  have BWY := Lib.hid (show But (TwoBlocks rx rb) w (X.drewN nq) from BWX.out.drewN nq)
  replace SZ : g < (X.drewN nq).heap.size := SZ
  replace k0 : (X.drewN nq).cell? ⟨g, 0, none⟩ = _ := k0
  replace k1 : (X.drewN nq).cell? ⟨g, 1, none⟩ = _ := k1
  replace k2 : (X.drewN nq).cell? ⟨g, 2, none⟩ = _ := k2
  replace k3 : (X.drewN nq).cell? ⟨g, 3, none⟩ = _ := k3
  replace k4 : (X.drewN nq).cell? ⟨g, 4, none⟩ = _ := k4
  replace c0 : (X.drewN nq).cell? ⟨rx, 32, none⟩ = _ := c0
  replace c1 : (X.drewN nq).cell? ⟨rx, a, none⟩ = _ := c1
  replace c2 : (X.drewN nq).cell? ⟨rx, b, none⟩ = _ := c2
  clear HWX BWX
  generalize X.drewN nq = Y at *
  have hset := rSet_any HWY.out (d : Int) v hv
  rw [if_pos (⟨by omega, by omega⟩ : (0 : Int) ≤ (d : Int) ∧ (d : Int) < 32)] at hset
  have HSET := Lib.hid hset
  clear hset
  go_wp2_with (go_at_call 18; (with_reducible refine HSET.out.mono ?_); rintro e w3 ⟨rfl, hm, hb3⟩; have M3 := Lib.hid hm; have B3 := Lib.hid (BWY.out.trans hb3.two1); have d1 : w3.cell? ⟨rx, 32, none⟩ = some (.int .u64 s.pc) := (M3.out.pc).trans (by rw [set_pc]); have d2 := M3.out.free 32; clear hm hb3)
  go_ret
  exact ⟨rfl, M3.out.setPc hnb, B3.out.setCell (p := ⟨rx, 32, none⟩) (.inl (.inl rfl)) _⟩
end
end Go.Proofs.YtnaceogkaiodnaaGreat

