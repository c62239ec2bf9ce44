/- An instruction encoded, checked, named: the contracts of rvcode.Encode, Check, Name and Form, for any numbers. No condition but that the numbers are the machine's. -/
import Derived.Test.YtcglfbjfllohjaaEncM03
import Derived.Test.YtcglfbjfllohjaaSplit03
import Derived.ChangeKeysEq
import Derived.Deep.RegionHeld3
namespace Go.Proofs.Ytcglfbjfllohjaa
open Go.RowKit
set_option linter.unusedVariables false

theorem eq4 (w : World) (a0 a1 a2 a3 b0 b1 b2 b3 : Int) : (Op.equalIn 10000 46 (.agg #[.int .i64 a0, .int .i64 a1, .int .i64 a2, .int .i64 a3]) (.agg #[.int .i64 b0, .int .i64 b1, .int .i64 b2, .int .i64 b3])).run Try.prog w = .ok (a0 == b0 && (a1 == b1 && (a2 == b2 && a3 == b3))) w := by
  have hc : Try.prog.cellsOf 3 = 1 := by kernel_rfl
  have hs : (Try.prog.info? 3).isSome = true := by kernel_rfl
  obtain ⟨i, hi⟩ := Option.isSome_iff_exists.1 hs
  rw [run_equalIn_array w 9999 _ _ Try.underlying46 hi, hc]
  have he : ∀ (a b : Int), (Op.equalIn 9999 3 (.int .i64 a) (.int .i64 b)).run Try.prog w = .ok (a == b) w := fun a b => run_equalIn_int w 9998 3 .i64 .i64 a b Try.underlying3
  have hr : List.range 4 = [0, 1, 2, 3] := rfl
  rw [hr]
  by_cases h0 : a0 = b0
  · by_cases h1 : a1 = b1
    · by_cases h2 : a2 = b2
      · by_cases h3 : a3 = b3 <;> simp [Op.eqItems, part, isAgg, run_underlying Try.underlying3, he, h0, h1, h2, h3]
      · simp [Op.eqItems, part, isAgg, run_underlying Try.underlying3, he, h0, h1, h2]
    · simp [Op.eqItems, part, isAgg, run_underlying Try.underlying3, he, h0, h1]
  · simp [Op.eqItems, part, isAgg, run_underlying Try.underlying3, he, h0]
def same4 (a0 a1 a2 a3 b0 b1 b2 b3 : Int) : Bool := a0 == b0 && (a1 == b1 && (a2 == b2 && a3 == b3))
theorem neq4 (w : World) (a0 a1 a2 a3 b0 b1 b2 b3 : Int) : (binOp .neq 46 (.agg #[.int .i64 a0, .int .i64 a1, .int .i64 a2, .int .i64 a3]) (.agg #[.int .i64 b0, .int .i64 b1, .int .i64 b2, .int .i64 b3])).run Try.prog w = .ok (.bool (!same4 a0 a1 a2 a3 b0 b1 b2 b3)) w := by
  rw [run_neq_struct, eq4]
  rfl
theorem same4_iff (f : RvForm) (rd rs1 rs2 imm : Int) {J : Int} (hJ : J = joinV (fdsV f.letter) (num4 rd rs1 rs2 imm)) :
    same4 (splitV (fdsV f.letter) J 0) (splitV (fdsV f.letter) J 1) (splitV (fdsV f.letter) J 2) (splitV (fdsV f.letter) J 3) rd rs1 rs2 imm = true ↔ Allowed f rd rs1 rs2 imm := by
  rw [← back_iff]
  unfold same4 BackSame
  rw [hJ]
  simp
theorem set4_cell {w : World} {g p j : Nat} {a b c d : Value} (h : p ≠ g) : ((((w.setCell ⟨g, 0, none⟩ a).setCell ⟨g, 1, none⟩ b).setCell ⟨g, 2, none⟩ c).setCell ⟨g, 3, none⟩ d).cell? ⟨p, j, none⟩ = w.cell? ⟨p, j, none⟩ :=
  World.cell?_of_block ((heap_setCell_other _ _ _ _ h).trans ((heap_setCell_other _ _ _ _ h).trans ((heap_setCell_other _ _ _ _ h).trans (heap_setCell_other _ _ _ _ h))))
/-- What Encode answers. -/
def EncDone (w : World) (x e0 : Int) (e : Ending) (w' : World) : Prop := e = .returned (.tuple #[.int .u32 x, .int .i64 e0]) ∧ Below w.heap.size w w'
theorem enc_out (op rd rs1 rs2 imm : Int) (w : World) (h : op < 1 ∨ 63 < op) : Calls Try.prog 10 #[.agg #[.int .i64 op, .int .i64 rd, .int .i64 rs1, .int .i64 rs2, .int .i64 imm]] w (EncDone w 0 2) := by
  have HC := Lib.hid (fun w => rowOf_no op w h)
  clear h
  go_enter Try.func10, Try.ntmps10
  go_wp2_with (go_at_call 23; (with_reducible refine (HC.out _).mono ?_); rintro e w1 ⟨rfl, hb⟩; have HB := Lib.hid hb; clear hb)
  go_ret2
  exact ⟨rfl, (((Below.refl _ _).alloc (Nat.le_refl _) _).trans (HB.out.mono (by simp))).alloc (by have := HB.out.size; simp at this; omega) _⟩
/-- What is known ahead of the word: the row, its fields, what is its own. -/
structure RowKnown (k : Nat) (s : ByteArray) (L a b c o m : Int) (l : List Fd) : Prop where
  row : ∀ w, Calls Try.prog 23 #[.int .i64 k] w fun e w' => e = .returned (.tuple #[.agg #[.string s, .int .u8 L, .int .u8 a, .int .u8 b, .int .u8 c], .bool true]) ∧ Below w.heap.size w w'
  fields : ∀ w, Calls Try.prog 24 #[.int .u8 L] w (FdsDone w l)
  own : ∀ w, Calls Try.prog 27 #[.agg #[.string s, .int .u8 L, .int .u8 a, .int .u8 b, .int .u8 c]] w (OwnDone w o m)
  len : l.length ≤ 6
theorem fds_len (f : RvForm) : (fdsV f.letter).length ≤ 6 := by cases f <;> decide
theorem row_known {k : Nat} (h : 1 ≤ k) (h' : k ≤ 63) : RowKnown k (nameB k) (letB k) (aB k) (bB k) (cB k) (ownV (rvRowN k).form (aB k) (bB k) (cB k)) (maskV (rvRowN k).form) (fdsV (rvRowN k).form.letter) := by
  obtain ⟨h1, h2, h3⟩ := row_bd h h'
  have hl := lim_256 (rvRowN k).form
  refine ⟨fun w => rowOf_yes k w h h', fun w => ?_, fun w => ?_, fds_len _⟩
  · rw [letB_form h]
    exact fields_any _ w
  · rw [letB_form h]
    exact own_any _ _ _ _ _ w (by omega) (by omega) (by omega) (by omega) (by omega) (by omega)
set_option maxHeartbeats 4000000 in
theorem enc_yes (k : Nat) (rd rs1 rs2 imm : Int) (s : ByteArray) (L a b c o m : Int) (l : List Fd) (J S0 S1 S2 S3 : Int) (w : World) (hK : RowKnown k s L a b c o m l) (i0 : InI rd) (i1 : InI rs1) (i2 : InI rs2) (i3 : InI imm)
    (hJ : joinV l (num4 rd rs1 rs2 imm) = J) (h0 : splitV l J 0 = S0) (h1 : splitV l J 1 = S1) (h2 : splitV l J 2 = S2) (h3 : splitV l J 3 = S3) (ht : same4 S0 S1 S2 S3 rd rs1 rs2 imm = true) :
    Calls Try.prog 10 #[.agg #[.int .i64 k, .int .i64 rd, .int .i64 rs1, .int .i64 rs2, .int .i64 imm]] w (EncDone w (bits .or .u32 o J) 0) := by
  have HK := Lib.hid hK
  have HJ := Lib.hid (fun A V w hV => join_any A V l rd rs1 rs2 imm w hV i0 i1 i2 i3 hK.len)
  rw [hJ] at HJ
  have HS := Lib.hid (fun A V w hV => split_any A V l J w hV (by rw [← hJ]; exact (joinV_bd _ _).1) (by rw [← hJ]; exact (joinV_bd _ _).2) hK.len)
  rw [h0, h1, h2, h3] at HS
  have hne := fun w => neq4 w S0 S1 S2 S3 rd rs1 rs2 imm
  rw [ht] at hne
  have hx0 : ∀ j v, #[Value.int .i64 k, .int .i64 rd, .int .i64 rs1, .int .i64 rs2, .int .i64 imm][j]? = some v → (w.alloc (.cells #[.int .i64 k, .int .i64 rd, .int .i64 rs1, .int .i64 rs2, .int .i64 imm] 23)).cell? ⟨w.heap.size, j, none⟩ = some v := fun j v hv => new_cell _ _ _ _ _ _ rfl hv
  have HX0 := Lib.hid hx0
  clear ht h0 h1 h2 h3 hJ hK i0 i1 i2 i3 hx0
  go_enter Try.func10, Try.ntmps10
  go_wp2_with (go_at_call 23; (with_reducible refine (HK.out.row _).mono ?_); rintro e w1 ⟨rfl, hb⟩; have HB := Lib.hid hb; clear hb)
  have hz1 : w.heap.size < w1.heap.size := by have := HB.out.size; simp at this; omega
  have hx : ∀ j v, #[Value.int .i64 k, .int .i64 rd, .int .i64 rs1, .int .i64 rs2, .int .i64 imm][j]? = some v → w1.cell? ⟨w.heap.size, j, none⟩ = some v := fun j v hv => (HB.out.cell (p := ⟨w.heap.size, j, none⟩) (by simp)).trans (HX0.out j v hv)
  have hk1 : (w1.alloc (.cells #[.string s, .int .u8 L, .int .u8 a, .int .u8 b, .int .u8 c] 40)).cell? ⟨w1.heap.size, 1, none⟩ = some (.int .u8 L) ∧ (w1.alloc (.cells #[.string s, .int .u8 L, .int .u8 a, .int .u8 b, .int .u8 c] 40)).cell? ⟨w.heap.size, 1, none⟩ = some (.int .i64 rd) ∧ (w1.alloc (.cells #[.string s, .int .u8 L, .int .u8 a, .int .u8 b, .int .u8 c] 40)).cell? ⟨w.heap.size, 2, none⟩ = some (.int .i64 rs1) ∧ (w1.alloc (.cells #[.string s, .int .u8 L, .int .u8 a, .int .u8 b, .int .u8 c] 40)).cell? ⟨w.heap.size, 3, none⟩ = some (.int .i64 rs2) ∧ (w1.alloc (.cells #[.string s, .int .u8 L, .int .u8 a, .int .u8 b, .int .u8 c] 40)).cell? ⟨w.heap.size, 4, none⟩ = some (.int .i64 imm) := ⟨new_cell _ _ _ _ _ _ rfl rfl, old_cell _ (hx 1 _ rfl), old_cell _ (hx 2 _ rfl), old_cell _ (hx 3 _ rfl), old_cell _ (hx 4 _ rfl)⟩
  have hr1 : (w1.alloc (.cells #[.string s, .int .u8 L, .int .u8 a, .int .u8 b, .int .u8 c] 40)).heap[w1.heap.size]? = some (.cells #[.string s, .int .u8 L, .int .u8 a, .int .u8 b, .int .u8 c] 40 (0, 0)) := heap_alloc_new _ _
  have hb1 : Below w.heap.size w (w1.alloc (.cells #[.string s, .int .u8 L, .int .u8 a, .int .u8 b, .int .u8 c] 40)) := (((Below.refl _ _).alloc (Nat.le_refl _) _).trans (HB.out.mono (by simp))).alloc (Nat.le_of_lt hz1) _
  have hz2 : w1.heap.size < (w1.alloc (.cells #[.string s, .int .u8 L, .int .u8 a, .int .u8 b, .int .u8 c] 40)).heap.size := by simp
  generalize w1.alloc (.cells #[.string s, .int .u8 L, .int .u8 a, .int .u8 b, .int .u8 c] 40) = W at *
  have HR1 := Lib.hid hr1
  have HB1 := Lib.hid hb1
  have HK1 := Lib.hid hk1
  clear hr1 hb1 hx
  go_region_held3 (fun w' => w'.cell? ⟨w1.heap.size, 1, none⟩ = some (.int .u8 L) ∧ w'.cell? ⟨w.heap.size, 1, none⟩ = some (.int .i64 rd) ∧ w'.cell? ⟨w.heap.size, 2, none⟩ = some (.int .i64 rs1) ∧ w'.cell? ⟨w.heap.size, 3, none⟩ = some (.int .i64 rs2) ∧ w'.cell? ⟨w.heap.size, 4, none⟩ = some (.int .i64 imm)) (first | with_reducible exact HK2.out | with_reducible exact ⟨(set4_cell (by omega)).trans HK2.out.1, (set4_cell (by omega)).trans HK2.out.2.1, (set4_cell (by omega)).trans HK2.out.2.2.1, (set4_cell (by omega)).trans HK2.out.2.2.2.1, (set4_cell (by omega)).trans HK2.out.2.2.2.2⟩ | with_reducible exact ⟨old_cell _ HK2.out.1, old_cell _ HK2.out.2.1, old_cell _ HK2.out.2.2.1, old_cell _ HK2.out.2.2.2.1, old_cell _ HK2.out.2.2.2.2⟩ | go_keep)
    (first
      | (go_at_call 24; (with_reducible refine (HK.out.fields _).mono ?_); rintro e w2 ⟨V, rfl, hV, hb⟩; have HK2 := Lib.hid (⟨(hb.cell (p := ⟨w1.heap.size, 1, none⟩) (by simp <;> omega)).trans (by go_simp), (hb.cell (p := ⟨w.heap.size, 1, none⟩) (by simp <;> omega)).trans (by go_simp), (hb.cell (p := ⟨w.heap.size, 2, none⟩) (by simp <;> omega)).trans (by go_simp), (hb.cell (p := ⟨w.heap.size, 3, none⟩) (by simp <;> omega)).trans (by go_simp), (hb.cell (p := ⟨w.heap.size, 4, none⟩) (by simp <;> omega)).trans (by go_simp)⟩ : w2.cell? ⟨w1.heap.size, 1, none⟩ = some (.int .u8 L) ∧ w2.cell? ⟨w.heap.size, 1, none⟩ = some (.int .i64 rd) ∧ w2.cell? ⟨w.heap.size, 2, none⟩ = some (.int .i64 rs1) ∧ w2.cell? ⟨w.heap.size, 3, none⟩ = some (.int .i64 rs2) ∧ w2.cell? ⟨w.heap.size, 4, none⟩ = some (.int .i64 imm)); obtain ⟨q1, q2⟩ := bcell hb; have HV := Lib.hid hV; have HB2 := Lib.hid hb; have z2 := hb.size; have z3 : w1.heap.size < w2.heap.size := (by simp at z2; omega); have z4 : w.heap.size < w2.heap.size := (by omega); have hk2 := HK2.out; clear hV hb))
  · have hN : NumAt (w2.alloc (.cells #[.int .i64 rd, .int .i64 rs1, .int .i64 rs2, .int .i64 imm] 46)) w2.heap.size (num4 rd rs1 rs2 imm) := heap_alloc_new _ _
    have hV3 : IsFds (w2.alloc (.cells #[.int .i64 rd, .int .i64 rs1, .int .i64 rs2, .int .i64 imm] 46)) W.drew.heap.size (w2.alloc (.cells #[.int .i64 rd, .int .i64 rs1, .int .i64 rs2, .int .i64 imm] 46)).heap.size V l := (HV.out.below ((Below.refl _ _).alloc (Nat.le_refl _) _) (Nat.le_refl _)).more (by simp) (Nat.le_refl _)
    have hR3 : (w2.alloc (.cells #[.int .i64 rd, .int .i64 rs1, .int .i64 rs2, .int .i64 imm] 46)).heap[w1.heap.size]? = some (.cells #[.string s, .int .u8 L, .int .u8 a, .int .u8 b, .int .u8 c] 40 (0, 0)) := (heap_alloc_old _ _ z3).trans ((HB2.out.block _ hz2).trans HR1.out)
    have hB3 : Below w.heap.size w (w2.alloc (.cells #[.int .i64 rd, .int .i64 rs1, .int .i64 rs2, .int .i64 imm] 46)) := (HB1.out.trans ((below_of_drew HB2.out).mono HB1.out.size)).alloc (by omega) _
    generalize w2.alloc (.cells #[.int .i64 rd, .int .i64 rs1, .int .i64 rs2, .int .i64 imm] 46) = W3 at *
    obtain ⟨p, hpe⟩ : ∃ p, p = w2.heap.size := ⟨_, rfl⟩
    rw [← hpe] at hN ⊢
    clear hpe HV HB2 q1 q2 z2 z3 z4 hk2 HK2 hk1 HK1 HB1 HR1
    try clear hHeld
    have hp := hN.lt
    have hN4 : W3.cell? ⟨p, 0, none⟩ = some (.int .i64 rd) ∧ W3.cell? ⟨p, 1, none⟩ = some (.int .i64 rs1) ∧ W3.cell? ⟨p, 2, none⟩ = some (.int .i64 rs2) ∧ W3.cell? ⟨p, 3, none⟩ = some (.int .i64 imm) := ⟨hN.cell (j := 0) (by omega), hN.cell (j := 1) (by omega), hN.cell (j := 2) (by omega), hN.cell (j := 3) (by omega)⟩
    have HV3 := Lib.hid hV3
    have HR3 := Lib.hid hR3
    have HB3 := Lib.hid hB3
    have HN4 := Lib.hid hN4
    obtain ⟨n0, n1, n2, n3⟩ := hN4
    clear hV3 hR3 hB3 hN
    go_wp2_with (go_at_call 25; (with_reducible refine (HJ.out _ _ _ HV3.out).mono ?_); rintro e w4 ⟨rfl, hb⟩; have B4 := Lib.hid hb; have y4 := hb.size; have g0 := (hb.cell (p := ⟨p, 0, none⟩) hp).trans HN4.out.1; have g1 := (hb.cell (p := ⟨p, 1, none⟩) hp).trans HN4.out.2.1; have g2 := (hb.cell (p := ⟨p, 2, none⟩) hp).trans HN4.out.2.2.1; have g3 := (hb.cell (p := ⟨p, 3, none⟩) hp).trans HN4.out.2.2.2; clear hb)
    have HV4 := Lib.hid ((HV3.out.below B4.out (Nat.le_refl _)).more B4.out.size (Nat.le_refl _))
    have HV5 := Lib.hid (IsFds.of_blocks (w' := w4.drew) HV4.out (fun _ _ _ => rfl))
    have HG := Lib.hid (show w4.cell? ⟨p, 0, none⟩ = some (.int .i64 rd) ∧ w4.cell? ⟨p, 1, none⟩ = some (.int .i64 rs1) ∧ w4.cell? ⟨p, 2, none⟩ = some (.int .i64 rs2) ∧ w4.cell? ⟨p, 3, none⟩ = some (.int .i64 imm) from ⟨g0, g1, g2, g3⟩)
    have hp4 : p < w4.heap.size := by omega
    go_region_held3 (fun w' => w'.cell? ⟨p, 0, none⟩ = some (.int .i64 rd) ∧ w'.cell? ⟨p, 1, none⟩ = some (.int .i64 rs1) ∧ w'.cell? ⟨p, 2, none⟩ = some (.int .i64 rs2) ∧ w'.cell? ⟨p, 3, none⟩ = some (.int .i64 imm)) (first | go_keep | with_reducible exact HG5.out)
      (first
        | (go_at_call 26; (with_reducible refine (HS.out _ _ _ HV5.out).mono ?_); rintro e w5 ⟨rfl, hb⟩; have B5 := Lib.hid (below_of_drew hb); have HG5 := Lib.hid (⟨(hb.cell (p := ⟨p, 0, none⟩) hp4).trans HG.out.1, (hb.cell (p := ⟨p, 1, none⟩) hp4).trans HG.out.2.1, (hb.cell (p := ⟨p, 2, none⟩) hp4).trans HG.out.2.2.1, (hb.cell (p := ⟨p, 3, none⟩) hp4).trans HG.out.2.2.2⟩ : w5.cell? ⟨p, 0, none⟩ = some (.int .i64 rd) ∧ w5.cell? ⟨p, 1, none⟩ = some (.int .i64 rs1) ∧ w5.cell? ⟨p, 2, none⟩ = some (.int .i64 rs2) ∧ w5.cell? ⟨p, 3, none⟩ = some (.int .i64 imm)); clear hb))
    have hr5 : w5.heap[w1.heap.size]? = some (.cells #[.string s, .int .u8 L, .int .u8 a, .int .u8 b, .int .u8 c] 40 (0, 0)) := by
      rw [B5.out.block _ (show w1.heap.size < w4.heap.size by have := heap_lt HR3.out; omega), B4.out.block _ (heap_lt HR3.out)]
      exact HR3.out
    have r0 : w5.cell? ⟨w1.heap.size, 0, none⟩ = some (.string s) := cell_of_row _ _ _ _ _ _ hr5
    have r1 : w5.cell? ⟨w1.heap.size, 1, none⟩ = some (.int .u8 L) := cell_of_row _ _ _ _ _ _ hr5
    have r2 : w5.cell? ⟨w1.heap.size, 2, none⟩ = some (.int .u8 a) := cell_of_row _ _ _ _ _ _ hr5
    have r3 : w5.cell? ⟨w1.heap.size, 3, none⟩ = some (.int .u8 b) := cell_of_row _ _ _ _ _ _ hr5
    have r4 : w5.cell? ⟨w1.heap.size, 4, none⟩ = some (.int .u8 c) := cell_of_row _ _ _ _ _ _ hr5
    clear hr5
    go_wp2_with (go_at_call 27; (with_reducible refine (HK.out.own _).mono ?_); rintro e w6 ⟨rfl, hb⟩; have B6 := Lib.hid hb; clear hb)
    go_ret2
    exact ⟨rfl, HB3.out.trans ((B4.out.trans ((B5.out.trans (B6.out.mono B5.out.size)).mono B4.out.size)).mono HB3.out.size)⟩
  · have hw2 : NumAt w2 W.heap.size (fun _ => 0) := by
      unfold NumAt
      rw [HB2.out.block _ (show W.heap.size < _ by simp)]
      exact heap_alloc_new W _
    have hN : NumAt ((((w2.setCell ⟨W.heap.size, 0, none⟩ (.int .i64 rd)).setCell ⟨W.heap.size, 1, none⟩ (.int .i64 rs1)).setCell ⟨W.heap.size, 2, none⟩ (.int .i64 rs2)).setCell ⟨W.heap.size, 3, none⟩ (.int .i64 imm)) W.heap.size (num4 rd rs1 rs2 imm) := by
      have h4 := (((hw2.set (j := 0) (by omega) rd).set (j := 1) (by omega) rs1).set (j := 2) (by omega) rs2).set (j := 3) (by omega) imm
      exact h4
    have hV3 : IsFds ((((w2.setCell ⟨W.heap.size, 0, none⟩ (.int .i64 rd)).setCell ⟨W.heap.size, 1, none⟩ (.int .i64 rs1)).setCell ⟨W.heap.size, 2, none⟩ (.int .i64 rs2)).setCell ⟨W.heap.size, 3, none⟩ (.int .i64 imm)) (W.heap.size + 1) ((((w2.setCell ⟨W.heap.size, 0, none⟩ (.int .i64 rd)).setCell ⟨W.heap.size, 1, none⟩ (.int .i64 rs1)).setCell ⟨W.heap.size, 2, none⟩ (.int .i64 rs2)).setCell ⟨W.heap.size, 3, none⟩ (.int .i64 imm)).heap.size V l :=
      (IsFds.of_blocks (HV.out.more (Nat.le_refl _) (show W.heap.size + 1 ≤ _ by simp)) (fun k hk _ => (heap_setCell_other _ _ _ _ (by show k ≠ W.heap.size; omega)).trans ((heap_setCell_other _ _ _ _ (by show k ≠ W.heap.size; omega)).trans ((heap_setCell_other _ _ _ _ (by show k ≠ W.heap.size; omega)).trans (heap_setCell_other _ _ _ _ (by show k ≠ W.heap.size; omega)))))).more (by simp) (Nat.le_refl _)
    have hR3 : ((((w2.setCell ⟨W.heap.size, 0, none⟩ (.int .i64 rd)).setCell ⟨W.heap.size, 1, none⟩ (.int .i64 rs1)).setCell ⟨W.heap.size, 2, none⟩ (.int .i64 rs2)).setCell ⟨W.heap.size, 3, none⟩ (.int .i64 imm)).heap[w1.heap.size]? = some (.cells #[.string s, .int .u8 L, .int .u8 a, .int .u8 b, .int .u8 c] 40 (0, 0)) :=
      ((heap_setCell_other _ _ _ _ (by show w1.heap.size ≠ W.heap.size; omega)).trans ((heap_setCell_other _ _ _ _ (by show w1.heap.size ≠ W.heap.size; omega)).trans ((heap_setCell_other _ _ _ _ (by show w1.heap.size ≠ W.heap.size; omega)).trans (heap_setCell_other _ _ _ _ (by show w1.heap.size ≠ W.heap.size; omega))))).trans ((HB2.out.block _ (show w1.heap.size < _ by simp; omega)).trans ((heap_alloc_old W _ hz2).trans HR1.out))
    have hB3 : Below w.heap.size w ((((w2.setCell ⟨W.heap.size, 0, none⟩ (.int .i64 rd)).setCell ⟨W.heap.size, 1, none⟩ (.int .i64 rs1)).setCell ⟨W.heap.size, 2, none⟩ (.int .i64 rs2)).setCell ⟨W.heap.size, 3, none⟩ (.int .i64 imm)) := by
      have h0 : Below w.heap.size w w2 := (HB1.out.alloc HB1.out.size _).trans ((below_of_drew HB2.out).mono (by simp; omega))
      have hle : w.heap.size ≤ W.heap.size := by omega
      exact (((h0.setCell (p := ⟨W.heap.size, 0, none⟩) hle _).setCell (p := ⟨W.heap.size, 1, none⟩) hle _).setCell (p := ⟨W.heap.size, 2, none⟩) hle _).setCell (p := ⟨W.heap.size, 3, none⟩) hle _
    generalize (((w2.setCell ⟨W.heap.size, 0, none⟩ (.int .i64 rd)).setCell ⟨W.heap.size, 1, none⟩ (.int .i64 rs1)).setCell ⟨W.heap.size, 2, none⟩ (.int .i64 rs2)).setCell ⟨W.heap.size, 3, none⟩ (.int .i64 imm) = W3 at *
    obtain ⟨p, hpe⟩ : ∃ p, p = W.heap.size := ⟨_, rfl⟩
    rw [← hpe] at hN ⊢
    clear hpe HV HB2 q1 q2 z2 z3 z4 hk2 HK2 hk1 HK1 HB1 HR1 hw2
    try clear hHeld
    have hp := hN.lt
    have hN4 : W3.cell? ⟨p, 0, none⟩ = some (.int .i64 rd) ∧ W3.cell? ⟨p, 1, none⟩ = some (.int .i64 rs1) ∧ W3.cell? ⟨p, 2, none⟩ = some (.int .i64 rs2) ∧ W3.cell? ⟨p, 3, none⟩ = some (.int .i64 imm) := ⟨hN.cell (j := 0) (by omega), hN.cell (j := 1) (by omega), hN.cell (j := 2) (by omega), hN.cell (j := 3) (by omega)⟩
    have HV3 := Lib.hid hV3
    have HR3 := Lib.hid hR3
    have HB3 := Lib.hid hB3
    have HN4 := Lib.hid hN4
    obtain ⟨n0, n1, n2, n3⟩ := hN4
    clear hV3 hR3 hB3 hN
    go_wp2_with (go_at_call 25; (with_reducible refine (HJ.out _ _ _ HV3.out).mono ?_); rintro e w4 ⟨rfl, hb⟩; have B4 := Lib.hid hb; have y4 := hb.size; have g0 := (hb.cell (p := ⟨p, 0, none⟩) hp).trans HN4.out.1; have g1 := (hb.cell (p := ⟨p, 1, none⟩) hp).trans HN4.out.2.1; have g2 := (hb.cell (p := ⟨p, 2, none⟩) hp).trans HN4.out.2.2.1; have g3 := (hb.cell (p := ⟨p, 3, none⟩) hp).trans HN4.out.2.2.2; clear hb)
    have HV4 := Lib.hid ((HV3.out.below B4.out (Nat.le_refl _)).more B4.out.size (Nat.le_refl _))
    have HV5 := Lib.hid (IsFds.of_blocks (w' := w4.drew) HV4.out (fun _ _ _ => rfl))
    have HG := Lib.hid (show w4.cell? ⟨p, 0, none⟩ = some (.int .i64 rd) ∧ w4.cell? ⟨p, 1, none⟩ = some (.int .i64 rs1) ∧ w4.cell? ⟨p, 2, none⟩ = some (.int .i64 rs2) ∧ w4.cell? ⟨p, 3, none⟩ = some (.int .i64 imm) from ⟨g0, g1, g2, g3⟩)
    have hp4 : p < w4.heap.size := by omega
    go_region_held3 (fun w' => w'.cell? ⟨p, 0, none⟩ = some (.int .i64 rd) ∧ w'.cell? ⟨p, 1, none⟩ = some (.int .i64 rs1) ∧ w'.cell? ⟨p, 2, none⟩ = some (.int .i64 rs2) ∧ w'.cell? ⟨p, 3, none⟩ = some (.int .i64 imm)) (first | go_keep | with_reducible exact HG5.out)
      (first
        | (go_at_call 26; (with_reducible refine (HS.out _ _ _ HV5.out).mono ?_); rintro e w5 ⟨rfl, hb⟩; have B5 := Lib.hid (below_of_drew hb); have HG5 := Lib.hid (⟨(hb.cell (p := ⟨p, 0, none⟩) hp4).trans HG.out.1, (hb.cell (p := ⟨p, 1, none⟩) hp4).trans HG.out.2.1, (hb.cell (p := ⟨p, 2, none⟩) hp4).trans HG.out.2.2.1, (hb.cell (p := ⟨p, 3, none⟩) hp4).trans HG.out.2.2.2⟩ : w5.cell? ⟨p, 0, none⟩ = some (.int .i64 rd) ∧ w5.cell? ⟨p, 1, none⟩ = some (.int .i64 rs1) ∧ w5.cell? ⟨p, 2, none⟩ = some (.int .i64 rs2) ∧ w5.cell? ⟨p, 3, none⟩ = some (.int .i64 imm)); clear hb))
    have hr5 : w5.heap[w1.heap.size]? = some (.cells #[.string s, .int .u8 L, .int .u8 a, .int .u8 b, .int .u8 c] 40 (0, 0)) := by
      rw [B5.out.block _ (show w1.heap.size < w4.heap.size by have := heap_lt HR3.out; omega), B4.out.block _ (heap_lt HR3.out)]
      exact HR3.out
    have r0 : w5.cell? ⟨w1.heap.size, 0, none⟩ = some (.string s) := cell_of_row _ _ _ _ _ _ hr5
    have r1 : w5.cell? ⟨w1.heap.size, 1, none⟩ = some (.int .u8 L) := cell_of_row _ _ _ _ _ _ hr5
    have r2 : w5.cell? ⟨w1.heap.size, 2, none⟩ = some (.int .u8 a) := cell_of_row _ _ _ _ _ _ hr5
    have r3 : w5.cell? ⟨w1.heap.size, 3, none⟩ = some (.int .u8 b) := cell_of_row _ _ _ _ _ _ hr5
    have r4 : w5.cell? ⟨w1.heap.size, 4, none⟩ = some (.int .u8 c) := cell_of_row _ _ _ _ _ _ hr5
    clear hr5
    go_wp2_with (go_at_call 27; (with_reducible refine (HK.out.own _).mono ?_); rintro e w6 ⟨rfl, hb⟩; have B6 := Lib.hid hb; clear hb)
    go_ret2
    exact ⟨rfl, HB3.out.trans ((B4.out.trans ((B5.out.trans (B6.out.mono B5.out.size)).mono B4.out.size)).mono HB3.out.size)⟩
set_option maxHeartbeats 4000000 in
theorem enc_no (k : Nat) (rd rs1 rs2 imm : Int) (s : ByteArray) (L a b c o m : Int) (l : List Fd) (J S0 S1 S2 S3 : Int) (w : World) (hK : RowKnown k s L a b c o m l) (i0 : InI rd) (i1 : InI rs1) (i2 : InI rs2) (i3 : InI imm)
    (hJ : joinV l (num4 rd rs1 rs2 imm) = J) (h0 : splitV l J 0 = S0) (h1 : splitV l J 1 = S1) (h2 : splitV l J 2 = S2) (h3 : splitV l J 3 = S3) (ht : same4 S0 S1 S2 S3 rd rs1 rs2 imm = false) :
    Calls Try.prog 10 #[.agg #[.int .i64 k, .int .i64 rd, .int .i64 rs1, .int .i64 rs2, .int .i64 imm]] w (EncDone w 0 2) := by
  have HK := Lib.hid hK
  have HJ := Lib.hid (fun A V w hV => join_any A V l rd rs1 rs2 imm w hV i0 i1 i2 i3 hK.len)
  rw [hJ] at HJ
  have HS := Lib.hid (fun A V w hV => split_any A V l J w hV (by rw [← hJ]; exact (joinV_bd _ _).1) (by rw [← hJ]; exact (joinV_bd _ _).2) hK.len)
  rw [h0, h1, h2, h3] at HS
  have hne := fun w => neq4 w S0 S1 S2 S3 rd rs1 rs2 imm
  rw [ht] at hne
  have hx0 : ∀ j v, #[Value.int .i64 k, .int .i64 rd, .int .i64 rs1, .int .i64 rs2, .int .i64 imm][j]? = some v → (w.alloc (.cells #[.int .i64 k, .int .i64 rd, .int .i64 rs1, .int .i64 rs2, .int .i64 imm] 23)).cell? ⟨w.heap.size, j, none⟩ = some v := fun j v hv => new_cell _ _ _ _ _ _ rfl hv
  have HX0 := Lib.hid hx0
  clear ht h0 h1 h2 h3 hJ hK i0 i1 i2 i3 hx0
  go_enter Try.func10, Try.ntmps10
  go_wp2_with (go_at_call 23; (with_reducible refine (HK.out.row _).mono ?_); rintro e w1 ⟨rfl, hb⟩; have HB := Lib.hid hb; clear hb)
  have hz1 : w.heap.size < w1.heap.size := by have := HB.out.size; simp at this; omega
  have hx : ∀ j v, #[Value.int .i64 k, .int .i64 rd, .int .i64 rs1, .int .i64 rs2, .int .i64 imm][j]? = some v → w1.cell? ⟨w.heap.size, j, none⟩ = some v := fun j v hv => (HB.out.cell (p := ⟨w.heap.size, j, none⟩) (by simp)).trans (HX0.out j v hv)
  have hk1 : (w1.alloc (.cells #[.string s, .int .u8 L, .int .u8 a, .int .u8 b, .int .u8 c] 40)).cell? ⟨w1.heap.size, 1, none⟩ = some (.int .u8 L) ∧ (w1.alloc (.cells #[.string s, .int .u8 L, .int .u8 a, .int .u8 b, .int .u8 c] 40)).cell? ⟨w.heap.size, 1, none⟩ = some (.int .i64 rd) ∧ (w1.alloc (.cells #[.string s, .int .u8 L, .int .u8 a, .int .u8 b, .int .u8 c] 40)).cell? ⟨w.heap.size, 2, none⟩ = some (.int .i64 rs1) ∧ (w1.alloc (.cells #[.string s, .int .u8 L, .int .u8 a, .int .u8 b, .int .u8 c] 40)).cell? ⟨w.heap.size, 3, none⟩ = some (.int .i64 rs2) ∧ (w1.alloc (.cells #[.string s, .int .u8 L, .int .u8 a, .int .u8 b, .int .u8 c] 40)).cell? ⟨w.heap.size, 4, none⟩ = some (.int .i64 imm) := ⟨new_cell _ _ _ _ _ _ rfl rfl, old_cell _ (hx 1 _ rfl), old_cell _ (hx 2 _ rfl), old_cell _ (hx 3 _ rfl), old_cell _ (hx 4 _ rfl)⟩
  have hr1 : (w1.alloc (.cells #[.string s, .int .u8 L, .int .u8 a, .int .u8 b, .int .u8 c] 40)).heap[w1.heap.size]? = some (.cells #[.string s, .int .u8 L, .int .u8 a, .int .u8 b, .int .u8 c] 40 (0, 0)) := heap_alloc_new _ _
  have hb1 : Below w.heap.size w (w1.alloc (.cells #[.string s, .int .u8 L, .int .u8 a, .int .u8 b, .int .u8 c] 40)) := (((Below.refl _ _).alloc (Nat.le_refl _) _).trans (HB.out.mono (by simp))).alloc (Nat.le_of_lt hz1) _
  have hz2 : w1.heap.size < (w1.alloc (.cells #[.string s, .int .u8 L, .int .u8 a, .int .u8 b, .int .u8 c] 40)).heap.size := by simp
  generalize w1.alloc (.cells #[.string s, .int .u8 L, .int .u8 a, .int .u8 b, .int .u8 c] 40) = W at *
  have HR1 := Lib.hid hr1
  have HB1 := Lib.hid hb1
  have HK1 := Lib.hid hk1
  clear hr1 hb1 hx
  go_region_held3 (fun w' => w'.cell? ⟨w1.heap.size, 1, none⟩ = some (.int .u8 L) ∧ w'.cell? ⟨w.heap.size, 1, none⟩ = some (.int .i64 rd) ∧ w'.cell? ⟨w.heap.size, 2, none⟩ = some (.int .i64 rs1) ∧ w'.cell? ⟨w.heap.size, 3, none⟩ = some (.int .i64 rs2) ∧ w'.cell? ⟨w.heap.size, 4, none⟩ = some (.int .i64 imm)) (first | with_reducible exact HK2.out | with_reducible exact ⟨(set4_cell (by omega)).trans HK2.out.1, (set4_cell (by omega)).trans HK2.out.2.1, (set4_cell (by omega)).trans HK2.out.2.2.1, (set4_cell (by omega)).trans HK2.out.2.2.2.1, (set4_cell (by omega)).trans HK2.out.2.2.2.2⟩ | with_reducible exact ⟨old_cell _ HK2.out.1, old_cell _ HK2.out.2.1, old_cell _ HK2.out.2.2.1, old_cell _ HK2.out.2.2.2.1, old_cell _ HK2.out.2.2.2.2⟩ | go_keep)
    (first
      | (go_at_call 24; (with_reducible refine (HK.out.fields _).mono ?_); rintro e w2 ⟨V, rfl, hV, hb⟩; have HK2 := Lib.hid (⟨(hb.cell (p := ⟨w1.heap.size, 1, none⟩) (by simp <;> omega)).trans (by go_simp), (hb.cell (p := ⟨w.heap.size, 1, none⟩) (by simp <;> omega)).trans (by go_simp), (hb.cell (p := ⟨w.heap.size, 2, none⟩) (by simp <;> omega)).trans (by go_simp), (hb.cell (p := ⟨w.heap.size, 3, none⟩) (by simp <;> omega)).trans (by go_simp), (hb.cell (p := ⟨w.heap.size, 4, none⟩) (by simp <;> omega)).trans (by go_simp)⟩ : w2.cell? ⟨w1.heap.size, 1, none⟩ = some (.int .u8 L) ∧ w2.cell? ⟨w.heap.size, 1, none⟩ = some (.int .i64 rd) ∧ w2.cell? ⟨w.heap.size, 2, none⟩ = some (.int .i64 rs1) ∧ w2.cell? ⟨w.heap.size, 3, none⟩ = some (.int .i64 rs2) ∧ w2.cell? ⟨w.heap.size, 4, none⟩ = some (.int .i64 imm)); obtain ⟨q1, q2⟩ := bcell hb; have HV := Lib.hid hV; have HB2 := Lib.hid hb; have z2 := hb.size; have z3 : w1.heap.size < w2.heap.size := (by simp at z2; omega); have z4 : w.heap.size < w2.heap.size := (by omega); have hk2 := HK2.out; clear hV hb))
  · have hN : NumAt (w2.alloc (.cells #[.int .i64 rd, .int .i64 rs1, .int .i64 rs2, .int .i64 imm] 46)) w2.heap.size (num4 rd rs1 rs2 imm) := heap_alloc_new _ _
    have hV3 : IsFds (w2.alloc (.cells #[.int .i64 rd, .int .i64 rs1, .int .i64 rs2, .int .i64 imm] 46)) W.drew.heap.size (w2.alloc (.cells #[.int .i64 rd, .int .i64 rs1, .int .i64 rs2, .int .i64 imm] 46)).heap.size V l := (HV.out.below ((Below.refl _ _).alloc (Nat.le_refl _) _) (Nat.le_refl _)).more (by simp) (Nat.le_refl _)
    have hR3 : (w2.alloc (.cells #[.int .i64 rd, .int .i64 rs1, .int .i64 rs2, .int .i64 imm] 46)).heap[w1.heap.size]? = some (.cells #[.string s, .int .u8 L, .int .u8 a, .int .u8 b, .int .u8 c] 40 (0, 0)) := (heap_alloc_old _ _ z3).trans ((HB2.out.block _ hz2).trans HR1.out)
    have hB3 : Below w.heap.size w (w2.alloc (.cells #[.int .i64 rd, .int .i64 rs1, .int .i64 rs2, .int .i64 imm] 46)) := (HB1.out.trans ((below_of_drew HB2.out).mono HB1.out.size)).alloc (by omega) _
    generalize w2.alloc (.cells #[.int .i64 rd, .int .i64 rs1, .int .i64 rs2, .int .i64 imm] 46) = W3 at *
    obtain ⟨p, hpe⟩ : ∃ p, p = w2.heap.size := ⟨_, rfl⟩
    rw [← hpe] at hN ⊢
    clear hpe HV HB2 q1 q2 z2 z3 z4 hk2 HK2 hk1 HK1 HB1 HR1
    try clear hHeld
    have hp := hN.lt
    have hN4 : W3.cell? ⟨p, 0, none⟩ = some (.int .i64 rd) ∧ W3.cell? ⟨p, 1, none⟩ = some (.int .i64 rs1) ∧ W3.cell? ⟨p, 2, none⟩ = some (.int .i64 rs2) ∧ W3.cell? ⟨p, 3, none⟩ = some (.int .i64 imm) := ⟨hN.cell (j := 0) (by omega), hN.cell (j := 1) (by omega), hN.cell (j := 2) (by omega), hN.cell (j := 3) (by omega)⟩
    have HV3 := Lib.hid hV3
    have HR3 := Lib.hid hR3
    have HB3 := Lib.hid hB3
    have HN4 := Lib.hid hN4
    obtain ⟨n0, n1, n2, n3⟩ := hN4
    clear hV3 hR3 hB3 hN
    go_wp2_with (go_at_call 25; (with_reducible refine (HJ.out _ _ _ HV3.out).mono ?_); rintro e w4 ⟨rfl, hb⟩; have B4 := Lib.hid hb; have y4 := hb.size; have g0 := (hb.cell (p := ⟨p, 0, none⟩) hp).trans HN4.out.1; have g1 := (hb.cell (p := ⟨p, 1, none⟩) hp).trans HN4.out.2.1; have g2 := (hb.cell (p := ⟨p, 2, none⟩) hp).trans HN4.out.2.2.1; have g3 := (hb.cell (p := ⟨p, 3, none⟩) hp).trans HN4.out.2.2.2; clear hb)
    have HV4 := Lib.hid ((HV3.out.below B4.out (Nat.le_refl _)).more B4.out.size (Nat.le_refl _))
    have HV5 := Lib.hid (IsFds.of_blocks (w' := w4.drew) HV4.out (fun _ _ _ => rfl))
    have HG := Lib.hid (show w4.cell? ⟨p, 0, none⟩ = some (.int .i64 rd) ∧ w4.cell? ⟨p, 1, none⟩ = some (.int .i64 rs1) ∧ w4.cell? ⟨p, 2, none⟩ = some (.int .i64 rs2) ∧ w4.cell? ⟨p, 3, none⟩ = some (.int .i64 imm) from ⟨g0, g1, g2, g3⟩)
    have hp4 : p < w4.heap.size := by omega
    go_region_held3 (fun w' => w'.cell? ⟨p, 0, none⟩ = some (.int .i64 rd) ∧ w'.cell? ⟨p, 1, none⟩ = some (.int .i64 rs1) ∧ w'.cell? ⟨p, 2, none⟩ = some (.int .i64 rs2) ∧ w'.cell? ⟨p, 3, none⟩ = some (.int .i64 imm)) (first | go_keep | with_reducible exact HG5.out)
      (first
        | (go_at_call 26; (with_reducible refine (HS.out _ _ _ HV5.out).mono ?_); rintro e w5 ⟨rfl, hb⟩; have B5 := Lib.hid (below_of_drew hb); have HG5 := Lib.hid (⟨(hb.cell (p := ⟨p, 0, none⟩) hp4).trans HG.out.1, (hb.cell (p := ⟨p, 1, none⟩) hp4).trans HG.out.2.1, (hb.cell (p := ⟨p, 2, none⟩) hp4).trans HG.out.2.2.1, (hb.cell (p := ⟨p, 3, none⟩) hp4).trans HG.out.2.2.2⟩ : w5.cell? ⟨p, 0, none⟩ = some (.int .i64 rd) ∧ w5.cell? ⟨p, 1, none⟩ = some (.int .i64 rs1) ∧ w5.cell? ⟨p, 2, none⟩ = some (.int .i64 rs2) ∧ w5.cell? ⟨p, 3, none⟩ = some (.int .i64 imm)); clear hb))
    go_wp2
    go_ret2
    exact ⟨rfl, HB3.out.trans ((B4.out.trans (B5.out.mono B4.out.size)).mono HB3.out.size)⟩
  · have hw2 : NumAt w2 W.heap.size (fun _ => 0) := by
      unfold NumAt
      rw [HB2.out.block _ (show W.heap.size < _ by simp)]
      exact heap_alloc_new W _
    have hN : NumAt ((((w2.setCell ⟨W.heap.size, 0, none⟩ (.int .i64 rd)).setCell ⟨W.heap.size, 1, none⟩ (.int .i64 rs1)).setCell ⟨W.heap.size, 2, none⟩ (.int .i64 rs2)).setCell ⟨W.heap.size, 3, none⟩ (.int .i64 imm)) W.heap.size (num4 rd rs1 rs2 imm) := by
      have h4 := (((hw2.set (j := 0) (by omega) rd).set (j := 1) (by omega) rs1).set (j := 2) (by omega) rs2).set (j := 3) (by omega) imm
      exact h4
    have hV3 : IsFds ((((w2.setCell ⟨W.heap.size, 0, none⟩ (.int .i64 rd)).setCell ⟨W.heap.size, 1, none⟩ (.int .i64 rs1)).setCell ⟨W.heap.size, 2, none⟩ (.int .i64 rs2)).setCell ⟨W.heap.size, 3, none⟩ (.int .i64 imm)) (W.heap.size + 1) ((((w2.setCell ⟨W.heap.size, 0, none⟩ (.int .i64 rd)).setCell ⟨W.heap.size, 1, none⟩ (.int .i64 rs1)).setCell ⟨W.heap.size, 2, none⟩ (.int .i64 rs2)).setCell ⟨W.heap.size, 3, none⟩ (.int .i64 imm)).heap.size V l :=
      (IsFds.of_blocks (HV.out.more (Nat.le_refl _) (show W.heap.size + 1 ≤ _ by simp)) (fun k hk _ => (heap_setCell_other _ _ _ _ (by show k ≠ W.heap.size; omega)).trans ((heap_setCell_other _ _ _ _ (by show k ≠ W.heap.size; omega)).trans ((heap_setCell_other _ _ _ _ (by show k ≠ W.heap.size; omega)).trans (heap_setCell_other _ _ _ _ (by show k ≠ W.heap.size; omega)))))).more (by simp) (Nat.le_refl _)
    have hR3 : ((((w2.setCell ⟨W.heap.size, 0, none⟩ (.int .i64 rd)).setCell ⟨W.heap.size, 1, none⟩ (.int .i64 rs1)).setCell ⟨W.heap.size, 2, none⟩ (.int .i64 rs2)).setCell ⟨W.heap.size, 3, none⟩ (.int .i64 imm)).heap[w1.heap.size]? = some (.cells #[.string s, .int .u8 L, .int .u8 a, .int .u8 b, .int .u8 c] 40 (0, 0)) :=
      ((heap_setCell_other _ _ _ _ (by show w1.heap.size ≠ W.heap.size; omega)).trans ((heap_setCell_other _ _ _ _ (by show w1.heap.size ≠ W.heap.size; omega)).trans ((heap_setCell_other _ _ _ _ (by show w1.heap.size ≠ W.heap.size; omega)).trans (heap_setCell_other _ _ _ _ (by show w1.heap.size ≠ W.heap.size; omega))))).trans ((HB2.out.block _ (show w1.heap.size < _ by simp; omega)).trans ((heap_alloc_old W _ hz2).trans HR1.out))
    have hB3 : Below w.heap.size w ((((w2.setCell ⟨W.heap.size, 0, none⟩ (.int .i64 rd)).setCell ⟨W.heap.size, 1, none⟩ (.int .i64 rs1)).setCell ⟨W.heap.size, 2, none⟩ (.int .i64 rs2)).setCell ⟨W.heap.size, 3, none⟩ (.int .i64 imm)) := by
      have h0 : Below w.heap.size w w2 := (HB1.out.alloc HB1.out.size _).trans ((below_of_drew HB2.out).mono (by simp; omega))
      have hle : w.heap.size ≤ W.heap.size := by omega
      exact (((h0.setCell (p := ⟨W.heap.size, 0, none⟩) hle _).setCell (p := ⟨W.heap.size, 1, none⟩) hle _).setCell (p := ⟨W.heap.size, 2, none⟩) hle _).setCell (p := ⟨W.heap.size, 3, none⟩) hle _
    generalize (((w2.setCell ⟨W.heap.size, 0, none⟩ (.int .i64 rd)).setCell ⟨W.heap.size, 1, none⟩ (.int .i64 rs1)).setCell ⟨W.heap.size, 2, none⟩ (.int .i64 rs2)).setCell ⟨W.heap.size, 3, none⟩ (.int .i64 imm) = W3 at *
    obtain ⟨p, hpe⟩ : ∃ p, p = W.heap.size := ⟨_, rfl⟩
    rw [← hpe] at hN ⊢
    clear hpe HV HB2 q1 q2 z2 z3 z4 hk2 HK2 hk1 HK1 HB1 HR1 hw2
    try clear hHeld
    have hp := hN.lt
    have hN4 : W3.cell? ⟨p, 0, none⟩ = some (.int .i64 rd) ∧ W3.cell? ⟨p, 1, none⟩ = some (.int .i64 rs1) ∧ W3.cell? ⟨p, 2, none⟩ = some (.int .i64 rs2) ∧ W3.cell? ⟨p, 3, none⟩ = some (.int .i64 imm) := ⟨hN.cell (j := 0) (by omega), hN.cell (j := 1) (by omega), hN.cell (j := 2) (by omega), hN.cell (j := 3) (by omega)⟩
    have HV3 := Lib.hid hV3
    have HR3 := Lib.hid hR3
    have HB3 := Lib.hid hB3
    have HN4 := Lib.hid hN4
    obtain ⟨n0, n1, n2, n3⟩ := hN4
    clear hV3 hR3 hB3 hN
    go_wp2_with (go_at_call 25; (with_reducible refine (HJ.out _ _ _ HV3.out).mono ?_); rintro e w4 ⟨rfl, hb⟩; have B4 := Lib.hid hb; have y4 := hb.size; have g0 := (hb.cell (p := ⟨p, 0, none⟩) hp).trans HN4.out.1; have g1 := (hb.cell (p := ⟨p, 1, none⟩) hp).trans HN4.out.2.1; have g2 := (hb.cell (p := ⟨p, 2, none⟩) hp).trans HN4.out.2.2.1; have g3 := (hb.cell (p := ⟨p, 3, none⟩) hp).trans HN4.out.2.2.2; clear hb)
    have HV4 := Lib.hid ((HV3.out.below B4.out (Nat.le_refl _)).more B4.out.size (Nat.le_refl _))
    have HV5 := Lib.hid (IsFds.of_blocks (w' := w4.drew) HV4.out (fun _ _ _ => rfl))
    have HG := Lib.hid (show w4.cell? ⟨p, 0, none⟩ = some (.int .i64 rd) ∧ w4.cell? ⟨p, 1, none⟩ = some (.int .i64 rs1) ∧ w4.cell? ⟨p, 2, none⟩ = some (.int .i64 rs2) ∧ w4.cell? ⟨p, 3, none⟩ = some (.int .i64 imm) from ⟨g0, g1, g2, g3⟩)
    have hp4 : p < w4.heap.size := by omega
    go_region_held3 (fun w' => w'.cell? ⟨p, 0, none⟩ = some (.int .i64 rd) ∧ w'.cell? ⟨p, 1, none⟩ = some (.int .i64 rs1) ∧ w'.cell? ⟨p, 2, none⟩ = some (.int .i64 rs2) ∧ w'.cell? ⟨p, 3, none⟩ = some (.int .i64 imm)) (first | go_keep | with_reducible exact HG5.out)
      (first
        | (go_at_call 26; (with_reducible refine (HS.out _ _ _ HV5.out).mono ?_); rintro e w5 ⟨rfl, hb⟩; have B5 := Lib.hid (below_of_drew hb); have HG5 := Lib.hid (⟨(hb.cell (p := ⟨p, 0, none⟩) hp4).trans HG.out.1, (hb.cell (p := ⟨p, 1, none⟩) hp4).trans HG.out.2.1, (hb.cell (p := ⟨p, 2, none⟩) hp4).trans HG.out.2.2.1, (hb.cell (p := ⟨p, 3, none⟩) hp4).trans HG.out.2.2.2⟩ : w5.cell? ⟨p, 0, none⟩ = some (.int .i64 rd) ∧ w5.cell? ⟨p, 1, none⟩ = some (.int .i64 rs1) ∧ w5.cell? ⟨p, 2, none⟩ = some (.int .i64 rs2) ∧ w5.cell? ⟨p, 3, none⟩ = some (.int .i64 imm)); clear hb))
    go_wp2
    go_ret2
    exact ⟨rfl, HB3.out.trans ((B4.out.trans (B5.out.mono B4.out.size)).mono HB3.out.size)⟩
end Go.Proofs.Ytcglfbjfllohjaa
