/- An instruction encoded, checked, named, in the words of the instructions' mathematics: the contracts of rvcode.Encode, Check, Name and Form. No condition but that the numbers are the machine's. -/
import Derived.Test.YtcglfbjfllohjaaEnc03
import Derived.Test.YtcglfbjfllohjaaRef03
namespace Go.Proofs.Ytcglfbjfllohjaa
open Go.RowKit
set_option linter.unusedVariables false

def rvVal (x : RvV) : Value := .agg #[.int .i64 x.op, .int .i64 x.rd, .int .i64 x.rs1, .int .i64 x.rs2, .int .i64 x.imm]
/-- An instruction's numbers are the machine's. -/
structure RvIn (x : RvV) : Prop where
  op : InI x.op
  rd : InI x.rd
  rs1 : InI x.rs1
  rs2 : InI x.rs2
  imm : InI x.imm
theorem enc_ok {x : RvV} (hx : x.ok) (hi : RvIn x) (w : World) : Calls Try.prog 10 #[.agg #[.int .i64 x.op, .int .i64 x.rd, .int .i64 x.rs1, .int .i64 x.rs2, .int .i64 x.imm]] w (EncDone w (encV x) 0) := by
  obtain ⟨op, rd, rs1, rs2, imm⟩ := x
  have h1 : 1 ≤ op := hx.op.1
  have h2 : op ≤ 63 := hx.op.2
  obtain ⟨k, rfl⟩ : ∃ k : Nat, op = k := ⟨op.toNat, by omega⟩
  have ha := (ok_iff (k := k) (by omega) (by omega) rd rs1 rs2 imm).1 hx
  have hs := (same4_iff _ rd rs1 rs2 imm rfl).2 ha
  have := enc_yes k rd rs1 rs2 imm _ _ _ _ _ _ _ _ _ _ _ _ _ w (row_known (by omega) (by omega)) hi.rd hi.rs1 hi.rs2 hi.imm rfl rfl rfl rfl rfl hs
  rw [word_is (by omega) (by omega) ha] at this
  exact this
theorem enc_bad {x : RvV} (hx : ¬ x.ok) (hi : RvIn x) (w : World) : Calls Try.prog 10 #[.agg #[.int .i64 x.op, .int .i64 x.rd, .int .i64 x.rs1, .int .i64 x.rs2, .int .i64 x.imm]] w (EncDone w 0 2) := by
  obtain ⟨op, rd, rs1, rs2, imm⟩ := x
  by_cases hop : 1 ≤ op ∧ op ≤ 63
  · obtain ⟨k, rfl⟩ : ∃ k : Nat, op = k := ⟨op.toNat, by omega⟩
    have ha : ¬ Allowed (rvRowN k).form rd rs1 rs2 imm := fun h => hx ((ok_iff (k := k) (by omega) (by omega) rd rs1 rs2 imm).2 h)
    have hs : same4 (splitV (fdsV (rvRowN k).form.letter) (joinV (fdsV (rvRowN k).form.letter) (num4 rd rs1 rs2 imm)) 0) (splitV (fdsV (rvRowN k).form.letter) (joinV (fdsV (rvRowN k).form.letter) (num4 rd rs1 rs2 imm)) 1)
        (splitV (fdsV (rvRowN k).form.letter) (joinV (fdsV (rvRowN k).form.letter) (num4 rd rs1 rs2 imm)) 2) (splitV (fdsV (rvRowN k).form.letter) (joinV (fdsV (rvRowN k).form.letter) (num4 rd rs1 rs2 imm)) 3) rd rs1 rs2 imm = false := by
      rw [← Bool.not_eq_true]
      exact fun h => ha ((same4_iff _ rd rs1 rs2 imm rfl).1 h)
    exact enc_no k rd rs1 rs2 imm _ _ _ _ _ _ _ _ _ _ _ _ _ w (row_known (by omega) (by omega)) hi.rd hi.rs1 hi.rs2 hi.imm rfl rfl rfl rfl rfl hs
  · exact enc_out op rd rs1 rs2 imm w (by omega)
def CheckDone (w : World) (e0 : Int) (e : Ending) (w' : World) : Prop := e = .returned (.int .i64 e0) ∧ Below w.heap.size w w'
theorem check_of {x : RvV} {v e0 : Int} (w : World) (hc : ∀ w, Calls Try.prog 10 #[.agg #[.int .i64 x.op, .int .i64 x.rd, .int .i64 x.rs1, .int .i64 x.rs2, .int .i64 x.imm]] w (EncDone w v e0)) :
    Calls Try.prog 12 #[.agg #[.int .i64 x.op, .int .i64 x.rd, .int .i64 x.rs1, .int .i64 x.rs2, .int .i64 x.imm]] w (CheckDone w e0) := by
  have HC := Lib.hid hc
  clear hc
  obtain ⟨op, rd, rs1, rs2, imm⟩ := x
  go_enter Try.func12, Try.ntmps12
  go_wp2_with (go_at_call 10; (with_reducible refine (HC.out _).mono ?_); rintro e w1 ⟨rfl, hb⟩; have HB := Lib.hid hb; clear hb)
  go_ret
  exact ⟨rfl, ((Below.refl _ _).alloc (Nat.le_refl _) _).trans (HB.out.mono (by simp))⟩
theorem check_ok {x : RvV} (hx : x.ok) (hi : RvIn x) (w : World) : Calls Try.prog 12 #[.agg #[.int .i64 x.op, .int .i64 x.rd, .int .i64 x.rs1, .int .i64 x.rs2, .int .i64 x.imm]] w (CheckDone w 0) := check_of w (enc_ok hx hi)
theorem check_bad {x : RvV} (hx : ¬ x.ok) (hi : RvIn x) (w : World) : Calls Try.prog 12 #[.agg #[.int .i64 x.op, .int .i64 x.rd, .int .i64 x.rs1, .int .i64 x.rs2, .int .i64 x.imm]] w (CheckDone w 2) := check_of w (enc_bad hx hi)

/-- What an operation is called, and its form's text. -/
def nameV (op : Int) : ByteArray := if 1 ≤ op ∧ op ≤ 63 then nameB op.toNat else ⟨#[]⟩
def formV (op : Int) : ByteArray := if 1 ≤ op ∧ op ≤ 63 then FormStr (rvRowN op.toNat).form else ⟨#[]⟩
def TextDone (w : World) (s : ByteArray) (e : Ending) (w' : World) : Prop := e = .returned (.string s) ∧ Below w.heap.size w w'
theorem name_out (op : Int) (w : World) (h : op < 1 ∨ 63 < op) : Calls Try.prog 14 #[.int .i64 op] w (TextDone w ⟨#[]⟩) := by
  have HC := Lib.hid (fun w => rowOf_no op w h)
  clear h
  go_enter Try.func14, Try.ntmps14
  go_wp2_with (go_at_call 23; (with_reducible refine (HC.out _).mono ?_); rintro e w1 ⟨rfl, hb⟩; have HB := Lib.hid hb; clear hb)
  go_ret
  exact ⟨rfl, HB.out.alloc HB.out.size _⟩
theorem name_in {k : Nat} {s : ByteArray} {L a b c o m : Int} {l : List Fd} (w : World) (hK : RowKnown k s L a b c o m l) : Calls Try.prog 14 #[.int .i64 k] w (TextDone w s) := by
  have HK := Lib.hid hK
  clear hK
  go_enter Try.func14, Try.ntmps14
  go_wp2_with (go_at_call 23; (with_reducible refine (HK.out.row _).mono ?_); rintro e w1 ⟨rfl, hb⟩; have HB := Lib.hid hb; clear hb)
  go_ret
  exact ⟨rfl, HB.out.alloc HB.out.size _⟩
theorem name_any (op : Int) (w : World) : Calls Try.prog 14 #[.int .i64 op] w (TextDone w (nameV op)) := by
  unfold nameV
  split
  · rename_i h
    obtain ⟨k, rfl⟩ : ∃ k : Nat, op = k := ⟨op.toNat, by omega⟩
    exact name_in w (row_known (by omega) (by omega))
  · exact name_out op w (by omega)
theorem form_out (op : Int) (w : World) (h : op < 1 ∨ 63 < op) : Calls Try.prog 16 #[.int .i64 op] w (TextDone w ⟨#[]⟩) := by
  have HC := Lib.hid (fun w => rowOf_no op w h)
  clear h
  go_enter Try.func16, Try.ntmps16
  go_wp2_with (go_at_call 23; (with_reducible refine (HC.out _).mono ?_); rintro e w1 ⟨rfl, hb⟩; have HB := Lib.hid hb; clear hb)
  go_ret
  exact ⟨rfl, HB.out.alloc HB.out.size _⟩
theorem conv_form (f : RvForm) (w : World) : (convert 5 9 (.int .u8 f.letter)).run Try.prog w = .ok (.string (FormStr f)) w := by
  cases f <;> kernel_rfl
theorem form_in {k : Nat} {s t : ByteArray} {L a b c o m : Int} {l : List Fd} (w : World) (hK : RowKnown k s L a b c o m l) (ht : ∀ w, (convert 5 9 (.int .u8 L)).run Try.prog w = .ok (.string t) w) : Calls Try.prog 16 #[.int .i64 k] w (TextDone w t) := by
  have HK := Lib.hid hK
  clear hK
  go_enter Try.func16, Try.ntmps16
  go_wp2_with (go_at_call 23; (with_reducible refine (HK.out.row _).mono ?_); rintro e w1 ⟨rfl, hb⟩; have HB := Lib.hid hb; clear hb)
  go_ret
  exact ⟨rfl, HB.out.alloc HB.out.size _⟩
theorem form_any (op : Int) (w : World) : Calls Try.prog 16 #[.int .i64 op] w (TextDone w (formV op)) := by
  unfold formV
  split
  · rename_i h
    obtain ⟨k, rfl⟩ : ∃ k : Nat, op = k := ⟨op.toNat, by omega⟩
    exact form_in w (row_known (by omega) (by omega)) (fun w => by rw [letB_form (by omega)]; exact conv_form _ w)
  · exact form_out op w (by omega)
end Go.Proofs.Ytcglfbjfllohjaa
