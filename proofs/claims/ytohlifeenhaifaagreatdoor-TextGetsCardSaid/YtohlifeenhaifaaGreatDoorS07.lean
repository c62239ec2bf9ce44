/- Lemmas of Code07F, Code07G, each with its own remark. -/
import Derived.Test.YtohlifeenhaifaaGreatDoorS06
/- (Code07F) The landed (*input).fields: the fields of an instruction. Contract; no condition but that the input's place is within its bytes. -/
namespace Go.Proofs.YtohlifeenhaifaaGreatDoor
open Go.RowKit Go.Shelf
set_option linter.unusedVariables false
set_option linter.unusedSimpArgs false

def TwoBlocks (a b : Nat) : Nat → Prop := fun k => k = a ∨ k = b
section
variable {w wr : World} {nb B ib R T : Nat} {op : Int} {X : Value} {b : List Int} {sh : ByteArray} {k p : Nat} {a1 a2 a3 n : Int} {V : Value} {args : List Int}
end
/-- The registers' places that are left. -/
def RegP (R j : Nat) (r : Value) : Prop := ∃ A, r = .slice A (3 - j) (3 - j) ∧ (j < 3 → A = some ⟨R, j, none⟩)
theorem readQ_reg_no {b : List Int} {q : Int} {s : RdV} (hq : isReg q = true) (h : b.length < s.pos + 1) : readQ b q s = (4, s) := by
  unfold readQ
  rw [if_neg (by rintro rfl; simp [isReg] at hq), reg_width hq, if_pos h]
theorem readQ_reg_yes {b : List Int} {q : Int} {s : RdV} (hq : isReg q = true) (h : s.pos + 1 ≤ b.length) : readQ b q s = (0, ⟨s.pos + 1, s.rs ++ [b.getD s.pos 0], s.n, s.args⟩) := by
  unfold readQ
  rw [if_neg (by rintro rfl; simp [isReg] at hq), reg_width hq, if_neg (by omega), if_pos hq, show (b.drop s.pos).take 1 = [b.getD s.pos 0] from by rw [getD_cons (by omega)]; simp, numV_one]
theorem readQ_num_no {b : List Int} {q : Int} {s : RdV} (hq : isReg q = false) (h8 : q ≠ 108) (h : b.length < s.pos + widthV q) : readQ b q s = (4, s) := by
  unfold readQ
  rw [if_neg h8, if_pos h]
theorem readQ_num_yes {b : List Int} {q : Int} {s : RdV} (hq : isReg q = false) (h8 : q ≠ 108) (h : s.pos + widthV q ≤ b.length) : readQ b q s = (0, ⟨s.pos + widthV q, s.rs, wrapI (numV ((b.drop s.pos).take (widthV q))), s.args⟩) := by
  unfold readQ
  rw [if_neg h8, if_neg (by omega), if_neg (by simp [hq])]
theorem readL_stop {b : List Int} {q : Int} {L : List Int} {s : RdV} {z : Int} (h : readQ b q s = (z, s)) (hz : z ≠ 0) : readL b (q :: L) s = (z, s) := by
  simp only [readL, h, if_neg hz]
theorem readL_go {b : List Int} {q : Int} {L : List Int} {s s' : RdV} (h : readQ b q s = (0, s')) : readL b (q :: L) s = readL b L s' := by
  simp only [readL, h, if_true]
end Go.Proofs.YtohlifeenhaifaaGreatDoor

/- (Code07G) The landed (*input).instruction: an instruction is read. Contract; no condition but that the input's place is within its bytes. -/
namespace Go.Proofs.YtohlifeenhaifaaGreatDoor
open Go.RowKit Go.Shelf
set_option linter.unusedVariables false
set_option linter.unusedSimpArgs false

abbrev set6 (W : World) (g : Nat) (v0 v1 v2 v3 v4 v5 : Value) : World := (((((W.setCell ⟨g, 0, none⟩ v0).setCell ⟨g, 1, none⟩ v1).setCell ⟨g, 2, none⟩ v2).setCell ⟨g, 3, none⟩ v3).setCell ⟨g, 4, none⟩ v4).setCell ⟨g, 5, none⟩ v5
theorem but_set6 {R : Nat → Prop} {w W : World} (h : But R w W) {g : Nat} (hg : R g ∨ w.heap.size ≤ g) (v0 v1 v2 v3 v4 v5 : Value) : But R w (set6 W g v0 v1 v2 v3 v4 v5) :=
  (((((h.setCell (p := ⟨g, 0, none⟩) hg v0).setCell (p := ⟨g, 1, none⟩) hg v1).setCell (p := ⟨g, 2, none⟩) hg v2).setCell (p := ⟨g, 3, none⟩) hg v3).setCell (p := ⟨g, 4, none⟩) hg v4).setCell (p := ⟨g, 5, none⟩) hg v5
theorem only6 (W : World) (g : Nat) (v0 v1 v2 v3 v4 v5 : Value) : But (OneBlock g) W (set6 W g v0 v1 v2 v3 v4 v5) := but_set6 (But.refl (OneBlock g) W) (.inl rfl) v0 v1 v2 v3 v4 v5

theorem names_full : nameL.all (fun s => !s.toList.isEmpty) = true := by kernel_rfl
theorem name_full {op : Int} (h : 0 ≤ op ∧ op < 33) : (nameI op).toList.isEmpty = false := by
  have hl : nameL.length = 33 := by kernel_rfl
  have hk : op.toNat < nameL.length := by omega
  have e : nameI op = nameL[op.toNat] := by unfold nameI nameB; rw [if_pos h]; simp [List.getD, hk]
  rw [e]
  have := List.all_eq_true.1 names_full _ (List.getElem_mem hk)
  simpa using this
theorem own_set {base : Nat} {w1 : World} {g : Nat} {V : Value} {xs : List Int} (h : OutN base w1 V xs) (hg : g < base) (v0 v1 v2 v3 v4 v5 : Value) : OutN base (set6 w1 g v0 v1 v2 v3 v4 v5) V xs := by
  refine Owns.but h (only6 _ _ _ _ _ _ _ _) (fun k hk e => ?_)
  have e' : k = g := e
  have := (h.lt hk).1
  omega
theorem but_two {w W w3 : World} {nb ib : Nat} (h : But (OneBlock nb) w W) (hb : But (TwoBlocks nb ib) W w3) (hi : w.heap.size ≤ ib) : But (OneBlock nb) w w3 :=
  ⟨hb.os.trans h.os, hb.tape.trans h.tape, hb.output.trans h.output, Nat.le_trans h.size hb.size, fun k hk hn => (hb.block k (Nat.lt_of_lt_of_le hk h.size) (fun e => by
    rcases e with e | e
    · exact hn e
    · omega)).trans (h.block k hk hn)⟩
end Go.Proofs.YtohlifeenhaifaaGreatDoor
