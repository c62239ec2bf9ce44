/- Lemmas of Mod08H, Mod08I, Mod08J, Mod08K, each with its own remark. -/
import Derived.Test.YtohlifeenhaifaaGreatDoorS11
import Derived.StillTailTactics
import Derived.Lib.SliceRun
import Derived.Deep.RegionLaw
import Derived.Deep.RegionHeldLaw
/- (Mod08H) The landed reader: need, piece. Contracts; no condition but that the reader lies in memory, its place within its bytes. -/
namespace Go.Proofs.YtohlifeenhaifaaGreatDoor
open Go.RowKit Go.Shelf
set_option linter.unusedVariables false
set_option linter.unusedSimpArgs false

theorem cells6r {w : World} {rb : Nat} {e k p : Int} {X D F : Value} {T : TypeId} (h : w.heap[rb]? = some (.cells #[.int .i64 e, .int .i64 k, X, .int .i64 p, D, F] T (0, 0))) :
    w.cell? ⟨rb, 0, none⟩ = some (.int .i64 e) ∧ w.cell? ⟨rb, 1, none⟩ = some (.int .i64 k) ∧ w.cell? ⟨rb, 2, none⟩ = some X ∧ w.cell? ⟨rb, 3, none⟩ = some (.int .i64 p) ∧ w.cell? ⟨rb, 4, none⟩ = some D ∧ w.cell? ⟨rb, 5, none⟩ = some F := by
  simp [World.cell?, h]
section
variable {w w' : World} {rb B : Nat} {X D F : Value} {b : List Int} {s : Rd}
theorem but_one (w : World) (rb o : Nat) (v : Value) : But (OneBlock rb) w (w.setCell ⟨rb, o, none⟩ v) := (But.refl (OneBlock rb) w).setCell (p := ⟨rb, o, none⟩) (.inl rfl) _
end
theorem cell1 {w : World} {tb : Nat} {V : Value} {T : TypeId} (h : w.heap[tb]? = some (.cells #[V] T (0, 0))) : w.cell? ⟨tb, 0, none⟩ = some V := by simp [World.cell?, h]
theorem but2_one {rb tb : Nat} {w w' : World} (h : But (OneBlock rb) w w') : But (TwoBlocks rb tb) w w' := h.mono fun k hk => .inl hk
theorem nil_is (w : World) (B : Nat) : IsBytes w B (.slice none 0 0) [] := ⟨by simp, by simp, .inl ⟨rfl, rfl⟩⟩
end Go.Proofs.YtohlifeenhaifaaGreatDoor

/- (Mod08I) The landed reader: number, counted. Contracts; no condition but that the reader lies in memory, its place within its bytes. -/
namespace Go.Proofs.YtohlifeenhaifaaGreatDoor
open Go.RowKit Go.Shelf
set_option linter.unusedVariables false
set_option linter.unusedSimpArgs false

theorem set_same {cs : Array Value} {o : Nat} {v : Value} (h : cs[o]? = some v) : cs.setIfInBounds o v = cs := by
  apply Array.ext_getElem?
  intro i
  rw [Array.getElem?_setIfInBounds]
  split
  · rename_i hi
    subst hi
    split
    · exact h.symm
    · rename_i hl
      rw [Array.getElem?_eq_none (by omega)]
  · rfl
/-- A box that a call has made for itself is nobody's. -/
theorem but_box {w w0 w1 : World} {rb tb : Nat} (h0 : Below w.heap.size w w0) (ht : w.heap.size ≤ tb) (hb : But (TwoBlocks rb tb) w0 w1) : But (OneBlock rb) w w1 :=
  ⟨hb.os.trans h0.os, hb.tape.trans h0.tape, hb.output.trans h0.output, Nat.le_trans h0.size hb.size, fun k hk hn => (hb.block k (Nat.lt_of_lt_of_le hk h0.size) (fun e => by
    rcases e with e | e
    · exact hn e
    · omega)).trans (h0.block k hk)⟩
theorem take_len_ok {b : List Int} {s : Rd} {n : Nat} (h : (takeR b s n).1.err = 0) : (takeR b s n).2.length = n := by
  obtain ⟨_, h2, h3⟩ := take_err h
  rw [h3]
  exact part_len h2
theorem take_out {b : List Int} {s : Rd} {n : Nat} (h : (takeR b s n).1.err ≠ 0) : (takeR b s n).2 = [] := by
  unfold takeR at h ⊢
  split at h
  · rename_i h1
    rw [if_pos h1]
    split at h
    · exact absurd h1 h
    · rename_i h2
      rw [if_neg h2]
  · rename_i h1
    rw [if_neg h1]
theorem but_two_box {w w0 w1 : World} {rb tb nb : Nat} (h0 : Below w.heap.size w w0) (ht : w.heap.size ≤ nb) (hb : But (TwoBlocks rb nb) w0 w1) : But (TwoBlocks rb tb) w w1 := but2_one (but_box h0 ht hb)
end Go.Proofs.YtohlifeenhaifaaGreatDoor

/- (Mod08J) bytes' Clone and HasPrefix; the landed reader: mark, data, end, valid. Contracts; no condition but that the reader lies in memory, its place within its bytes. -/
namespace Go.Proofs.YtohlifeenhaifaaGreatDoor
open Go.RowKit Go.Shelf
set_option linter.unusedVariables false
set_option linter.unusedSimpArgs false

theorem eql_slice_nil8 (a : Option Addr) (n c : Nat) (w : World) : (binOp .eql 22 (.slice a n c) (.slice none 0 0)).run Tryz.prog w = .ok (.bool a.isNone) w := Lib.run_eql_slice_nil w 22 5 a n c 0 0 Tryz.underlying22
theorem made_out (w : World) : OutB w (w.alloc (.cells #[] 5)) (.slice (some ⟨w.heap.size, 0, none⟩) 0 0) [] := ⟨Owns.made w _ _ _ _ (Nat.le_refl _), (Below.refl _ _).alloc (Nat.le_refl _) _⟩
theorem bytes_prefix {w : World} {B n cap k : Nat} {A : Option Addr} {xs : List Int} (h : IsBytes w B (.slice A n cap) xs) (hk : k ≤ xs.length) : IsBytes w B (.slice A k cap) (xs.take k) := by
  have hl : (xs.take k).length = k := by rw [List.length_take]; omega
  refine ⟨fun x hx => h.1 x (List.mem_of_mem_take hx), by have := h.2.1; omega, ?_⟩
  rcases h.2.2 with ⟨he, rfl⟩ | ⟨ad, cap', he, h1, h2, h3⟩
  · injection he with e1 e2 e3
    subst e1 e3
    obtain rfl : k = 0 := by simpa using hk
    exact .inl ⟨rfl, rfl⟩
  · injection he with e1 e2 e3
    subst e1 e3
    refine .inr ⟨ad, cap, by rw [hl], by omega, fun hn => h2 (by omega), fun i hi => ?_⟩
    rw [hl] at hi
    rw [h3 i (by omega)]
    simp [List.getD, hi]
theorem map_add0 (A : Option Addr) : Option.map (fun x => x.add 0) A = A := by
  cases A with
  | none => rfl
  | some a => simp [Addr.add]
end Go.Proofs.YtohlifeenhaifaaGreatDoor

/- (Mod08K) The landed reader: mark, function. Contracts; no condition but that the reader lies in memory, its place within its bytes. -/
namespace Go.Proofs.YtohlifeenhaifaaGreatDoor
open Go.RowKit Go.Shelf
set_option linter.unusedVariables false
set_option linter.unusedSimpArgs false

/-- As But.box, behind other steps. -/
theorem but_far {w w5 w6 : World} {rb tb : Nat} (h : But (OneBlock rb) w w5) (ht : w.heap.size ≤ tb) (hb : But (TwoBlocks rb tb) w5 w6) : But (OneBlock rb) w w6 :=
  ⟨hb.os.trans h.os, hb.tape.trans h.tape, hb.output.trans h.output, Nat.le_trans h.size hb.size, fun k hk hn => (hb.block k (Nat.lt_of_lt_of_le hk h.size) (fun e => by
    rcases e with e | e
    · exact hn e
    · omega)).trans (h.block k hk hn)⟩
end Go.Proofs.YtohlifeenhaifaaGreatDoor
