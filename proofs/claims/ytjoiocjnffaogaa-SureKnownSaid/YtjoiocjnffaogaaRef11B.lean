/- The document's own Masks and Unset of layer 11. Contracts; no condition but that the instructions are few. -/
import Derived.Test.YtjoiocjnffaogaaRef11A
import Derived.Test.YtjoiocjnffaogaaMath11C
import Derived.StillTailTactics
namespace Go.Proofs.Ytjoiocjnffaogaa
open Go.RowKit Go.Shelf
set_option linter.unusedVariables false
set_option linter.unusedSimpArgs false

/-- Lists of numbers to be read. -/
theorem OwnJ.ls2 {base : Nat} {W : World} {V : Value} {ll : List (List Int)} {Xs : List Value} (h : OwnJ base W V ll Xs) (hl : ll.length ≤ 1000000) : ll.length ≤ maxLen ∧ ((ll.length = 0 ∧ ∃ a cap, V = .slice a 0 cap) ∨
    ∃ b off cap, V = .slice (some ⟨b, off, none⟩) ll.length cap ∧ ll.length ≤ cap ∧ b < W.heap.size ∧ ∀ i, i < ll.length → ∃ X, IsNums .i64 W W.heap.size X (ll.getD i []) ∧ W.cell? ⟨b, off + i, none⟩ = some X) := by
  refine ⟨by unfold maxLen; omega, ?_⟩
  rcases h.own.1.2 with ⟨rfl, h0⟩ | ⟨g, cap, cur, rfl, h1, h2, h3, h4, h5, h6⟩
  · exact .inl ⟨h0, none, 0, rfl⟩
  · exact .inr ⟨g, 0, cap, rfl, h3, (h.own.lt (g := g) (by simp [Value.ownBlock])).2, fun i hi => ⟨_, IsNums.of_owns (h.nums i hi) (Nat.le_refl _), by
      have hx : Xs[i]? = some (Xs.getD i (.slice none 0 0)) := by
        have : i < Xs.length := by rw [h.len]; exact hi
        simp [List.getD, List.getElem?_eq_getElem this]
      have := h.own.1.cells (g := g) rfl i _ hx
      rw [addr_zero_j] at this
      rw [Nat.zero_add]
      exact this⟩⟩
theorem u64_info : (Try.prog.info? 33).map (fun i => (i.zero, i.size, i.bytes)) = some (some (.int .u64 0), 1, 8) := by kernel_rfl
theorem make_u64s (n : Nat) (hn : n ≤ 100000) (w : World) : (Instr.makeSlice 26 (.int .i64 (n : Int)) (.int .i64 (n : Int))).run Try.prog w = .ok (.slice (some ⟨w.heap.size, 0, none⟩) n n) (w.alloc (.cells (madeCells (Value.int .u64 0).cells (n * 1)) 33)) := by
  obtain ⟨i, h1, h2, h3, h4⟩ := info_parts u64_info
  have h := run_make (P := Try.prog) w 26 33 i _ Try.underlying26 h1 h2 .i64 .i64 (n : Int) (n : Int) (by omega) (Int.le_refl _) (by rw [h4]; omega) (by omega)
  rw [h3] at h
  simpa using h
/-- A row of words of the call's own. -/
def wordsU (f : Nat → Nat) : Nat → Value := fun i => .int .u64 ((f i : Nat) : Int)
structure MkAt (w wr : World) (n : Nat) (f : Nat → Nat) : Prop where
  bel : Below w.heap.size w wr
  row : RowAt wr w.heap.size n 33 (wordsU f)
theorem MkAt.made (n : Nat) (w : World) : MkAt w (w.alloc (.cells (madeCells (Value.int .u64 0).cells (n * 1)) 33)) n (fun _ => 0) :=
  ⟨(Below.refl _ _).alloc (Nat.le_refl _) _, (RowAt.made w 33 (.int .u64 0) n _ (by simp [madeCells]) fun i hi => made_row rfl hi).congr fun i hi => rfl⟩
theorem MkAt.set {w wr : World} {n : Nat} {f : Nat → Nat} (h : MkAt w wr n f) (x z : Nat) : MkAt w (wr.setCell ⟨w.heap.size, x, none⟩ (.int .u64 ((z : Nat) : Int))) n (fun i => if i = x then z else f i) :=
  ⟨h.bel.setCell (p := ⟨w.heap.size, x, none⟩) (Nat.le_refl _) _, (h.row.set x _).congr fun i hi => by unfold wordsU; by_cases e : i = x <;> simp [e]⟩
theorem MkAt.grow {w wr W : World} {n : Nat} {f : Nat → Nat} (h : MkAt w wr n f) (hb : Below wr.heap.size wr W) : MkAt w W n f := ⟨h.bel.trans (hb.mono h.bel.size), h.row.below hb h.row.lt⟩
theorem MkAt.drew {w wr : World} {n : Nat} {f : Nat → Nat} (h : MkAt w wr n f) : MkAt w wr.drew n f := ⟨h.bel.drew, h.row.heap rfl⟩
theorem MkAt.congr {w wr : World} {n : Nat} {f f' : Nat → Nat} (h : MkAt w wr n f) (he : ∀ i, i < n → f i = f' i) : MkAt w wr n f' := ⟨h.bel, h.row.congr fun i hi => by unfold wordsU; rw [he i hi]⟩
def badP (p : Int) : Prop := p < 0 ∨ 8 < p
def MasksN (w : World) (l : List InsV) (p : Int) (n : Nat) (e : Ending) (w' : World) : Prop :=
  Below w.heap.size w w' ∧ ((badP p ∧ e = .returned (.tuple #[.slice none 0 0, .int .i64 2])) ∨ (¬ badP p ∧ check10 l ≠ 0 ∧ e = .returned (.tuple #[.slice none 0 0, .int .i64 (check10 l)])) ∨
    (¬ badP p ∧ check10 l = 0 ∧ ∃ gb, e = .returned (.tuple #[.slice (some ⟨gb, 0, none⟩) n n, .int .i64 0]) ∧ w.heap.size ≤ gb ∧ RowAt w' gb n 33 (wordsU (maskV l p.toNat))))
end Go.Proofs.Ytjoiocjnffaogaa
