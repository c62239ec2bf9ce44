/- The document's own Unset of layer 11. Contract; no condition but that the instructions are few. -/
import Derived.Test.YtjoiocjnffaogaaRef11B
namespace Go.Proofs.Ytjoiocjnffaogaa
open Go.RowKit Go.Shelf
set_option linter.unusedVariables false
set_option linter.unusedSimpArgs false

def UnsetN (w : World) (l : List InsV) (p : Int) (e : Ending) (w' : World) : Prop :=
  Below w.heap.size w w' ∧ ((badP p ∧ e = .returned (.tuple #[.int .i64 0, .int .i64 0, .int .i64 2])) ∨ (¬ badP p ∧ check10 l ≠ 0 ∧ e = .returned (.tuple #[.int .i64 0, .int .i64 0, .int .i64 (check10 l)])) ∨
    (¬ badP p ∧ check10 l = 0 ∧ ∃ i r, e = .returned (.tuple #[.int .i64 i, .int .i64 r, .int .i64 0]) ∧ UnsIs l p.toNat i r))
theorem mask_bitI (l : List InsV) (p i : Nat) {r : Nat} (h : r < 64) : ((maskV l p i : Nat) : Int) / 2 ^ r % 2 = if sureB l p r i then 1 else 0 := by
  have h1 := maskV_bit l p i h
  have h2 : ((maskV l p i : Nat) : Int) / 2 ^ r % 2 = ((maskV l p i / 2 ^ r % 2 : Nat) : Int) := by push_cast; rfl
  rw [h2, h1]
  split <;> rfl
end Go.Proofs.Ytjoiocjnffaogaa
