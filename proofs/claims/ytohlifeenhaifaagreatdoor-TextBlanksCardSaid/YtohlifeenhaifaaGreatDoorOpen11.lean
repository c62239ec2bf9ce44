/- How numbers that are handed to a statement are opened. Plain lemma; no condition. -/
import Derived.Test.YtohlifeenhaifaaGreatDoorS09
namespace Go.Proofs.YtohlifeenhaifaaGreatDoor
open Go.RowKit Go.ChangeShapes Go.WideShapes
set_option linter.unusedVariables false

set_option maxRecDepth 100000 in
theorem open_nums_value {H : Type} {enc : TypeId × Value → H} {w : World} {r : Reach} {b0 : Nat} {v : Value} {d : DataW H} {p : List MemPlace} (hv : Value.okWide Tryz.prog w r b0 26 v)
    (h : DataW.Trod enc Tryz.prog w 0 (fun _ => true) true 26 v d p) : ∃ zs, IsNums .i64 w w.heap.size v zs := by
  obtain ⟨a, len, cap, rfl⟩ := okWide_slice Tryz.underlying26 hv
  obtain ⟨fuel, hf⟩ := h
  exact open_nums hf
end Go.Proofs.YtohlifeenhaifaaGreatDoor
