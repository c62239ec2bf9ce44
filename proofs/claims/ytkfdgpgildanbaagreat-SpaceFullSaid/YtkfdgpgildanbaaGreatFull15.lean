/- SpaceFull's call, all ways; a slice of numbers that comes in, with its numbers' bounds. No condition but what each names. -/
import Derived.Test.YtkfdgpgildanbaaGreatSp15X
import Derived.Test.YtkfdgpgildanbaaGreatSp15T
import Derived.Test.YtkfdgpgildanbaaGreatOpen08
namespace Go.Proofs.YtkfdgpgildanbaaGreat
open Go.RowKit Go.Shelf Go.ChangeShapes Go.WideShapes Go.ChangeAt
set_option linter.unusedVariables false
theorem full15 (D F V : Value) (data ls : List Int) (fs : List FunV) (w : World) (hD : IsBytes w w.heap.size D data) (hF : IsFuns w w.heap.size F fs) (hN : IsNums .i64 w w.heap.size V ls) (hin : ∀ x ∈ ls, InI x) (memory : Int) (hm : InI memory) :
    Calls Tryz.prog 9 #[.agg #[D, F], .int .i64 memory, V] w (Makes w (.bool true)) := by
  obtain ⟨DA, dc, rfl⟩ := hD.len
  obtain ⟨FA, fc, rfl⟩ := hF.len
  obtain ⟨LA, lc, rfl⟩ := hN.len
  have h : FullIn w data fs ls DA FA LA dc fc lc := ⟨hD, hF, hN⟩
  cases h1 : longM ⟨data, fs⟩ with
  | true => exact full15_none h memory hm (.inl h1)
  | false =>
    by_cases h2 : fs.length = 0
    · exact full15_none h memory hm (.inr (.inl h2))
    · by_cases h3 : 300 < ls.length
      · exact full15_none h memory hm (.inr (.inr h3))
      · exact full15_main h memory hm h1 (Nat.pos_of_ne_zero h2) (Nat.le_of_not_lt h3) hin
set_option maxRecDepth 100000 in
theorem open_numsin_value {H : Type} {enc : TypeId × Value → H} {w : World} {r : Reach} {b0 : Nat} {v : Value} {d : DataW H} {p : List MemPlace} (hv : Value.okWide Tryz.prog w r b0 43 v)
    (h : DataW.Trod enc Tryz.prog w 0 (fun _ => true) true 43 v d p) : ∃ l, IsNums .i64 w w.heap.size v l ∧ ∀ x ∈ l, InI x := by
  obtain ⟨a, len, cap, rfl⟩ := okWide_slice Tryz.underlying43 hv
  obtain ⟨fuel, hf⟩ := h
  exact open_nums_in hf
end Go.Proofs.YtkfdgpgildanbaaGreat
