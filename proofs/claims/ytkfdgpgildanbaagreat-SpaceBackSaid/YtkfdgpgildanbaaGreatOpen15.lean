/- A slice of words that comes in, with its words' bounds. No condition but what it names. -/
import Derived.Test.YtkfdgpgildanbaaGreatSp15T
namespace Go.Proofs.YtkfdgpgildanbaaGreat
open Go.RowKit Go.Shelf Go.ChangeShapes Go.WideShapes Go.ChangeAt
set_option linter.unusedVariables false
set_option maxRecDepth 100000 in
theorem open_u64sin_value {H : Type} {enc : TypeId × Value → H} {w : World} {r : Reach} {b0 : Nat} {v : Value} {d : DataW H} {p : List MemPlace} (hv : Value.okWide Tryz.prog w r b0 102 v)
    (h : DataW.Trod enc Tryz.prog w 0 (fun _ => true) true 102 v d p) : ∃ l, IsNums .u64 w w.heap.size v l ∧ ∀ x ∈ l, 0 ≤ x ∧ x < 18446744073709551616 := by
  obtain ⟨a, len, cap, rfl⟩ := okWide_slice Tryz.underlying102 hv
  obtain ⟨fuel, hf⟩ := h
  rcases open_ints Tryz.underlying102 Tryz.underlying42 (by kernel_rfl) hf with ⟨hcs, _⟩ | ⟨a, l, cap, zs, hcs, _, hl, hm, hz, _, hcell, hwz⟩
  · injection hcs with hcs _
    rw [hcs]
    exact ⟨[], ⟨by simp, .inl ⟨rfl, rfl⟩⟩, by simp⟩
  · injection hcs with hcs _
    rw [hcs]
    exact ⟨_, IsNums.of_cells hl hm (by simpa using hz) hcell, fun x hx => wf_u64 (hwz x (List.mem_of_mem_take hx))⟩
end Go.Proofs.YtkfdgpgildanbaaGreat
