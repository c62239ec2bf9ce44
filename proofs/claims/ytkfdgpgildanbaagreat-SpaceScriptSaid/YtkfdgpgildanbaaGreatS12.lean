import Derived.Test.YtkfdgpgildanbaaGreatS11
import Derived.StillTailTactics
import Derived.Lib.SliceRun
import Derived.Deep.RegionLaw
import Derived.Deep.RegionHeldLaw
namespace Go.Proofs.YtkfdgpgildanbaaGreat
open Go.RowKit Go.Shelf
set_option linter.unusedVariables false
set_option linter.unusedSimpArgs false
section
variable {w w' : World} {rb B : Nat} {X D F : Value} {b : List Int} {s : Rd}
theorem but_one (w : World) (rb o : Nat) (v : Value) : But (OneBlock rb) w (w.setCell ⟨rb, o, none⟩ v) := (But.refl (OneBlock rb) w).setCell (p := ⟨rb, o, none⟩) (.inl rfl) _
end
theorem cell1 {w : World} {tb : Nat} {V : Value} {T : TypeId} (h : w.heap[tb]? = some (.cells #[V] T (0, 0))) : w.cell? ⟨tb, 0, none⟩ = some V := by simp [World.cell?, h]
end Go.Proofs.YtkfdgpgildanbaaGreat
namespace Go.Proofs.YtkfdgpgildanbaaGreat
open Go.RowKit Go.Shelf
set_option linter.unusedVariables false
set_option linter.unusedSimpArgs false
end Go.Proofs.YtkfdgpgildanbaaGreat
namespace Go.Proofs.YtkfdgpgildanbaaGreat
open Go.RowKit Go.Shelf
set_option linter.unusedVariables false
set_option linter.unusedSimpArgs false
end Go.Proofs.YtkfdgpgildanbaaGreat
namespace Go.Proofs.YtkfdgpgildanbaaGreat
open Go.RowKit Go.Shelf
set_option linter.unusedVariables false
set_option linter.unusedSimpArgs false
end Go.Proofs.YtkfdgpgildanbaaGreat
