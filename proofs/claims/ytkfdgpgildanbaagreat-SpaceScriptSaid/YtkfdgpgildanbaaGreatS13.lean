import Derived.Test.YtkfdgpgildanbaaGreatS12
import Derived.Test.YtkfdgpgildanbaaGreatS09
import Derived.Test.YtkfdgpgildanbaaGreatS08
import Derived.Test.YtkfdgpgildanbaaGreatS05
import Derived.Test.YtkfdgpgildanbaaGreatS10
namespace Go.Proofs.YtkfdgpgildanbaaGreat
open Go.RowKit Go.Shelf
set_option linter.unusedVariables false
set_option linter.unusedSimpArgs false
theorem other_type {W : World} {g : Nat} {c c' : Array Value} {t t' : TypeId} (h : W.heap[g]? = some (.cells c t (0, 0))) (h' : W.heap[g]? = some (.cells c' t' (0, 0))) : t = t' := by
  rw [h] at h'
  injection h' with h'
  injection h' with _ h' _
section
variable {base : Nat} {W W' : World} {rb B : Nat} {X D F : Value} {b : List Int} {s s' : Rd} {data : List Int} {fs : List FunV} {Cs : List Value}
end
end Go.Proofs.YtkfdgpgildanbaaGreat
namespace Go.Proofs.YtkfdgpgildanbaaGreat
open Go.RowKit Go.Shelf
set_option linter.unusedVariables false
set_option linter.unusedSimpArgs false
end Go.Proofs.YtkfdgpgildanbaaGreat
namespace Go.Proofs.YtkfdgpgildanbaaGreat
open Go.RowKit Go.Shelf
set_option linter.unusedVariables false
set_option linter.unusedSimpArgs false
end Go.Proofs.YtkfdgpgildanbaaGreat
namespace Go.Proofs.YtkfdgpgildanbaaGreat
open Go.RowKit Go.Shelf
set_option linter.unusedVariables false
set_option linter.unusedSimpArgs false
end Go.Proofs.YtkfdgpgildanbaaGreat
namespace Go.Proofs.YtkfdgpgildanbaaGreat
set_option linter.unusedVariables false
set_option linter.unusedSimpArgs false
section
variable {b : List Int} {s : Rd}
end
end Go.Proofs.YtkfdgpgildanbaaGreat
