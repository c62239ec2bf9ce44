import Derived.Test.YtkfdgpgildanbaaGreatS06
namespace Go.Proofs.YtkfdgpgildanbaaGreat
open Go.RowKit Go.Shelf
set_option linter.unusedVariables false
set_option linter.unusedSimpArgs false
section
variable {w wr : World} {nb B ib R T : Nat} {op : Int} {X : Value} {b : List Int} {sh : ByteArray} {k p : Nat} {a1 a2 a3 n : Int} {V : Value} {args : List Int}
end
end Go.Proofs.YtkfdgpgildanbaaGreat
namespace Go.Proofs.YtkfdgpgildanbaaGreat
open Go.RowKit Go.Shelf
set_option linter.unusedVariables false
set_option linter.unusedSimpArgs false
end Go.Proofs.YtkfdgpgildanbaaGreat
