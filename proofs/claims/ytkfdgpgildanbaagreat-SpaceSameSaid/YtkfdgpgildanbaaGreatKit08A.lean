import Derived.Test.YtkfdgpgildanbaaGreatS11
import Derived.Test.YtkfdgpgildanbaaGreatS09
namespace Go.Proofs.YtkfdgpgildanbaaGreat
open Go.RowKit Go.Shelf
set_option linter.unusedVariables false
set_option linter.unusedSimpArgs false
end Go.Proofs.YtkfdgpgildanbaaGreat
