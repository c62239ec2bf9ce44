/- What the statements of layer 8 share: SameModule. Contract; no condition but that the modules lie in memory. -/
import Derived.Test.YtohlifeenhaifaaGreatDoorS11
import Derived.Test.YtohlifeenhaifaaGreatDoorS09
namespace Go.Proofs.YtohlifeenhaifaaGreatDoor
open Go.RowKit Go.Shelf
set_option linter.unusedVariables false
set_option linter.unusedSimpArgs false

end Go.Proofs.YtohlifeenhaifaaGreatDoor
