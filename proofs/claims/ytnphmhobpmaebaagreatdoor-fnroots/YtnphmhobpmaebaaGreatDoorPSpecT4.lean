/- The specification's look at a node by itself. Condition: at most 2^21 of all. -/
import Derived.Test.YtnphmhobpmaebaaGreatDoorPSpecT4a
namespace Go.Proofs.YtnphmhobpmaebaaGreatDoor
open Go.RowKit
set_option linter.unusedVariables false
set_option linter.unusedSimpArgs false

end Go.Proofs.YtnphmhobpmaebaaGreatDoor
