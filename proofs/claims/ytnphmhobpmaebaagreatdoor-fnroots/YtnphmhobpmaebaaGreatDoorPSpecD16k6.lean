/- The specification's doing of an operation of the kind 6. Condition: at most 3,000 nodes, of at most 4,000 entries each; each entry's node is there. -/
import Derived.Test.YtnphmhobpmaebaaGreatDoorPA04
namespace Go.Proofs.YtnphmhobpmaebaaGreatDoor
open Go.RowKit
set_option linter.unusedVariables false
set_option linter.unusedSimpArgs false
set_option maxRecDepth 100000

end Go.Proofs.YtnphmhobpmaebaaGreatDoor
