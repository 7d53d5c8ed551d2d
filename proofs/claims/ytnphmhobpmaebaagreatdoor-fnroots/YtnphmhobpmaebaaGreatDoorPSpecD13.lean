/- The specification's dropping of an entry. Condition: at most 3,000 nodes, of at most 4,000 entries each; the entry's node is there. -/
import Derived.Test.YtnphmhobpmaebaaGreatDoorPA02
import Derived.Test.YtnphmhobpmaebaaGreatDoorPA00
namespace Go.Proofs.YtnphmhobpmaebaaGreatDoor
open Go.RowKit
set_option linter.unusedVariables false
set_option linter.unusedSimpArgs false
set_option maxRecDepth 100000

end Go.Proofs.YtnphmhobpmaebaaGreatDoor
