/- The specification's putting of a node into its place. Condition: at most 3,000 nodes. -/
import Derived.Test.YtnphmhobpmaebaaGreatDoorPA01
import Derived.Test.YtnphmhobpmaebaaGreatDoorPA00
namespace Go.Proofs.YtnphmhobpmaebaaGreatDoor
open Go.RowKit
set_option linter.unusedVariables false
set_option linter.unusedSimpArgs false
set_option maxRecDepth 100000

/-- The place of a handle among nodes. -/
def plN (l : List Nd) (h : Hd) : Nat := l.findIdx (fun n => !lessH n.h h)
def insN (l : List Nd) (n : Nd) : List Nd := l.take (plN l n.h) ++ [n] ++ l.drop (plN l n.h)
end Go.Proofs.YtnphmhobpmaebaaGreatDoor
