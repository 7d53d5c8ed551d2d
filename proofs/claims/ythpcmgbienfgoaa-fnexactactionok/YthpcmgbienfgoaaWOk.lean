/- May a transaction's number be? By the specification and by the program; no condition. -/
import Derived.Test.YthpcmgbienfgoaaWires
import Derived.Test.YthpcmgbienfgoaaNames4
namespace Go.Proofs.Ythpcmgbienfgoaa
open Go.RowKit
set_option linter.unusedVariables false
set_option maxRecDepth 100000
set_option linter.unusedSimpArgs false

def num (n : Int) : Bool := decide (0 ≤ n) && decide (n ≤ 2147483647)
def TOk (t : TxD) : Bool := (decide (0 ≤ t.1) && decide (t.1 < 4)) && (num t.2.1 && num t.2.2)
end Go.Proofs.Ythpcmgbienfgoaa
