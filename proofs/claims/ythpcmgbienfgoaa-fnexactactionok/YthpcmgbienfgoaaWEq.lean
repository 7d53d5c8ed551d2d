/- Transactions' numbers, parts and replies that read alike are found so by the verifier's helpers. Condition: no more than 2^21 of all. -/
import Derived.Test.YthpcmgbienfgoaaWires
import Derived.Test.YthpcmgbienfgoaaEqs
namespace Go.Proofs.Ythpcmgbienfgoaa
open Go.RowKit
set_option linter.unusedVariables false
set_option maxRecDepth 100000

end Go.Proofs.Ythpcmgbienfgoaa
