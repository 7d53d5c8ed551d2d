/- What errors.Is does, for what the program hands it: nil or the very error that is asked for, an error of errors.New's make. No condition. -/
import Derived.Test.YtdgeomjciaebdaaChecked
import Derived.Test.YtdgeomjciaebdaaSteps2
import Derived.WalkKit
import Derived.LaidEql
import Derived.Stop.Asserts
import Derived.RowKitTokens
namespace Go.Proofs.Ytdgeomjciaebdaa
open Go.RowKit Go.Extern.Stop Go.Stop Go.Extern
set_option linter.unusedVariables false

def comparableEntry : Array Value → Sem Value := Extern.ReflectliteType.method fun t => do Extern.Rtype.noPackHeld "Comparable" t; pure (.bool (← typeInfo t).comparable)
end Go.Proofs.Ytdgeomjciaebdaa
