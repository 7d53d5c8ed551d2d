/- Lists of writes that wait: compared, marked, looked at. Conditions: at most 2^21 of them, of at most 2^21 bytes. -/
import Derived.Test.YtdgeomjciaebdaaWaits
namespace Go.Proofs.Ytdgeomjciaebdaa
open Go.RowKit
set_option linter.unusedVariables false

end Go.Proofs.Ytdgeomjciaebdaa
