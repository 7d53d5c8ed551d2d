/- The program's DiskOk as a plain function; no condition on the disk. It leans on the package's variable errNoSector holding an error of errors.New's make. -/
import Derived.Test.YtdgeomjciaebdaaIs
import Derived.Test.YtdgeomjciaebdaaSpecDisk
namespace Go.Proofs.Ytdgeomjciaebdaa
open Go.RowKit
set_option linter.unusedVariables false

end Go.Proofs.Ytdgeomjciaebdaa
