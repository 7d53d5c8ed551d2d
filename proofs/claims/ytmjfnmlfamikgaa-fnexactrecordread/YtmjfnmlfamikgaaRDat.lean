/- May a record be? As data. -/
import Derived.Test.YtmjfnmlfamikgaaWMsg0
import Derived.Test.YtmjfnmlfamikgaaWMsg2
import Derived.Test.YtmjfnmlfamikgaaRec0
import Derived.Test.YtmjfnmlfamikgaaCls
import Derived.Test.YtmjfnmlfamikgaaEqH
namespace Go.Proofs.Ytmjfnmlfamikgaa
open Go.RowKit
set_option linter.unusedVariables false
set_option linter.unusedSimpArgs false
set_option maxRecDepth 100000

def clB (n : Int) : Bool := decide (0 ≤ n) && decide (n < 4)
def callB (m : MsD) : Bool := clB m.fr && (num m.req && (OOk m.op && (ROk m.rp && decide (m.rp.list.length = 0))))
def CBody (m : MsD) : Bool :=
  if m.kind = 0 then decide (m.fr = 0) && (decide (m.req = 0) && (zOp m.op && (decide (m.h = hd0) && (zRp m.rp && (zTx m.tx && (zPt m.pt && decide (m.code = 0)))))))
  else if m.kind = 1 then (callB m && noneOk m.h) && (zTx m.tx && (zPt m.pt && decide (m.code = 0)))
  else if m.kind = 2 then (TOk m.tx && (POk m.pt && (isCd m.code && noneOk m.h))) && (decide (m.fr = 0) && (decide (m.req = 0) && (zOp m.op && zRp m.rp)))
  else if m.kind = 3 then (callB m && (TOk m.tx && (decide (m.code = 0) || decide (m.code = 1)))) && (decide (m.h = hd0) && zPt m.pt)
  else (TOk m.tx && (decide (m.code = 0) || decide (m.code = 1))) && (decide (m.fr = 0) && (decide (m.req = 0) && (zOp m.op && (decide (m.h = hd0) && (zRp m.rp && zPt m.pt)))))
def COk (m : MsD) : Bool := (decide (0 ≤ m.kind) && decide (m.kind ≤ 4)) && CBody m
end Go.Proofs.Ytmjfnmlfamikgaa
