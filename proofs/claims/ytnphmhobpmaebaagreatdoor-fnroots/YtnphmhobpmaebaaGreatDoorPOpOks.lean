/- What the specification's and the program's looks at an operation answer. Condition: texts of at most 2^21 bytes. -/
import Derived.Test.YtnphmhobpmaebaaGreatDoorPA00
namespace Go.Proofs.YtnphmhobpmaebaaGreatDoor
open Go.RowKit
set_option linter.unusedVariables false
set_option linter.unusedSimpArgs false

def nmP (k : Int) : Bool := k == 0 || k == 5 || k == 4 || k == 6 || k == 7
def toP (k : Int) : Bool := k == 4 || k == 6 || k == 7
def asP (k : Int) : Bool := k == 7
/-- May the operation be? -/
def nmB (o : OpD) : Bool := if nmP o.kind then isNm o.nm else decide (o.nm.length = 0)
def toB (o : OpD) : Bool := if o.kind = 4 then (decide (0 ≤ o.to.sh) && decide (o.to.sh < 4)) && decide (o.to.ino = 0) else if toP o.kind then HOk o.to else decide (o.to = hd0)
def asB (o : OpD) : Bool := if asP o.kind then isNm o.asn else decide (o.asn.length = 0)
def vlB (o : OpD) : Bool := if o.kind = 3 then decide (0 ≤ o.val) && decide (o.val ≤ 2147483647) else decide (o.val = 0)
def OOk (o : OpD) : Bool := ((decide (0 ≤ o.kind) && decide (o.kind ≤ 7)) && HOk o.dir) && (nmB o && (toB o && (asB o && vlB o)))
theorem kinds {k : Int} (h0 : 0 ≤ k) (h7 : k ≤ 7) : k = 0 ∨ k = 1 ∨ k = 2 ∨ k = 3 ∨ k = 4 ∨ k = 5 ∨ k = 6 ∨ k = 7 := by omega
end Go.Proofs.YtnphmhobpmaebaaGreatDoor
