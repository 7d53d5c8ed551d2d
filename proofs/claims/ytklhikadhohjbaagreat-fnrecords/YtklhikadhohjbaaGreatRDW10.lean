/- What the specification draws: an operation that was bent. Condition: its parts are small. -/
import Derived.Test.YtklhikadhohjbaaGreatRDW4
import Derived.Test.YtklhikadhohjbaaGreatRA02
import Derived.Lib.SlBytesConst
namespace Go.Proofs.YtklhikadhohjbaaGreat
open Go.RowKit
set_option linter.unusedVariables false
set_option linter.unusedSimpArgs false
set_option maxRecDepth 100000

def OpI (o : OpD) : Prop := In64 o.kind ∧ In64 o.dir.sh ∧ In64 o.dir.ino ∧ In64 o.to.sh ∧ In64 o.to.ino ∧ In64 o.val
def BeSaid (w : World) (pb nb : Nat) (e : Ending) (w' : World) : Prop :=
 ∃ (o : OpD) (y z : Value), e = .returned (opV o y z) ∧ OpI o ∧ o.nm.length ≤ 7 ∧ o.asn.length ≤ 7 ∧ RdV w' (fun b => nb ≤ b ∧ b < w'.heap.size) y (.bytes o.nm) ∧ RdV w' (fun b => nb ≤ b ∧ b < w'.heap.size) z (.bytes o.asn) ∧ CurAt w' pb ∧ w.grownBy w' (some pb)
structure BD (w wc : World) (pb : Nat) (oc : Array Value) : Prop where
 c : CurAt wc pb
 g : w.grownBy wc (some pb)
 vO : VarA wc w.heap.size 26 oc
 vR : VarA wc (w.heap.size + 1) 26 #[.int .i64 0, .int .i64 0, .int .i64 0, .bool false, .slice none 0 0, .int .i64 0, .int .i64 0, .bool false, .slice none 0 0, .int .i64 0]
end Go.Proofs.YtklhikadhohjbaaGreat
