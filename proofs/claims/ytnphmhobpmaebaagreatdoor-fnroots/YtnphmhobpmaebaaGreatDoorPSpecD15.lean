/- The specification's moving of an entry. Condition: at most 3,000 nodes, of at most 4,000 entries each; each entry's node is there. -/
import Derived.Test.YtnphmhobpmaebaaGreatDoorPA03
namespace Go.Proofs.YtnphmhobpmaebaaGreatDoor
open Go.RowKit
set_option linter.unusedVariables false
set_option linter.unusedSimpArgs false
set_option maxRecDepth 100000

/-- A tree, an operation and a result, in variables. -/
structure MV (w wc : World) (tb lo : Nat) (v : Value) (L1 : Nat → Prop) (l : List Nd) (oc : Array Value) : Prop where
  B : Below w.heap.size w wc
  vT : VarA wc tb 25 #[v]
  s : SG wc lo L1 v l
  vO : VarA wc w.heap.size 35 oc
  vR : VarA wc (w.heap.size + 1) 31 #[.int .i64 0, .int .i64 0, .int .i64 0, .bool false, .int .i64 0, .slice none 0 0]
/-- The same behind changes of the row. -/
structure MW (F : Nat → Prop) (w wc : World) (tb lo : Nat) (v : Value) (L1 : Nat → Prop) (l : List Nd) (oc : Array Value) : Prop where
  t : Turned F w wc
  vT : VarA wc tb 25 #[v]
  s : SG wc lo L1 v l
  vO : VarA wc w.heap.size 35 oc
  vR : VarA wc (w.heap.size + 1) 31 #[.int .i64 0, .int .i64 0, .int .i64 0, .bool false, .int .i64 0, .slice none 0 0]
end Go.Proofs.YtnphmhobpmaebaaGreatDoor
