/- Actions as data; no condition. -/
import Derived.Test.YthpcmgbienfgoaaFls
import Derived.Test.YthpcmgbienfgoaaWMsg0
namespace Go.Proofs.Ythpcmgbienfgoaa
open Go.RowKit
set_option linter.unusedVariables false
set_option linter.unusedSimpArgs false
set_option maxRecDepth 100000

structure AcD where
  kind : Int
  node : Int
  i : Int
  op : OpD
  keep : List Bool
  torn : Int
abbrev acV (a : AcD) (x y z : Value) : Value := .agg #[.int .i64 a.kind, .int .i64 a.node, .int .i64 a.i, .int .i64 a.op.kind, .int .i64 a.op.dir.sh, .int .i64 a.op.dir.ino, .bool a.op.dir.dir, x, .int .i64 a.op.to.sh, .int .i64 a.op.to.ino, .bool a.op.to.dir, y, .int .i64 a.op.val, z, .int .i64 a.torn]
theorem VarA.l15 {w : World} {b : Nat} {T : TypeId} {x0 x1 x2 x3 x4 x5 x6 x7 x8 x9 x10 x11 x12 x13 x14 : Value} (h : VarA w b T #[x0, x1, x2, x3, x4, x5, x6, x7, x8, x9, x10, x11, x12, x13, x14]) : w.cell? ⟨b, 0, none⟩ = some x0 ∧ w.cell? ⟨b, 1, none⟩ = some x1 ∧ w.cell? ⟨b, 2, none⟩ = some x2 ∧ w.cell? ⟨b, 3, none⟩ = some x3 ∧ w.cell? ⟨b, 4, none⟩ = some x4 ∧ w.cell? ⟨b, 5, none⟩ = some x5 ∧ w.cell? ⟨b, 6, none⟩ = some x6 ∧ w.cell? ⟨b, 7, none⟩ = some x7 ∧ w.cell? ⟨b, 8, none⟩ = some x8 ∧ w.cell? ⟨b, 9, none⟩ = some x9 ∧ w.cell? ⟨b, 10, none⟩ = some x10 ∧ w.cell? ⟨b, 11, none⟩ = some x11 ∧ w.cell? ⟨b, 12, none⟩ = some x12 ∧ w.cell? ⟨b, 13, none⟩ = some x13 ∧ w.cell? ⟨b, 14, none⟩ = some x14 := ⟨h.c 0 rfl, h.c 1 rfl, h.c 2 rfl, h.c 3 rfl, h.c 4 rfl, h.c 5 rfl, h.c 6 rfl, h.c 7 rfl, h.c 8 rfl, h.c 9 rfl, h.c 10 rfl, h.c 11 rfl, h.c 12 rfl, h.c 13 rfl, h.c 14 rfl⟩
/-- An action's three lists, read. -/
def RdA (w : World) (S : Nat → Prop) (a : AcD) (x y z : Value) : Prop := RdV w S x (.bytes a.op.nm) ∧ RdV w S y (.bytes a.op.asn) ∧ RdV w S z (flsDt a.keep)
theorem RdA.step {w w' : World} {S : Nat → Prop} {a : AcD} {x y z : Value} (r : RdA w S a x y z) (hb : Below w.heap.size w w') : RdA w' S a x y z := ⟨r.1.step hb, r.2.1.step hb, r.2.2.step hb⟩
theorem RdA.mono {w : World} {S S' : Nat → Prop} {a : AcD} {x y z : Value} (t : ∀ b, S b → S' b) (r : RdA w S a x y z) : RdA w S' a x y z := ⟨RdV.mono t r.1, RdV.mono t r.2.1, RdV.mono t r.2.2⟩
def szAc (a : AcD) : Nat := a.op.nm.length + a.op.asn.length + a.keep.length
def AcOk (a : AcD) : Bool :=
  ((decide (0 ≤ a.kind) && decide (a.kind ≤ 7)) && (isEndB a.node && num a.i)) && ((decide (a.keep.length ≤ 20) && (decide (-1 ≤ a.torn) && decide (a.torn ≤ 20))) && (if a.kind = 0 then OOk a.op else zOp a.op))
end Go.Proofs.Ythpcmgbienfgoaa
