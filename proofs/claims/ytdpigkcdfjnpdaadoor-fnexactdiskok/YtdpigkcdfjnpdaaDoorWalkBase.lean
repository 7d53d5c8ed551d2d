/- What the walks of the laws on disks share: the variables in which they keep disks; no condition. -/
import Derived.Test.YtdpigkcdfjnpdaaDoorImplOk
import Derived.Deep.RegionHeld3
namespace Go.Proofs.YtdpigkcdfjnpdaaDoor
open Go.RowKit
set_option linter.unusedVariables false

/-- A variable that holds the caller's disk. -/
def VarL (w : World) (b : Nat) (x y : Value) : Prop := w.heap[b]? = some (.cells #[x, y] 46 (0, 0))
theorem VarL.c0 {w : World} {b : Nat} {x y : Value} (h : VarL w b x y) : w.cell? ⟨b, 0, none⟩ = some x := by rw [cell_of_row _ _ _ _ _ _ h]; rfl
theorem VarL.c1 {w : World} {b : Nat} {x y : Value} (h : VarL w b x y) : w.cell? ⟨b, 1, none⟩ = some y := by rw [cell_of_row _ _ _ _ _ _ h]; rfl
theorem VarL.lt {w : World} {b : Nat} {x y : Value} (h : VarL w b x y) : b < w.heap.size := lt_of_block h
theorem VarL.step {w w' : World} {b : Nat} {x y : Value} (h : VarL w b x y) (hb : Below w.heap.size w w') : VarL w' b x y := (hb.block b h.lt).trans h
theorem VarL.turn {w w' : World} {b l k : Nat} {x y : Value} (h : VarL w b x y) (t : Turns l k w w') (ho : b < l ∨ k ≤ b) : VarL w' b x y := (t.block b h.lt ho).trans h
theorem VarL.new (w : World) (x y : Value) : VarL (w.alloc (.cells #[x, y] 46)) w.heap.size x y := heap_alloc_new w _
theorem sizeD_small {d : Dk} (h : ¬ left (sizeD d) 1048576 < 0) : Small d := small_of d (by
  unfold left at h
  split at h
  · assumption
  · exact absurd (by decide) h)
end Go.Proofs.YtdpigkcdfjnpdaaDoor
