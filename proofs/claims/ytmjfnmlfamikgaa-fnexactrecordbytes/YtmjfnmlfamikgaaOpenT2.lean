/- Entries, nodes and trees that came in as arguments, read as data; no condition. -/
import Derived.Test.YtmjfnmlfamikgaaOpenT
namespace Go.Proofs.Ytmjfnmlfamikgaa
open Go.RowKit Go.Deep Go.ChangeShapes Go.WideShapes
set_option linter.unusedVariables false
set_option maxRecDepth 100000
set_option linter.unusedSimpArgs false

section
variable {H : Type} {enc : TypeId × Value → H} {w : World} {held : Bool}

set_option maxRecDepth 100000 in
theorem open_entT (fuel : Nat) (cs : List Value) (x : DataW H × List MemPlace) (h : DataW.trod enc Try.prog w 0 (fun _ => true) held fuel 133 cs = some x) : ∃ e : En, ∀ j, j < 4 → RdV w (Old w) (cs[j]?.getD undef) (enCell e j) := by
  obtain ⟨hl, n, ⟨y0, h0⟩, ⟨y1, h1⟩⟩ := trod_fields2 Try.underlying133 h
  have k1 : Try.prog.cellsOf 23 = 3 := by kernel_rfl
  have k2 : Try.prog.cellsOf 24 = 1 := by kernel_rfl
  have k3 : Try.prog.cellsOf 133 = 4 := by kernel_rfl
  rw [k3] at hl
  match cs, hl with
  | [c0, c1, c2, c3], _ =>
    simp only [k1, k2, List.drop_zero, List.take_succ_cons, List.take_zero, List.drop_succ_cons] at h0 h1
    obtain ⟨zs, r0⟩ := open_bytesT h0
    obtain ⟨d, e1⟩ := open_handleT h1
    simp only [List.cons.injEq, and_true] at e1
    obtain ⟨rfl, rfl, rfl⟩ := e1
    refine ⟨⟨zs, d⟩, fun j hj => ?_⟩
    match j, hj with
    | 0, _ => exact r0
    | 1, _ => exact rfl
    | 2, _ => exact rfl
    | 3, _ => exact rfl
theorem open_ensT {fuel : Nat} {v : Value} {x : DataW H × List MemPlace} (h : DataW.trod enc Try.prog w 0 (fun _ => true) held fuel 27 [v] = some x) : ∃ l : List En, RdV w (Old w) v (ensDt l) :=
  open_rowsT (t := 107) (k := 4) en0 Try.underlying27 (by kernel_rfl) (by omega) enCell open_entT h
end
end Go.Proofs.Ytmjfnmlfamikgaa
