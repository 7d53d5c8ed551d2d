/- A list of bytes or of flags that came in as an argument, read as data; no condition. -/
import Derived.Test.YtdgeomjciaebdaaOpenDisk
import Derived.Test.YtdgeomjciaebdaaBools
import Derived.Deep.Grids
namespace Go.Proofs.Ytdgeomjciaebdaa
open Go.RowKit Go.Deep Go.ChangeShapes Go.WideShapes
set_option linter.unusedVariables false

section
variable {H : Type} {enc : TypeId × Value → H} {w : World} {held : Bool}

set_option maxRecDepth 100000 in
theorem open_bytesArg {b0 : Nat} {r : Reach} {v : Value} {x : DataW H} {p : List MemPlace} (hv : Value.okWide Try.prog w r b0 22 v) (h : DataW.Trod enc Try.prog w 0 (fun _ => true) held 22 v x p) : ∃ zs, RdB w 0 w.heap.size v zs := by
  obtain ⟨a, n, c, rfl⟩ := okWide_slice Try.underlying22 hv
  obtain ⟨fuel, hf⟩ := h
  exact open_bytes hf
end
end Go.Proofs.Ytdgeomjciaebdaa
