/- A list of bytes or of flags that came in as an argument, read as data; no condition. -/
import Derived.Test.YtjhaanenkeceiaaDoorOpenDisk
import Derived.Test.YtjhaanenkeceiaaDoorBools
import Derived.Deep.Grids
namespace Go.Proofs.YtjhaanenkeceiaaDoor
open Go.RowKit Go.Deep Go.ChangeShapes Go.WideShapes
set_option linter.unusedVariables false

section
variable {H : Type} {enc : TypeId × Value → H} {w : World} {held : Bool}

set_option maxRecDepth 100000 in
theorem open_bytesArg {b0 : Nat} {r : Reach} {v : Value} {x : DataW H} {p : List MemPlace} (hv : Value.okWide Tryd.prog w r b0 22 v) (h : DataW.Trod enc Tryd.prog w 0 (fun _ => true) held 22 v x p) : ∃ zs, RdB w 0 w.heap.size v zs := by
  obtain ⟨a, n, c, rfl⟩ := okWide_slice Tryd.underlying22 hv
  obtain ⟨fuel, hf⟩ := h
  exact open_bytes hf
theorem open_flags {fuel : Nat} {v : Value} {x : DataW H × List MemPlace} (h : DataW.trod enc Tryd.prog w 0 (fun _ => true) held fuel 43 [v] = some x) : ∃ bs, RdF w 0 w.heap.size v bs := by
  rcases open_bools Tryd.underlying43 Tryd.underlying4 (by kernel_rfl) h with ⟨hcs, _⟩ | ⟨a, len, cap, B, hcs, _, hl, hm, _, hcell⟩
  · simp only [List.cons.injEq, and_true] at hcs
    exact ⟨[], none, 0, 0, hcs, rfl, ⟨Nat.le_refl _, Nat.zero_le _, fun _ => ⟨rfl, rfl⟩⟩, .inl rfl⟩
  · simp only [List.cons.injEq, and_true] at hcs
    refine ⟨(List.range len).map B, some a, len, cap, hcs, by simp, ⟨hl, hm, fun e => by cases e⟩, ?_⟩
    by_cases h0 : len = 0
    · exact .inl (by simp [h0])
    · obtain ⟨b, off, rfl⟩ := spot_none (w := w) (a := a) (v := .bool (B 0)) (by have := hcell 0 (by omega); simpa [Addr.add] using this)
      refine .inr ⟨b, off, rfl, Nat.zero_le _, ?_, fun i hi => ?_⟩
      · have := hcell 0 (by omega); rw [add_plain] at this; exact block_lt_of_cell this
      · have hi' : i < len := by simpa using hi
        have := hcell i (by omega)
        rw [add_plain] at this
        rw [this]
        simp [hi']
set_option maxRecDepth 100000 in
theorem open_boolsArg {b0 : Nat} {r : Reach} {v : Value} {x : DataW H} {p : List MemPlace} (hv : Value.okWide Tryd.prog w r b0 43 v) (h : DataW.Trod enc Tryd.prog w 0 (fun _ => true) held 43 v x p) : ∃ bs, RdF w 0 w.heap.size v bs := by
  obtain ⟨a, n, c, rfl⟩ := okWide_slice Tryd.underlying43 hv
  obtain ⟨fuel, hf⟩ := h
  exact open_flags hf
end
end Go.Proofs.YtjhaanenkeceiaaDoor
