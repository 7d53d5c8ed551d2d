/- A journal that came in as an argument, read as data, is a journal that the walks can read; no condition. -/
import Derived.Test.YtjhaanenkeceiaaDoorOpenDisk
import Derived.Test.YtjhaanenkeceiaaDoorJournals
import Derived.Deep.Strs
namespace Go.Proofs.YtjhaanenkeceiaaDoor
open Go.RowKit Go.Deep Go.ChangeShapes Go.WideShapes
set_option linter.unusedVariables false

section
variable {H : Type} {enc : TypeId × Value → H} {w : World} {held : Bool}

theorem four {cs : Array Value} (h : cs.size = 4) : ∃ a b c d, cs = #[a, b, c, d] := by
  obtain ⟨l⟩ := cs
  match l, h with
  | [a, b, c, d], _ => exact ⟨a, b, c, d, rfl⟩

set_option maxRecDepth 100000 in
theorem open_journal {b0 : Nat} {r : Reach} {v : Value} {x : DataW H} {p : List MemPlace} (hv : Value.okWide Tryd.prog w r b0 50 v) (h : DataW.Trod enc Tryd.prog w 0 (fun _ => true) held 50 v x p) : ∃ j : Jn, RdJ w 0 w.heap.size v j := by
  obtain ⟨cs, rfl, hsz⟩ := okWide_struct Tryd.underlying50 hv
  have hC : Tryd.prog.cellsOf 50 = 4 := by kernel_rfl
  obtain ⟨c0, c1, c2, c3, rfl⟩ := four (hsz.trans hC)
  obtain ⟨fuel, hf⟩ := h
  obtain ⟨y0, y1, y2, n, _, _, h0, h1, h2⟩ := trod_struct3 Tryd.underlying50 hf
  have k0 : Tryd.prog.cellsOf 48 = 2 := by kernel_rfl
  have k1 : Tryd.prog.cellsOf 3 = 1 := by kernel_rfl
  simp only [k0, k1, Value.cells, List.drop_zero, List.take_succ_cons, List.take_zero, List.drop_succ_cons] at h0 h1 h2
  obtain ⟨z0, z1, n', _, _, g0, g1⟩ := trod_struct2 Tryd.underlying48 h0
  have k2 : Tryd.prog.cellsOf 23 = 1 := by kernel_rfl
  have k3 : Tryd.prog.cellsOf 46 = 1 := by kernel_rfl
  simp only [k2, k3, List.drop_zero, List.take_succ_cons, List.take_zero, List.drop_succ_cons] at g0 g1
  obtain ⟨pp, e1, _, _⟩ := DataW.trod_int Tryd.underlying3 h1
  obtain ⟨qq, e2, _, _⟩ := DataW.trod_int Tryd.underlying3 h2
  simp only [List.cons.injEq, and_true] at e1 e2
  subst e1
  subst e2
  obtain ⟨zss, hz⟩ := open_lists g0
  obtain ⟨ws, hw⟩ := open_waits g1
  exact ⟨((zss, ws), pp, qq), c0, c1, rfl, _, _, rfl, hz, hw⟩
end
end Go.Proofs.YtjhaanenkeceiaaDoor
