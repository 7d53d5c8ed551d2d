/- What the package's variables hold when a call begins, and a start that is so; no condition. -/
import Derived.Test.YtjhaanenkeceiaaDoorRows
import Derived.Test.YtjhaanenkeceiaaDoorImplOk
import Derived.ProofKit
import Derived.ChangeSame
import Derived.ChangeVars
import Derived.JoinedOf
import Derived.LaidLaws
import Derived.Lay
import Derived.Stop.LaidErr
import Derived.OpenShut
import Derived.ShutString
import Derived.ChangeOld
import Derived.Below
namespace Go.Proofs.YtjhaanenkeceiaaDoor
open Go.ChangeShapes Go.WideShapes Go.ChangeAt Go.RowKit
set_option linter.unusedVariables false

theorem Tryd.own : ownKnob Tryd.prog.godebug = none := by kernel_rfl
theorem Tryd.laidOut : laidOutB Tryd.prog = true := by kernel_rfl
theorem Tryd.g0 : Tryd.prog.globalNamed "loop.example/g00341/impl.errNoSector" = some 2 := by kernel_rfl
theorem Tryd.g1 : Tryd.prog.globalNamed "loop.example/g00341/impl.errNotASector" = some 0 := by kernel_rfl
theorem Tryd.g2 : Tryd.prog.globalNamed "loop.example/g00341/impl.errTooManyWait" = some 1 := by kernel_rfl
theorem Tryd.g0Type : (Tryd.prog.globals[2]?).map (·.type) = some 85 := by kernel_rfl
theorem Tryd.g1Type : (Tryd.prog.globals[0]?).map (·.type) = some 85 := by kernel_rfl
theorem Tryd.g2Type : (Tryd.prog.globals[1]?).map (·.type) = some 85 := by kernel_rfl
theorem Tryd.cellsErr : Tryd.prog.cellsOf 157 = 1 := by kernel_rfl
theorem Tryd.cellsStr : Tryd.prog.cellsOf 9 = 1 := by kernel_rfl
theorem Tryd.star : "*" ++ "errors.errorString" = "*errors.errorString" := by decide
theorem Tryd.rowErr (u : TypeId) (h : Tryd.prog.typeName? 3 u = some "*errors.errorString") : u = 131 :=
  typeName_ptr_named (nm := "errors.errorString") (by rw [Tryd.star]; kernel_rfl) (by kernel_rfl) (by decide) u (by rw [Tryd.star]; exact h)

abbrev laid1 : List (String × DataW Unit) := [("loop.example/g00341/impl.errNoSector", Rows.laid_loop_example_g00341_impl_errNoSector)]
abbrev laid3 : List (String × DataW Unit) := [("loop.example/g00341/impl.errNoSector", Rows.laid_loop_example_g00341_impl_errNoSector), ("loop.example/g00341/impl.errNotASector", Rows.laid_loop_example_g00341_impl_errNotASector), ("loop.example/g00341/impl.errTooManyWait", Rows.laid_loop_example_g00341_impl_errTooManyWait)]
theorem laidWorld1_met (os : Os) (args : Array Value) : laidMetH Tryd.prog laid1 ((World.laidAll Tryd.prog os laid1).forCall (fun _ _ => 0) ⟨#[], args, []⟩).memory := laidMet_laidAll _ (by kernel_rfl) (by kernel_rfl)
theorem laidWorld3_met (os : Os) (args : Array Value) : laidMetH Tryd.prog laid3 ((World.laidAll Tryd.prog os laid3).forCall (fun _ _ => 0) ⟨#[], args, []⟩).memory := laidMet_laidAll _ (by kernel_rfl) (by kernel_rfl)

theorem var?_below {P : Program} {W W' : World} {n : String} {g : Nat} {cs : Array Value} (hg : P.globalNamed n = some g) (h : W.var? P n = some cs) (hb : Below W.heap.size W W') : W'.var? P n = some cs := by
  unfold World.var? at h ⊢
  simp only [hg, Option.bind_some] at h ⊢
  have hlt : g < W.heap.size := by
    rcases Nat.lt_or_ge g W.heap.size with h' | h'
    · exact h'
    · simp [Array.getElem?_eq_none h'] at h
  rw [hb.block g hlt]
  exact h

theorem sentinel1 {W : World} (h : laidMetH Tryd.prog laid1 W) : ∃ a, W.var? Tryd.prog "loop.example/g00341/impl.errNoSector" = some #[errV a] := by
  have h' : laidMet Tryd.prog laid1 W := h
  obtain ⟨a, s, hv, _⟩ := laid_sentinel h' Tryd.g0 Tryd.g0Type Tryd.underlying85 Tryd.rowErr Tryd.underlying131 Tryd.underlying157 rfl rfl Tryd.underlying9 Tryd.cellsErr Tryd.cellsStr
  exact ⟨a, hv⟩
theorem sentinel3 {W : World} (h : laidMetH Tryd.prog laid3 W) : ∃ a b c, W.var? Tryd.prog "loop.example/g00341/impl.errNoSector" = some #[errV a] ∧ W.var? Tryd.prog "loop.example/g00341/impl.errNotASector" = some #[errV b] ∧ W.var? Tryd.prog "loop.example/g00341/impl.errTooManyWait" = some #[errV c] := by
  have h' : laidMet Tryd.prog laid3 W := h
  obtain ⟨a, s, hv, _⟩ := laid_sentinel h' Tryd.g0 Tryd.g0Type Tryd.underlying85 Tryd.rowErr Tryd.underlying131 Tryd.underlying157 rfl rfl Tryd.underlying9 Tryd.cellsErr Tryd.cellsStr
  obtain ⟨b, s, hv1, _⟩ := laid_sentinel h'.tail Tryd.g1 Tryd.g1Type Tryd.underlying85 Tryd.rowErr Tryd.underlying131 Tryd.underlying157 rfl rfl Tryd.underlying9 Tryd.cellsErr Tryd.cellsStr
  obtain ⟨c, s, hv2, _⟩ := laid_sentinel h'.tail.tail Tryd.g2 Tryd.g2Type Tryd.underlying85 Tryd.rowErr Tryd.underlying131 Tryd.underlying157 rfl rfl Tryd.underlying9 Tryd.cellsErr Tryd.cellsStr
  exact ⟨a, b, c, hv, hv1, hv2⟩
theorem glob_of {W : World} {a : Addr} (h : W.var? Tryd.prog "loop.example/g00341/impl.errNoSector" = some #[errV a])   : Glob W a := by
  show W.cell? ⟨2, 0, none⟩ = some (errV a)
  simpa using World.var?_cell Tryd.g0 h 0
theorem glob1_of {W : World} {a : Addr} (h : W.var? Tryd.prog "loop.example/g00341/impl.errNotASector" = some #[errV a]) : W.cell? ⟨0, 0, none⟩ = some (errV a) := by simpa using World.var?_cell Tryd.g1 h 0
theorem glob2_of {W : World} {a : Addr} (h : W.var? Tryd.prog "loop.example/g00341/impl.errTooManyWait" = some #[errV a]) : W.cell? ⟨1, 0, none⟩ = some (errV a) := by simpa using World.var?_cell Tryd.g2 h 0
theorem vars1 {H : Type} (enc : TypeId × Value → H) {X : World} {a : Addr} (x0 : X.var? Tryd.prog "loop.example/g00341/impl.errNoSector" = some #[errV a]) (sp : Nat → Bool) :
    DataW.TrodVars enc Tryd.prog X sp ["loop.example/g00341/impl.errNoSector"] [tok enc (errV a)] [.cell 2 0] := vars_read1 enc Tryd.g0 Tryd.g0Type Tryd.underlying85 x0 trivial sp
theorem vars3 {H : Type} (enc : TypeId × Value → H) {X : World} {a b c : Addr} (x0 : X.var? Tryd.prog "loop.example/g00341/impl.errNoSector" = some #[errV a]) (x1 : X.var? Tryd.prog "loop.example/g00341/impl.errNotASector" = some #[errV b]) (x2 : X.var? Tryd.prog "loop.example/g00341/impl.errTooManyWait" = some #[errV c]) (sp : Nat → Bool) :
    DataW.TrodVars enc Tryd.prog X sp ["loop.example/g00341/impl.errNoSector", "loop.example/g00341/impl.errNotASector", "loop.example/g00341/impl.errTooManyWait"] [tok enc (errV a), tok enc (errV b), tok enc (errV c)] [.cell 2 0, .cell 0 0, .cell 1 0] :=
  ⟨2, 85, #[errV a], 1, [], [.cell 0 0, .cell 1 0], Tryd.g0, Tryd.g0Type, x0, trod_held (v := errV a) Tryd.underlying85 trivial 0, ⟨0, 85, #[errV b], 1, [], [.cell 1 0], Tryd.g1, Tryd.g1Type, x1, trod_held (v := errV b) Tryd.underlying85 trivial 0, vars_read1 enc Tryd.g2 Tryd.g2Type Tryd.underlying85 x2 trivial sp, rfl⟩, rfl⟩
end Go.Proofs.YtjhaanenkeceiaaDoor
