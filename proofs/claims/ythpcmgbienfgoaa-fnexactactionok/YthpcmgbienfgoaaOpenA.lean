/- Actions that came in as arguments, read as data; no condition. -/
import Derived.Test.YthpcmgbienfgoaaOpenT
import Derived.Test.YthpcmgbienfgoaaActs0
namespace Go.Proofs.Ythpcmgbienfgoaa
open Go.RowKit Go.Deep Go.ChangeShapes Go.WideShapes
set_option linter.unusedVariables false
set_option linter.unusedSimpArgs false
set_option maxRecDepth 100000

section
variable {H : Type} {enc : TypeId × Value → H} {w : World} {held : Bool}

theorem open_flagsT {fuel : Nat} {v : Value} {x : DataW H × List MemPlace} (h : DataW.trod enc Try.prog w 0 (fun _ => true) held fuel 33 [v] = some x) : ∃ bs, RdV w (Old w) v (flsDt bs) := by
  refine open_rowsT (t := 4) false Try.underlying33 (k := 1) (by kernel_rfl) (by omega) (fun b _ => .bool b) ?_ h
  intro fuel cs x hx
  obtain ⟨b, e, _⟩ := DataW.trod_bool Try.underlying4 hx
  subst e
  exact ⟨b, fun j hj => by obtain rfl : j = 0 := by omega
                           exact RdV.bool b⟩
theorem open_actionT {fuel : Nat} {cs : List Value} {x : DataW H × List MemPlace} (h : DataW.trod enc Try.prog w 0 (fun _ => true) held fuel 35 cs = some x) :
    ∃ (t : AcD) (x y z : Value), cs = [.int .i64 t.kind, .int .i64 t.node, .int .i64 t.i, .int .i64 t.op.kind, .int .i64 t.op.dir.sh, .int .i64 t.op.dir.ino, .bool t.op.dir.dir, x, .int .i64 t.op.to.sh, .int .i64 t.op.to.ino, .bool t.op.to.dir, y, .int .i64 t.op.val, z, .int .i64 t.torn] ∧ RdA w (Old w) t x y z := by
  obtain ⟨hl, n, ⟨y0, h0⟩, ⟨y1, h1⟩, ⟨y2, h2⟩, ⟨y3, h3⟩, ⟨y4, h4⟩, ⟨y5, h5⟩⟩ := trod_fields6 Try.underlying35 h
  have k0 : Try.prog.cellsOf 33 = 1 := by kernel_rfl
  have k1 : Try.prog.cellsOf 3 = 1 := by kernel_rfl
  have k2 : Try.prog.cellsOf 32 = 10 := by kernel_rfl
  have kk : Try.prog.cellsOf 35 = 15 := by kernel_rfl
  rw [kk] at hl
  match cs, hl with
  | c0 :: c1 :: c2 :: c3 :: c4 :: c5 :: c6 :: c7 :: c8 :: c9 :: c10 :: c11 :: c12 :: c13 :: c14 :: [], _ =>
    simp only [k0, k1, k2, List.drop_zero, List.take_succ_cons, List.take_zero, List.drop_succ_cons] at h0 h1 h2 h3 h4 h5
    obtain ⟨k, e0, _, _⟩ := DataW.trod_int Try.underlying3 h0
    simp only [List.cons.injEq, and_true] at e0
    subst e0
    obtain ⟨nd, e1, _, _⟩ := DataW.trod_int Try.underlying3 h1
    simp only [List.cons.injEq, and_true] at e1
    subst e1
    obtain ⟨ii, e2, _, _⟩ := DataW.trod_int Try.underlying3 h2
    simp only [List.cons.injEq, and_true] at e2
    subst e2
    obtain ⟨oo, xx, yy, e3, s1, s2⟩ := open_opT h3
    simp only [List.cons.injEq, and_true] at e3
    obtain ⟨rfl, rfl, rfl, rfl, rfl, rfl, rfl, rfl, rfl, rfl⟩ := e3
    obtain ⟨kp, s3⟩ := open_flagsT h4
    obtain ⟨tn, e5, _, _⟩ := DataW.trod_int Try.underlying3 h5
    simp only [List.cons.injEq, and_true] at e5
    subst e5
    exact ⟨⟨k, nd, ii, oo, kp, tn⟩, _, _, _, rfl, s1, s2, s3⟩
theorem open_actionA {b0 : Nat} {r : Reach} {v : Value} {x : DataW H} {p : List MemPlace} (hv : Value.okWide Try.prog w r b0 35 v) (h : DataW.Trod enc Try.prog w 0 (fun _ => true) held 35 v x p) :
    ∃ t : AcD, ∃ x y z, v = acV t x y z ∧ RdA w (Old w) t x y z := by
  obtain ⟨cs, rfl, hsz⟩ := okWide_struct Try.underlying35 hv
  obtain ⟨fuel, hf⟩ := h
  obtain ⟨t, x, y, z, e, r1⟩ := open_actionT hf
  refine ⟨t, x, y, z, ?_, r1⟩
  obtain ⟨l⟩ := cs
  have e' : l = _ := e
  subst e'
  rfl
end
end Go.Proofs.Ythpcmgbienfgoaa
