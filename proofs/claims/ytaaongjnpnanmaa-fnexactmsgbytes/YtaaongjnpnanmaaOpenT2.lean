/- Entries, nodes and trees that came in as arguments, read as data; no condition. -/
import Derived.Test.YtaaongjnpnanmaaOpenT
namespace Go.Proofs.Ytaaongjnpnanmaa
open Go.RowKit Go.Deep Go.ChangeShapes Go.WideShapes
set_option linter.unusedVariables false
set_option maxRecDepth 100000
set_option linter.unusedSimpArgs false

section
variable {H : Type} {enc : TypeId × Value → H} {w : World} {held : Bool}

set_option maxRecDepth 100000 in
theorem open_entT (fuel : Nat) (cs : List Value) (x : DataW H × List MemPlace) (h : DataW.trod enc Try.prog w 0 (fun _ => true) held fuel 135 cs = some x) : ∃ e : En, ∀ j, j < 4 → RdV w (Old w) (cs[j]?.getD undef) (enCell e j) := by
  obtain ⟨hl, n, ⟨y0, h0⟩, ⟨y1, h1⟩⟩ := trod_fields2 Try.underlying135 h
  have k1 : Try.prog.cellsOf 40 = 3 := by kernel_rfl
  have k2 : Try.prog.cellsOf 41 = 1 := by kernel_rfl
  have k3 : Try.prog.cellsOf 135 = 4 := by kernel_rfl
  rw [k3] at hl
  match cs, hl with
  | [c0, c1, c2, c3], _ =>
    simp only [k1, k2, List.drop_zero, List.take_succ_cons, List.take_zero, List.drop_succ_cons] at h0 h1
    obtain ⟨zs, r0⟩ := open_bytesT h0
    obtain ⟨d, e1⟩ := open_handleT h1
    simp only [List.cons.injEq, and_true] at e1
    obtain ⟨rfl, rfl, rfl⟩ := e1
    refine ⟨⟨zs, d⟩, fun j hj => ?_⟩
    match j, hj with
    | 0, _ => exact r0
    | 1, _ => exact rfl
    | 2, _ => exact rfl
    | 3, _ => exact rfl
theorem open_ensT {fuel : Nat} {v : Value} {x : DataW H × List MemPlace} (h : DataW.trod enc Try.prog w 0 (fun _ => true) held fuel 52 [v] = some x) : ∃ l : List En, RdV w (Old w) v (ensDt l) :=
  open_rowsT (t := 89) (k := 4) en0 Try.underlying52 (by kernel_rfl) (by omega) enCell open_entT h
set_option maxRecDepth 100000 in
theorem open_ndT (fuel : Nat) (cs : List Value) (x : DataW H × List MemPlace) (h : DataW.trod enc Try.prog w 0 (fun _ => true) held fuel 125 cs = some x) : ∃ e : Nd, ∀ j, j < 9 → RdV w (Old w) (cs[j]?.getD undef) (ndCell e j) := by
  obtain ⟨hl, n, ⟨y0, h0⟩, ⟨y1, h1⟩, ⟨y2, h2⟩, ⟨y3, h3⟩, ⟨y4, h4⟩⟩ := trod_fields5 Try.underlying125 h
  have k0 : Try.prog.cellsOf 3 = 1 := by kernel_rfl
  have k1 : Try.prog.cellsOf 40 = 3 := by kernel_rfl
  have k2 : Try.prog.cellsOf 52 = 1 := by kernel_rfl
  have k3 : Try.prog.cellsOf 125 = 9 := by kernel_rfl
  rw [k3] at hl
  match cs, hl with
  | [c0, c1, c2, c3, c4, c5, c6, c7, c8], _ =>
    simp only [k0, k1, k2, List.drop_zero, List.take_succ_cons, List.take_zero, List.drop_succ_cons] at h0 h1 h2 h3 h4
    obtain ⟨d, e0⟩ := open_handleT h0
    obtain ⟨t, e1⟩ := open_handleT h1
    obtain ⟨p, e2, _, _⟩ := DataW.trod_int Try.underlying3 h2
    obtain ⟨q, e3, _, _⟩ := DataW.trod_int Try.underlying3 h3
    obtain ⟨es, r4⟩ := open_ensT h4
    simp only [List.cons.injEq, and_true] at e0 e1 e2 e3
    obtain ⟨rfl, rfl, rfl⟩ := e0
    obtain ⟨rfl, rfl, rfl⟩ := e1
    subst e2
    subst e3
    refine ⟨⟨d, t, p, q, es⟩, fun j hj => ?_⟩
    match j, hj with
    | 0, _ => exact rfl
    | 1, _ => exact rfl
    | 2, _ => exact rfl
    | 3, _ => exact rfl
    | 4, _ => exact rfl
    | 5, _ => exact rfl
    | 6, _ => exact rfl
    | 7, _ => exact rfl
    | 8, _ => exact r4
theorem open_ndsT {fuel : Nat} {v : Value} {x : DataW H × List MemPlace} (h : DataW.trod enc Try.prog w 0 (fun _ => true) held fuel 22 [v] = some x) : ∃ l : List Nd, RdV w (Old w) v (ndsDt l) :=
  open_rowsT (t := 83) (k := 9) nd0 Try.underlying22 (by kernel_rfl) (by omega) ndCell open_ndT h
set_option maxRecDepth 100000 in
theorem open_treeA {b0 : Nat} {r : Reach} {v : Value} {x : DataW H} {p : List MemPlace} (hv : Value.okWide Try.prog w r b0 24 v) (h : DataW.Trod enc Try.prog w 0 (fun _ => true) held 24 v x p) :
    ∃ l : List Nd, ∃ x, v = .agg #[x] ∧ RdV w (Old w) x (ndsDt l) := by
  obtain ⟨cs, rfl, hsz⟩ := okWide_struct Try.underlying24 hv
  obtain ⟨fuel, hf⟩ := h
  obtain ⟨hl, n, ⟨y0, h0⟩⟩ := trod_fields1 Try.underlying24 hf
  have k2 : Try.prog.cellsOf 22 = 1 := by kernel_rfl
  have k3 : Try.prog.cellsOf 24 = 1 := by kernel_rfl
  rw [k3] at hl
  obtain ⟨l⟩ := cs
  match l, hl with
  | [c0], _ =>
    simp only [k2, List.drop_zero, List.take_succ_cons, List.take_zero] at h0
    obtain ⟨es, r⟩ := open_ndsT h0
    exact ⟨es, c0, rfl, r⟩
end
end Go.Proofs.Ytaaongjnpnanmaa
