/- The specification's Do. Condition: at most 2^21 of all. -/
import Derived.Test.YtnphmhobpmaebaaGreatDoorPA05
namespace Go.Proofs.YtnphmhobpmaebaaGreatDoor
open Go.RowKit
set_option linter.unusedVariables false
set_option linter.unusedSimpArgs false
set_option maxRecDepth 100000

theorem step_stF {ty t' : TypeId} {dst : Option Tmp} {x y : Operand} {pos : String} {af : Array Edge} {ops : Array Oper} {a : Act} {K : Act → World → Prop} {Q : Exit → Act → World → Prop} {E : Prop} {w : World} {g off : Nat} {T : TypeId} {old vs new : Array Value}
    (hv : VarA w g T old) (hx : a.eval x = .pointer (some ⟨g, off, none⟩)) (hy : a.eval y = .agg vs) (hi : (Tryz.prog.info? ty).map (·.size) = some vs.size) (h1 : vs.toList.all (·.oneCell') = true) (hl : off + vs.size ≤ old.size)
    (hnew : (old.toList.take off ++ vs.toList ++ old.toList.drop (off + vs.size)).toArray = new)
    (hK : ∀ w', VarA w' g T new → Turned (fun b => b = g) w w' → K (a.put dst undef) w') :
    if Region.wanted ⟨dst, .store ty x y, t', pos, af, none⟩ (yielded ops a.tmps) = true then Oper.wp Tryz.prog ⟨dst, .store ty x y, t', pos, af, none⟩ a w K Q else E := by
  rw [if_pos (by simp [Region.wanted])]
  unfold Oper.wp execOp
  simp only [hx, hy, Instr.storeAt, Instr.sureAddr, Sem.run_bind, Sem.run_pure, Result.andThen_ok, storeF_run hv hl hi h1]
  rw [hnew]
  exact hK _ (VarA.row hv) (turned_row w g new)
theorem results_two {fn : Func} {p q : Tmp} {ty ty2 : TypeId} (h : fn.results = #[.cell p ty, .cell q ty2]) (tmps : Array Value) (w : World) (g g2 : Nat) (t t2 : TypeId) (cs cs2 : Array Value) (d d2 : TypeDesc)
    (hp : tmps.getD p undef = .pointer (some ⟨g, 0, none⟩)) (hq : tmps.getD q undef = .pointer (some ⟨g2, 0, none⟩)) (hg : VarA w g t cs) (hg2 : VarA w g2 t2 cs2)
    (hu : Tryz.prog.underlying ty = some d) (hd : d.isRow = true) (hi : (Tryz.prog.info? ty).map (·.size) = some cs.size) (hu2 : Tryz.prog.underlying ty2 = some d2) (hd2 : d2.isRow = true) (hi2 : (Tryz.prog.info? ty2).map (·.size) = some cs2.size) :
    (results fn tmps).run Tryz.prog w = .ok (.tuple #[.agg cs, .agg cs2]) w := by
  have hp' : tmps[p]?.getD undef = .pointer (some ⟨g, 0, none⟩) := by simpa using hp
  have hq' : tmps[q]?.getD undef = .pointer (some ⟨g2, 0, none⟩) := by simpa using hq
  simp only [results, h]
  simp [Sem.run_bind, Result.andThen, hp', hq', asAddr, loadA_run hg hu hd hi, loadA_run hg2 hu2 hd2 hi2]
/-- The variables of Do. -/
structure DS (w wc : World) (x : Value) (oc fc : Array Value) : Prop where
  B : Below w.heap.size w wc
  vT : VarA wc w.heap.size 25 #[x]
  vO : VarA wc (w.heap.size + 1) 35 oc
  vF : VarA wc (w.heap.size + 2) 28 fc
  vX : VarA wc (w.heap.size + 3) 25 #[.slice none 0 0]
  vR : VarA wc (w.heap.size + 4) 31 #[.int .i64 0, .int .i64 0, .int .i64 0, .bool false, .int .i64 0, .slice none 0 0]
theorem DS.step {w wc wd : World} {x : Value} {oc fc : Array Value} (m : DS w wc x oc fc) (h : Below wc.heap.size wc wd) : DS w wd x oc fc :=
  ⟨m.B.trans (h.mono m.B.size), m.vT.step h, m.vO.step h, m.vF.step h, m.vX.step h, m.vR.step h⟩
/-- .. and the copy that is worked on. -/
structure DT (w wc : World) (x : Value) (oc fc : Array Value) (tb lo : Nat) (v : Value) (l : List Nd) : Prop where
  m : DS w wc x oc fc
  vU : VarA wc tb 25 #[v]
  s : SG wc lo (LT lo tb) v l
theorem below2 {w wc wy wz : World} {a b : Nat} (h : Below w.heap.size w wc) (t : Turned (fun k => k = a) wc wy) (u : Turned (fun k => k = b) wy wz) (ha : w.heap.size ≤ a) (hb : w.heap.size ≤ b) : Below w.heap.size w wz :=
  Turned.below (Turned.below h t h.size (fun i e => by omega)) u (Nat.le_trans h.size t.size) (fun i e => by omega)
/-- What is said of Do. -/
def DoSaid (w : World) (res : List Nd × RpD) (e : Ending) (w' : World) : Prop :=
  ∃ ta tn tc zx, e = .returned (.tuple #[.agg #[.slice ta tn tc], rpV res.2 zx]) ∧ RdV w' (fun b => w.heap.size ≤ b ∧ b < w'.heap.size) (.slice ta tn tc) (ndsDt res.1) ∧ RdV w' (fun b => w.heap.size ≤ b ∧ b < w'.heap.size) zx (ensDt res.2.list) ∧ Below w.heap.size w w'
end Go.Proofs.YtnphmhobpmaebaaGreatDoor
