/- The specification's look at a tree. Condition: at most 2^21 of all. -/
import Derived.Test.YtnphmhobpmaebaaGreatDoorPA00
import Derived.Test.YtnphmhobpmaebaaGreatDoorPSpecT4
namespace Go.Proofs.YtnphmhobpmaebaaGreatDoor
open Go.RowKit
set_option linter.unusedVariables false
set_option linter.unusedSimpArgs false

def entLead (l : List Nd) (n : Nd) (e : En) : Bool := decide (fi l e.h < l.length) && (!e.h.dir || decide ((l[fi l e.h]?.getD nd0).par = n.h))
def tailT (l : List Nd) (n : Nd) : Bool := if n.h = rootH then decide (cntH l n.h = 0) else decide ((cntH l n.h : Int) = n.links) && rch l (l.length + 1) n
def nodeT (l : List Nd) (i : Nat) : Bool := ndOk (l[i]?.getD nd0) && ((decide (i = 0) || lessH (l[i - 1]?.getD nd0).h (l[i]?.getD nd0).h) && ((l[i]?.getD nd0).es.all (entLead l (l[i]?.getD nd0)) && tailT l (l[i]?.getD nd0)))
def headT (l : List Nd) : Bool := (decide (1 ≤ l.length) && decide (l.length ≤ 240)) && (decide ((l[0]?.getD nd0).h = rootH) && decide ((l[0]?.getD nd0).par = rootH))
def treeOk (l : List Nd) : Bool := headT l && (List.range l.length).all (nodeT l)
theorem decH_false {p q s i : Int} {d e : Bool} (h : ¬ ((p, q, d) : Hd) = (s, i, e)) : decide (p = s ∧ q = i ∧ d = e) = false := by
  rw [decide_eq_false_iff_not]
  rintro ⟨rfl, rfl, rfl⟩
  exact h rfl
theorem decH_true {p q s i : Int} {d e : Bool} (h : ((p, q, d) : Hd) = (s, i, e)) : decide (p = s ∧ q = i ∧ d = e) = true := by
  rw [decide_eq_true_iff]
  simp only [Prod.mk.injEq] at h
  exact h

end Go.Proofs.YtnphmhobpmaebaaGreatDoor
