/- The specification's look at a directory's entries. Condition: at most 2^21 of all. -/
import Derived.Test.YtnphmhobpmaebaaGreatDoorPA00
import Derived.Laws.Cover1
namespace Go.Proofs.YtnphmhobpmaebaaGreatDoor
open Go.RowKit
set_option linter.unusedVariables false
set_option linter.unusedSimpArgs false

def geS (xs ys : List Int) : Bool := !Op.bytesLess (strOfNums xs).toList (strOfNums ys).toList
def entOk (es : List En) (i : Nat) : Bool := isNm (es[i]?.getD en0).nm && (HOk (es[i]?.getD en0).h && (decide (findE es (es[i]?.getD en0).nm = (i : Int)) && (decide (i = 0) || !geS (es[i - 1]?.getD en0).nm (es[i]?.getD en0).nm)))
def entsOk (es : List En) : Bool := (List.range es.length).all (entOk es)
def baseOk (n : Nd) : Bool := HOk n.h && (decide (1 ≤ n.links) && (decide (n.links ≤ 2147483647) && (decide (0 ≤ n.val) && (decide (n.val ≤ 2147483647) && decide (n.es.length ≤ 12)))))
def fileOk (n : Nd) : Bool := decide (n.es.length = 0) && decide (n.par = hd0)
def dirOk (n : Nd) : Bool := decide (n.val = 0) && (decide (n.links = 1) && (HOk n.par && n.par.dir))
def ndOk (n : Nd) : Bool := baseOk n && (if n.h.dir then dirOk n && entsOk n.es else fileOk n)
theorem range_all_next (f : Nat → Bool) (k : Nat) (h : (List.range k).all f = true) (hk : f k = true) : (List.range (k + 1)).all f = true := by rw [List.range_succ, List.all_append, h]; simp [hk]
theorem range_all_false (f : Nat → Bool) (n k : Nat) (hk : k < n) (h : f k = false) : (List.range n).all f = false := by
  rw [List.all_eq_false]
  exact ⟨k, by simpa using hk, by simp [h]⟩


end Go.Proofs.YtnphmhobpmaebaaGreatDoor
