/- May a reply be? By the specification and by the program. Condition: no more than 2^21 of all. -/
import Derived.Test.YthpcmgbienfgoaaWOk2
import Derived.Test.YthpcmgbienfgoaaOpOks2
import Derived.Deep.RegionHeld3
namespace Go.Proofs.Ythpcmgbienfgoaa
open Go.RowKit
set_option linter.unusedVariables false
set_option linter.unusedSimpArgs false
set_option maxRecDepth 100000

theorem range_all_nextW (f : Nat → Bool) (k : Nat) (h : (List.range k).all f = true) (hk : f k = true) : (List.range (k + 1)).all f = true := by rw [List.range_succ, List.all_append, h]; simp [hk]
theorem range_all_falseW (f : Nat → Bool) (n k : Nat) (hk : k < n) (h : f k = false) : (List.range n).all f = false := by
  rw [Bool.eq_false_iff]; intro ha; rw [List.all_eq_true] at ha; have := ha k (by simpa using hk); rw [h] at this; cases this
def enOk (e : En) : Bool := isNm e.nm && HOk e.h
def enOkAt (l : List En) (i : Nat) : Bool := enOk (l[i]?.getD en0)
def noneOk (h : Hd) : Bool := decide (h = hd0) || HOk h
def ROk (r : RpD) : Bool := ((decide (0 ≤ r.code) && decide (r.code ≤ 11)) && (num r.val && (noneOk r.h && decide (r.list.length ≤ 12)))) && (List.range r.list.length).all (enOkAt r.list)
end Go.Proofs.Ythpcmgbienfgoaa
