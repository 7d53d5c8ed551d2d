/- The specification's DiskOk as a plain function; no condition on the disk. -/
import Derived.Test.YtdgeomjciaebdaaSizes
namespace Go.Proofs.Ytdgeomjciaebdaa
open Go.RowKit
set_option linter.unusedVariables false

def secOk (z : List Int) : Bool := z.length == 32
def waitOk (n : Nat) (p : Wt) : Bool := decide (0 ≤ p.1) && decide (p.1 < (n : Int)) && secOk p.2
def okD (d : Dk) : Bool := decide (d.1.length ≤ 2000) && decide (d.2.length ≤ 2000) && d.1.all secOk && d.2.all (waitOk d.1.length)

theorem all_step {α : Type} (f : α → Bool) (l : List α) (dflt : α) (k : Nat) (h : k < l.length) (ht : (l.take k).all f = true) : (f (l[k]?.getD dflt) = true → (l.take (k + 1)).all f = true) ∧ (f (l[k]?.getD dflt) = false → l.all f = false) := by
  constructor
  · intro e
    rw [List.take_succ_eq_append_getElem h, List.all_append, ht]
    simp [h] at e
    simp [e]
  · intro e
    simp [h] at e
    apply Bool.eq_false_iff.2
    intro ha
    rw [List.all_eq_true] at ha
    have := ha _ (List.getElem_mem h)
    rw [e] at this; cases this
theorem Below.alloc1 {w : World} (o : Obj) : Below w.heap.size w (w.alloc o) := (Below.refl _ _).alloc (Nat.le_refl _) _

end Go.Proofs.Ytdgeomjciaebdaa
