/- What the verifier's counting of entries, nodes, trees and operations answers; no condition on them. -/
import Derived.Test.YtklhikadhohjbaaGreatMA01
namespace Go.Proofs.YtklhikadhohjbaaGreat
open Go.RowKit
set_option linter.unusedVariables false

def leftT (n s : Nat) : Int := if n ≤ s then (s : Int) - n else -1

def psum {α : Type} (f : α → Nat) (l : List α) (j : Nat) : Nat := ((l.take j).map f).sum
theorem psum_zero {α : Type} (f : α → Nat) (l : List α) : psum f l 0 = 0 := by simp [psum]
theorem psum_next {α : Type} (f : α → Nat) (l : List α) (d : α) (j : Nat) (h : j < l.length) : psum f l (j + 1) = psum f l j + f (l[j]?.getD d) := by
 unfold psum
 rw [List.take_succ_eq_append_getElem h, List.map_append, List.sum_append]
 simp [h]
theorem psum_le {α : Type} (f : α → Nat) (l : List α) (j : Nat) : psum f l j ≤ (l.map f).sum := by
 have : (l.map f).sum = ((l.take j).map f).sum + ((l.drop j).map f).sum := by rw [← List.sum_append, ← List.map_append, List.take_append_drop]
 unfold psum
 omega

theorem psum_mono0 {α : Type} (f g : α → Nat) (h : ∀ a, f a ≤ g a) (l : List α) : (l.map f).sum ≤ (l.map g).sum := by
 induction l with
 | nil => simp
 | cons x r ih => have := h x; simp; omega

end Go.Proofs.YtklhikadhohjbaaGreat
