/- May a part be? By the specification and by the program. Condition: a text of at most 2^21 bytes. -/
import Derived.Test.YthpcmgbienfgoaaWOk
import Derived.Test.YthpcmgbienfgoaaEqH
import Derived.Deep.QuietTactic
import Derived.BigQuiet
namespace Go.Proofs.Ythpcmgbienfgoaa
open Go.RowKit
set_option linter.unusedVariables false
set_option maxRecDepth 100000
set_option linter.unusedSimpArgs false

def POk (p : PtD) : Bool :=
  if p.kind = 0 then HOk p.h && (decide (p.asn.length = 0) && decide (p.to = hd0))
  else if p.kind = 1 then (HOk p.h && !p.h.dir) && (decide (p.asn.length = 0) && decide (p.to = hd0))
  else if p.kind = 2 then ((decide (0 ≤ p.h.sh) && decide (p.h.sh < 4)) && decide (p.h.ino = 0)) && (decide (p.asn.length = 0) && (HOk p.to && p.to.dir))
  else if p.kind = 3 then (HOk p.h && p.h.dir) && (isNm p.asn && HOk p.to)
  else if p.kind = 4 then (HOk p.h && p.h.dir) && (decide (p.asn.length = 0) && (HOk p.to && p.to.dir))
  else if p.kind = 5 then decide (p.h = hd0) && (decide (p.asn.length = 0) && decide (p.to = hd0))
  else false
theorem Below.al {a b : World} (h : Below a.heap.size a b) (o : Obj) : Below a.heap.size a (b.alloc o) := h.alloc h.size _
theorem implShard_w (n : Int) (w : World) : Calls Try.prog 39 #[.int .i64 n] w fun e w' => e = .returned (.bool (decide (0 ≤ n) && decide (n < 4))) ∧ w' = w := by
  go_enter Try.func39, Try.ntmps39
  go_wp2
  all_goals (go_ret; exact ⟨by first | rfl | (simp_all; done) | (simp_all; omega), rfl⟩)
end Go.Proofs.Ythpcmgbienfgoaa
