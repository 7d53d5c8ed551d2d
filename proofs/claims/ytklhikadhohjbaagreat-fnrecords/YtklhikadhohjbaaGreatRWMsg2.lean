/- The program compares two messages of one head. Condition: what the comparisons of their parts answer. -/
import Derived.Test.YtklhikadhohjbaaGreatRWSame
import Derived.Test.YtklhikadhohjbaaGreatRA03
namespace Go.Proofs.YtklhikadhohjbaaGreat
open Go.RowKit
set_option linter.unusedVariables false
set_option linter.unusedSimpArgs false
set_option maxRecDepth 100000

theorem eqT_run (p q d s i e : Int) (w : World) : (binOp .eql 31 (.agg #[.int .i64 p, .int .i64 q, .int .i64 d]) (.agg #[.int .i64 s, .int .i64 i, .int .i64 e])).run Tryz.prog w = .ok (.bool (decide (p = s ∧ q = i ∧ d = e))) w := by
 by_cases h1 : p = s
 ·subst h1
  by_cases h2 : q = i
  ·subst h2
   by_cases h3 : d = e
   ·subst h3
    simp [go_sem]
   ·have g : (d == e) = false := by simpa using h3
    simp [go_sem, g, h3]
  ·have g : (q == i) = false := by simpa using h2
   simp [go_sem, g, h2]
 ·have g : (p == s) = false := by simpa using h1
  simp [go_sem, g, h1]
end Go.Proofs.YtklhikadhohjbaaGreat
