/- May a message be? By the specification. Condition: no more than 2^21 of all. -/
import Derived.Test.YtmjfnmlfamikgaaWMsg0
import Derived.Test.YtmjfnmlfamikgaaWEq2
namespace Go.Proofs.Ytmjfnmlfamikgaa
open Go.RowKit
set_option linter.unusedVariables false
set_option linter.unusedSimpArgs false
set_option maxRecDepth 100000

theorem VarA.ne {w : World} {b : Nat} {T : TypeId} {cs : Array Value} (h : VarA w b T cs) : Nonempty (Cls w) := Cls.ne w
theorem neT_run (p q d s i e : Int) (w : World) : (binOp .neq 44 (.agg #[.int .i64 p, .int .i64 q, .int .i64 d]) (.agg #[.int .i64 s, .int .i64 i, .int .i64 e])).run Try.prog w = .ok (.bool (!decide (p = s ∧ q = i ∧ d = e))) w := by
  by_cases h1 : p = s
  · subst h1
    by_cases h2 : q = i
    · subst h2
      by_cases h3 : d = e
      · subst h3
        simp [go_sem]
      · have g : (d == e) = false := by simpa using h3
        simp [go_sem, g, h3]
    · have g : (q == i) = false := by simpa using h2
      simp [go_sem, g, h2]
  · have g : (p == s) = false := by simpa using h1
    simp [go_sem, g, h1]
end Go.Proofs.Ytmjfnmlfamikgaa
