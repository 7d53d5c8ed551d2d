/- Two handles compared, as one step; no condition. -/
import Derived.Test.YthpcmgbienfgoaaRoots
import Derived.Test.YthpcmgbienfgoaaCls
namespace Go.Proofs.Ythpcmgbienfgoaa
open Go.RowKit
set_option linter.unusedVariables false
set_option linter.unusedSimpArgs false

theorem eqH_run (p q s i : Int) (d e : Bool) (w : World) : (binOp .eql 38 (.agg #[.int .i64 p, .int .i64 q, .bool d]) (.agg #[.int .i64 s, .int .i64 i, .bool e])).run Try.prog w = .ok (.bool (decide (p = s ∧ q = i ∧ d = e))) w := by
  by_cases h1 : p = s
  · subst h1
    by_cases h2 : q = i
    · subst h2
      by_cases h3 : d = e
      · subst h3
        simp [go_sem]
      · have g : (d == e) = false := by simpa using h3
        simp [go_sem, g, h3]
    · have g : (q == i) = false := by simpa using h2
      simp [go_sem, g, h2]
  · have g : (p == s) = false := by simpa using h1
    simp [go_sem, g, h1]
theorem neH_run (p q s i : Int) (d e : Bool) (w : World) : (binOp .neq 38 (.agg #[.int .i64 p, .int .i64 q, .bool d]) (.agg #[.int .i64 s, .int .i64 i, .bool e])).run Try.prog w = .ok (.bool (!decide (p = s ∧ q = i ∧ d = e))) w := by
  by_cases h1 : p = s
  · subst h1
    by_cases h2 : q = i
    · subst h2
      by_cases h3 : d = e
      · subst h3
        simp [go_sem]
      · have g : (d == e) = false := by simpa using h3
        simp [go_sem, g, h3]
    · have g : (q == i) = false := by simpa using h2
      simp [go_sem, g, h2]
  · have g : (p == s) = false := by simpa using h1
    simp [go_sem, g, h1]
end Go.Proofs.Ythpcmgbienfgoaa
