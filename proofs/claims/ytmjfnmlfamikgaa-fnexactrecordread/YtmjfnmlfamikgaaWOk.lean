/- May a transaction's number be? By the specification and by the program; no condition. -/
import Derived.Test.YtmjfnmlfamikgaaWires
import Derived.Test.YtmjfnmlfamikgaaNames4
namespace Go.Proofs.Ytmjfnmlfamikgaa
open Go.RowKit
set_option linter.unusedVariables false
set_option maxRecDepth 100000
set_option linter.unusedSimpArgs false

def num (n : Int) : Bool := decide (0 ≤ n) && decide (n ≤ 2147483647)
def TOk (t : TxD) : Bool := (decide (0 ≤ t.1) && decide (t.1 < 4)) && (num t.2.1 && num t.2.2)
theorem specTxOk_w (t : TxD) (w : World) : Calls Try.prog 29 #[txV t] w fun e w' => e = .returned (.bool (TOk t)) ∧ w' = w.alloc (.cells #[.int .i64 t.1, .int .i64 t.2.1, .int .i64 t.2.2] 44) := by
  obtain ⟨s, i, d⟩ := t
  go_enter Try.func29, Try.ntmps29
  go_wp2
  all_goals (go_ret; exact ⟨by first | rfl | (simp_all [TOk, num] <;> omega), rfl⟩)
theorem implTxOk_w (t : TxD) (w : World) : Calls Try.prog 71 #[txV t] w fun e w' => e = .returned (.bool (TOk t)) ∧ w' = w.alloc (.cells #[.int .i64 t.1, .int .i64 t.2.1, .int .i64 t.2.2] 44) := by
  obtain ⟨s, i, d⟩ := t
  go_enter Try.func71, Try.ntmps71
  go_wp2
  all_goals (go_ret; exact ⟨by first | rfl | (simp_all [TOk, num] <;> omega), rfl⟩)
theorem specTxOk_any (t : TxD) (w : World) : Calls Try.prog 29 #[txV t] w fun e w' => e = .returned (.bool (TOk t)) ∧ Below w.heap.size w w' :=
  (specTxOk_w t w).mono fun e w' ⟨he, hw⟩ => ⟨he, by rw [hw]; exact Below.newH _⟩
theorem implTxOk_any (t : TxD) (w : World) : Calls Try.prog 71 #[txV t] w fun e w' => e = .returned (.bool (TOk t)) ∧ Below w.heap.size w w' :=
  (implTxOk_w t w).mono fun e w' ⟨he, hw⟩ => ⟨he, by rw [hw]; exact Below.newH _⟩
end Go.Proofs.Ytmjfnmlfamikgaa
