/- The verifier's sameBytes tells two slices of the same bytes to be the same. Condition: at most 2^21 bytes. -/
import Derived.Test.YthpcmgbienfgoaaOwn
import Derived.WalkSpells
import Derived.Laws.BytesArg
namespace Go.Proofs.Ythpcmgbienfgoaa
open Go.RowKit
set_option linter.unusedVariables false

theorem conv_any (a : Option Addr) (xs : List Int) (len cap : Nat) (w : World) (hx : Reads w a xs) (hl : len = xs.length) : (convert 30 9 (.slice a len cap)).run Try.prog w = .ok (.string (strOfNums xs)) w := by
  subst hl
  cases a with
  | none =>
    rcases hx.2 with rfl | ⟨b, off, ha, _⟩
    · exact run_convert_bytes_nil w 30 5 Try.underlying30 Try.underlying5 _ _ 9 Try.underlying9
    · cases ha
  | some ad =>
    by_cases h0 : xs = []
    · subst h0
      rw [run_convert_bytes_string w 30 9 5 _ _ cap Try.underlying30 Try.underlying5 Try.underlying9]
      have hld : (loadCells ad 0).run Try.prog w = .ok (([] : List Int).map (Value.int .u8)).toArray w := by
        have := run_loadCells_list (P := Try.prog) w ad [] (fun j v hj => by simp at hj)
        simpa using this
      rw [List.length_nil, run_bytesToString w ad 0 cap [] hld]
      rfl
    · rcases hx.2 with h1 | ⟨b, off, ha, hb, hc⟩
      · exact absurd h1 h0
      · cases ha
        exact run_convert_bytes_arg w 30 5 Try.underlying30 Try.underlying5 b off xs.length cap xs rfl (fun i hi => by rw [hc i hi]; simp) 9 Try.underlying9

end Go.Proofs.Ythpcmgbienfgoaa
