/- The verifier's sameBytes tells two slices of the same bytes to be the same. Condition: at most 2^21 bytes. -/
import Derived.Test.YtjhaanenkeceiaaDoorOwn
import Derived.WalkSpells
import Derived.Laws.BytesArg
namespace Go.Proofs.YtjhaanenkeceiaaDoor
open Go.RowKit
set_option linter.unusedVariables false

theorem conv_any (a : Option Addr) (xs : List Int) (len cap : Nat) (w : World) (hx : Reads w a xs) (hl : len = xs.length) : (convert 22 9 (.slice a len cap)).run Tryd.prog w = .ok (.string (strOfNums xs)) w := by
  subst hl
  cases a with
  | none =>
    rcases hx.2 with rfl | ⟨b, off, ha, _⟩
    · exact run_convert_bytes_nil w 22 5 Tryd.underlying22 Tryd.underlying5 _ _ 9 Tryd.underlying9
    · cases ha
  | some ad =>
    by_cases h0 : xs = []
    · subst h0
      rw [run_convert_bytes_string w 22 9 5 _ _ cap Tryd.underlying22 Tryd.underlying5 Tryd.underlying9]
      have hld : (loadCells ad 0).run Tryd.prog w = .ok (([] : List Int).map (Value.int .u8)).toArray w := by
        have := run_loadCells_list (P := Tryd.prog) w ad [] (fun j v hj => by simp at hj)
        simpa using this
      rw [List.length_nil, run_bytesToString w ad 0 cap [] hld]
      rfl
    · rcases hx.2 with h1 | ⟨b, off, ha, hb, hc⟩
      · exact absurd h1 h0
      · cases ha
        exact run_convert_bytes_arg w 22 5 Tryd.underlying22 Tryd.underlying5 b off xs.length cap xs rfl (fun i hi => by rw [hc i hi]; simp) 9 Tryd.underlying9

set_option maxHeartbeats 1000000 in
theorem sameBytes_any (a b : Option Addr) (xs : List Int) (la ca lb cb : Nat) (w : World) (hx : Reads w a xs) (hy : Reads w b xs) (hla : la = xs.length) (hlb : lb = xs.length) :
    Calls Tryd.prog 14 #[.slice a la ca, .slice b lb cb] w fun e w' => e = .returned (.bool true) ∧ w' = w := by
  have h1 := conv_any a xs la ca w hx hla
  have h2 := conv_any b xs lb cb w hy hlb
  generalize strOfNums xs = s at h1 h2
  clear hla hlb hx hy
  go_enter Tryd.func14, Tryd.ntmps14
  go_wp2
  go_ret
  exact ⟨by simp, rfl⟩
theorem sameBytes_v (v : Value) (b : Option Addr) (xs : List Int) (base lb cb : Nat) (w : World) (hx : Owns w base v xs) (bx : isBytes xs) (hy : Reads w b xs) (hlb : lb = xs.length) :
    Calls Tryd.prog 14 #[v, .slice b lb cb] w fun e w' => e = .returned (.bool true) ∧ w' = w := by
  obtain ⟨a, ca, rfl, _, _, ra⟩ := hx.open bx
  exact sameBytes_any a b xs _ ca lb cb w ra hy rfl hlb
end Go.Proofs.YtjhaanenkeceiaaDoor
