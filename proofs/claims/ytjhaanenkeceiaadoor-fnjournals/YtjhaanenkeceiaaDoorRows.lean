/-
  NARROWER THAN 'FOR EVERY INPUT', by the rows' own cells (each row's printed sentence says how): FnJournals: ifaces, laid · FnTorn: ifaces, laid · FnExactAppend: ifaces, laid · FnExactOpen: ifaces, laid.
  DERIVED. THE GIVEN ROWS OF THIS SEAT. 4 by the template 'for every input the law returns true; each argument reads behind the call as it read before'; 0 by the template 'total and deterministic' (their statements: YtjhaanenkeceiaaDoorTotals.lean).
  GIVEN WITH THE SEED: the statements are not yours to turn. If you find one false, say at which input.
  Laid BY PROGRAM, IN A SANDBOX (cutbox-rows.mjs): the forced cells as the released guide's own fill.sh prints them over the translation 47630ea469548d57… (all of the seat's roots in one cut). By AI agents, Wed Nov 11 2026. No macro, syntax, notation, axiom, sorry.
-/
import Derived.Test.YtjhaanenkeceiaaDoorChecked
import GoSem.Claim
import GoSem.ClaimJoined
import GoSem.ClaimMapViews
import Derived.JoinedTies
import Derived.KernelRfl
namespace Go.Proofs.YtjhaanenkeceiaaDoor
/- THE CELL 'sum', in the pinned program and in every row, IS THE sha256 OF THE DUMP (.gsa) THAT YtjhaanenkeceiaaDoorProg.lean LOADS. Nothing in Lean hashes anything: it is a label: what it is worth is what the hold of that sum in a sandbox is worth. -/
noncomputable def Tryd.pinned : Pinned := { name := "ytjhaanenkeceiaadoor", sum := "47630ea469548d57b1df960d36570f2a4ee28994514f19b65111f40cad28fb3b", checked := Tryd.checked }
namespace Rows
def none {H : Type} : Left H := { results := [], args := [] }

/- WHAT THE LISTED PACKAGE-LEVEL VARIABLES READ AS WHEN THE CALL BEGINS. Each datum BY PROGRAM (the guide's laid-datum.mjs) off the statement by which the dump's own 'gosem.cut.vars' lays the variable. In a bare row this is a premise. The card (YtjhaanenkeceiaaDoorCards.lean) ties it to the program's text. -/
def laid_loop_example_g00341_impl_errNoSector {H : Type} : DataW H := .iface "*errors.errorString" (.ptr (.agg [.lit (.string [116, 104, 101, 114, 101, 32, 105, 115, 32, 110, 111, 32, 115, 117, 99, 104, 32, 115, 101, 99, 116, 111, 114])]))
def laid_loop_example_g00341_impl_errNotASector {H : Type} : DataW H := .iface "*errors.errorString" (.ptr (.agg [.lit (.string [116, 104, 101, 32, 100, 97, 116, 97, 32, 105, 115, 32, 110, 111, 116, 32, 97, 32, 115, 101, 99, 116, 111, 114, 39, 115])]))
def laid_loop_example_g00341_impl_errTooManyWait {H : Type} : DataW H := .iface "*errors.errorString" (.ptr (.agg [.lit (.string [116, 111, 111, 32, 109, 97, 110, 121, 32, 119, 114, 105, 116, 101, 115, 32, 119, 97, 105, 116])]))

/-- 'laws.FnJournals': WHATEVER THE INPUT: true; the input reads as it did. -/
def fnJournalsSpec : ChangeSpec := { name := "fnJournals", vars := ["loop.example/g00341/impl.errNoSector", "loop.example/g00341/impl.errNotASector", "loop.example/g00341/impl.errTooManyWait"], fn := fun _ => fun
  | [d, g1, g2, g3] => { results := [.lit (.bool true)], args := [d], vars := [g1, g2, g3] }
  | _ => none }
def fnJournalsRow : OpenClaim := { program := "ytjhaanenkeceiaadoor", sum := "47630ea469548d57b1df960d36570f2a4ee28994514f19b65111f40cad28fb3b", func := "loop.example/g00341/laws.FnJournals", spec := "fnJournals", inPlace := ["internal/reflectlite.TypeOf"], unfollowed := true, recurses := true, named := ["loop.example/g00341/impl.errNoSector", "loop.example/g00341/impl.errNotASector", "loop.example/g00341/impl.errTooManyWait"], ifaces := true, apart := false, laid := [("loop.example/g00341/impl.errNoSector", laid_loop_example_g00341_impl_errNoSector), ("loop.example/g00341/impl.errNotASector", laid_loop_example_g00341_impl_errNotASector), ("loop.example/g00341/impl.errTooManyWait", laid_loop_example_g00341_impl_errTooManyWait)] }
def FnJournalsSaid : Prop := fnJournalsRow.holds Tryd.pinned (OpenSpec.ofChange fnJournalsSpec)

/-- ITS FALSE NEIGHBOUR: 'it returns false'. Refute it at one input. -/
def fnJournalsWrong : ChangeSpec := { name := "fnJournals", vars := ["loop.example/g00341/impl.errNoSector", "loop.example/g00341/impl.errNotASector", "loop.example/g00341/impl.errTooManyWait"], fn := fun _ => fun
  | [d, g1, g2, g3] => { results := [.lit (.bool false)], args := [d], vars := [g1, g2, g3] }
  | _ => none }
def FnJournalsWrongFalsely : Prop := fnJournalsRow.holds Tryd.pinned (OpenSpec.ofChange fnJournalsWrong)

/-- 'laws.FnTorn': WHATEVER THE INPUT: true; the input reads as it did. -/
def fnTornSpec : ChangeSpec := { name := "fnTorn", vars := ["loop.example/g00341/impl.errNoSector", "loop.example/g00341/impl.errNotASector", "loop.example/g00341/impl.errTooManyWait"], fn := fun _ => fun
  | [d, g1, g2, g3] => { results := [.lit (.bool true)], args := [d], vars := [g1, g2, g3] }
  | _ => none }
def fnTornRow : OpenClaim := { program := "ytjhaanenkeceiaadoor", sum := "47630ea469548d57b1df960d36570f2a4ee28994514f19b65111f40cad28fb3b", func := "loop.example/g00341/laws.FnTorn", spec := "fnTorn", inPlace := ["internal/reflectlite.TypeOf"], unfollowed := true, recurses := true, named := ["loop.example/g00341/impl.errNoSector", "loop.example/g00341/impl.errNotASector", "loop.example/g00341/impl.errTooManyWait"], ifaces := true, apart := false, laid := [("loop.example/g00341/impl.errNoSector", laid_loop_example_g00341_impl_errNoSector), ("loop.example/g00341/impl.errNotASector", laid_loop_example_g00341_impl_errNotASector), ("loop.example/g00341/impl.errTooManyWait", laid_loop_example_g00341_impl_errTooManyWait)] }
def FnTornSaid : Prop := fnTornRow.holds Tryd.pinned (OpenSpec.ofChange fnTornSpec)

/-- ITS FALSE NEIGHBOUR: 'it returns false'. Refute it at one input. -/
def fnTornWrong : ChangeSpec := { name := "fnTorn", vars := ["loop.example/g00341/impl.errNoSector", "loop.example/g00341/impl.errNotASector", "loop.example/g00341/impl.errTooManyWait"], fn := fun _ => fun
  | [d, g1, g2, g3] => { results := [.lit (.bool false)], args := [d], vars := [g1, g2, g3] }
  | _ => none }
def FnTornWrongFalsely : Prop := fnTornRow.holds Tryd.pinned (OpenSpec.ofChange fnTornWrong)

/-- 'laws.FnExactAppend': WHATEVER THE INPUT: true; the input reads as it did. -/
def fnExactAppendSpec : ChangeSpec := { name := "fnExactAppend", vars := ["loop.example/g00341/impl.errNoSector", "loop.example/g00341/impl.errNotASector", "loop.example/g00341/impl.errTooManyWait"], fn := fun _ => fun
  | [d1, d2, g1, g2, g3] => { results := [.lit (.bool true)], args := [d1, d2], vars := [g1, g2, g3] }
  | _ => none }
def fnExactAppendRow : OpenClaim := { program := "ytjhaanenkeceiaadoor", sum := "47630ea469548d57b1df960d36570f2a4ee28994514f19b65111f40cad28fb3b", func := "loop.example/g00341/laws.FnExactAppend", spec := "fnExactAppend", inPlace := ["internal/reflectlite.TypeOf"], unfollowed := true, recurses := true, named := ["loop.example/g00341/impl.errNoSector", "loop.example/g00341/impl.errNotASector", "loop.example/g00341/impl.errTooManyWait"], ifaces := true, apart := false, laid := [("loop.example/g00341/impl.errNoSector", laid_loop_example_g00341_impl_errNoSector), ("loop.example/g00341/impl.errNotASector", laid_loop_example_g00341_impl_errNotASector), ("loop.example/g00341/impl.errTooManyWait", laid_loop_example_g00341_impl_errTooManyWait)] }
def FnExactAppendSaid : Prop := fnExactAppendRow.holds Tryd.pinned (OpenSpec.ofChange fnExactAppendSpec)

/-- ITS FALSE NEIGHBOUR: 'it returns false'. Refute it at one input. -/
def fnExactAppendWrong : ChangeSpec := { name := "fnExactAppend", vars := ["loop.example/g00341/impl.errNoSector", "loop.example/g00341/impl.errNotASector", "loop.example/g00341/impl.errTooManyWait"], fn := fun _ => fun
  | [d1, d2, g1, g2, g3] => { results := [.lit (.bool false)], args := [d1, d2], vars := [g1, g2, g3] }
  | _ => none }
def FnExactAppendWrongFalsely : Prop := fnExactAppendRow.holds Tryd.pinned (OpenSpec.ofChange fnExactAppendWrong)

/-- 'laws.FnExactOpen': WHATEVER THE INPUT: true; the input reads as it did. -/
def fnExactOpenSpec : ChangeSpec := { name := "fnExactOpen", vars := ["loop.example/g00341/impl.errNoSector"], fn := fun _ => fun
  | [d, g1] => { results := [.lit (.bool true)], args := [d], vars := [g1] }
  | _ => none }
def fnExactOpenRow : OpenClaim := { program := "ytjhaanenkeceiaadoor", sum := "47630ea469548d57b1df960d36570f2a4ee28994514f19b65111f40cad28fb3b", func := "loop.example/g00341/laws.FnExactOpen", spec := "fnExactOpen", inPlace := ["internal/reflectlite.TypeOf"], unfollowed := true, recurses := true, named := ["loop.example/g00341/impl.errNoSector"], ifaces := true, apart := false, laid := [("loop.example/g00341/impl.errNoSector", laid_loop_example_g00341_impl_errNoSector)] }
def FnExactOpenSaid : Prop := fnExactOpenRow.holds Tryd.pinned (OpenSpec.ofChange fnExactOpenSpec)

/-- ITS FALSE NEIGHBOUR: 'it returns false'. Refute it at one input. -/
def fnExactOpenWrong : ChangeSpec := { name := "fnExactOpen", vars := ["loop.example/g00341/impl.errNoSector"], fn := fun _ => fun
  | [d, g1] => { results := [.lit (.bool false)], args := [d], vars := [g1] }
  | _ => none }
def FnExactOpenWrongFalsely : Prop := fnExactOpenRow.holds Tryd.pinned (OpenSpec.ofChange fnExactOpenWrong)

/- THE SECOND FORM. 'bulk': how many values and letters a reading holds, each counted each time it is reached (what is shared counts as often as it is met; a slice's spare places count too). A statement '..UptoSaid' is the law's where the arguments, and the package variables that the reading takes, are together of bulk at most 1048576: NARROWER than '..Said'. Prove '..Said' where nothing that the law and all that it calls make is longer than what came in: it says more and counts as full. Else prove '..UptoSaid'. A law counts once. -/
mutual
def uptoBulk {H : Type} : DataW H → Nat
  | .lit (.string bytes) => bytes.length + 1
  | .lit _ => 1
  | .nil => 1
  | .ptr d => uptoBulk d + 1
  | .slice elems spare => uptoBulkAll elems + uptoBulkAll spare + 1
  | .agg parts => uptoBulkAll parts + 1
  | .iface _ d => uptoBulk d + 1
  | .map entries => uptoBulkEntries entries + 1
  | .held _ => 1
def uptoBulkAll {H : Type} : List (DataW H) → Nat
  | [] => 0
  | d :: r => uptoBulk d + uptoBulkAll r
def uptoBulkEntries {H : Type} : List (Lit × DataW H) → Nat
  | [] => 0
  | x :: r => uptoBulkEntry x + uptoBulkEntries r
def uptoBulkEntry {H : Type} : Lit × DataW H → Nat
  | (.string bytes, d) => bytes.length + uptoBulk d + 1
  | (_, d) => uptoBulk d + 1
 end
def uptoSmall : (H : Type) → List (DataW H) → Bool := fun _ ds => decide (uptoBulkAll ds ≤ 1048576)
def OpenSpec.upto (s : _root_.Go.ChangeSpec) : _root_.Go.OpenSpec := { _root_.Go.OpenSpec.ofChange s with cond := some uptoSmall }

/-- 'laws.FnJournals', WHERE WHAT IT READS IS OF BULK AT MOST 1048576: true; the input reads as it did. -/
def fnJournalsUptoRow : OpenClaim := { program := "ytjhaanenkeceiaadoor", sum := "47630ea469548d57b1df960d36570f2a4ee28994514f19b65111f40cad28fb3b", func := "loop.example/g00341/laws.FnJournals", spec := "fnJournals", inPlace := ["internal/reflectlite.TypeOf"], unfollowed := true, recurses := true, named := ["loop.example/g00341/impl.errNoSector", "loop.example/g00341/impl.errNotASector", "loop.example/g00341/impl.errTooManyWait"], ifaces := true, apart := false, laid := [("loop.example/g00341/impl.errNoSector", laid_loop_example_g00341_impl_errNoSector), ("loop.example/g00341/impl.errNotASector", laid_loop_example_g00341_impl_errNotASector), ("loop.example/g00341/impl.errTooManyWait", laid_loop_example_g00341_impl_errTooManyWait)], narrowed := true }
def FnJournalsUptoSaid : Prop := fnJournalsUptoRow.holds Tryd.pinned (OpenSpec.upto fnJournalsSpec)

/-- 'laws.FnTorn', WHERE WHAT IT READS IS OF BULK AT MOST 1048576: true; the input reads as it did. -/
def fnTornUptoRow : OpenClaim := { program := "ytjhaanenkeceiaadoor", sum := "47630ea469548d57b1df960d36570f2a4ee28994514f19b65111f40cad28fb3b", func := "loop.example/g00341/laws.FnTorn", spec := "fnTorn", inPlace := ["internal/reflectlite.TypeOf"], unfollowed := true, recurses := true, named := ["loop.example/g00341/impl.errNoSector", "loop.example/g00341/impl.errNotASector", "loop.example/g00341/impl.errTooManyWait"], ifaces := true, apart := false, laid := [("loop.example/g00341/impl.errNoSector", laid_loop_example_g00341_impl_errNoSector), ("loop.example/g00341/impl.errNotASector", laid_loop_example_g00341_impl_errNotASector), ("loop.example/g00341/impl.errTooManyWait", laid_loop_example_g00341_impl_errTooManyWait)], narrowed := true }
def FnTornUptoSaid : Prop := fnTornUptoRow.holds Tryd.pinned (OpenSpec.upto fnTornSpec)

/-- 'laws.FnExactAppend', WHERE WHAT IT READS IS OF BULK AT MOST 1048576: true; the input reads as it did. -/
def fnExactAppendUptoRow : OpenClaim := { program := "ytjhaanenkeceiaadoor", sum := "47630ea469548d57b1df960d36570f2a4ee28994514f19b65111f40cad28fb3b", func := "loop.example/g00341/laws.FnExactAppend", spec := "fnExactAppend", inPlace := ["internal/reflectlite.TypeOf"], unfollowed := true, recurses := true, named := ["loop.example/g00341/impl.errNoSector", "loop.example/g00341/impl.errNotASector", "loop.example/g00341/impl.errTooManyWait"], ifaces := true, apart := false, laid := [("loop.example/g00341/impl.errNoSector", laid_loop_example_g00341_impl_errNoSector), ("loop.example/g00341/impl.errNotASector", laid_loop_example_g00341_impl_errNotASector), ("loop.example/g00341/impl.errTooManyWait", laid_loop_example_g00341_impl_errTooManyWait)], narrowed := true }
def FnExactAppendUptoSaid : Prop := fnExactAppendUptoRow.holds Tryd.pinned (OpenSpec.upto fnExactAppendSpec)

/-- 'laws.FnExactOpen', WHERE WHAT IT READS IS OF BULK AT MOST 1048576: true; the input reads as it did. -/
def fnExactOpenUptoRow : OpenClaim := { program := "ytjhaanenkeceiaadoor", sum := "47630ea469548d57b1df960d36570f2a4ee28994514f19b65111f40cad28fb3b", func := "loop.example/g00341/laws.FnExactOpen", spec := "fnExactOpen", inPlace := ["internal/reflectlite.TypeOf"], unfollowed := true, recurses := true, named := ["loop.example/g00341/impl.errNoSector"], ifaces := true, apart := false, laid := [("loop.example/g00341/impl.errNoSector", laid_loop_example_g00341_impl_errNoSector)], narrowed := true }
def FnExactOpenUptoSaid : Prop := fnExactOpenUptoRow.holds Tryd.pinned (OpenSpec.upto fnExactOpenSpec)

end Rows
end Go.Proofs.YtjhaanenkeceiaaDoor
