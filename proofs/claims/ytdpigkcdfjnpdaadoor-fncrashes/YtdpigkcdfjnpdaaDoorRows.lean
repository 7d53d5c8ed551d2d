/-
  NARROWER THAN 'FOR EVERY INPUT', by the rows' own cells (each row's printed sentence says how): FnDisks: ifaces, laid · FnCrashes: ifaces, laid · FnExactDiskOk: ifaces, laid · FnExactReadSector: ifaces, laid · FnExactWriteSector: ifaces, laid · FnExactFlush: ifaces, laid · FnExactCrash: ifaces, laid.
  DERIVED. THE GIVEN ROWS OF THIS SEAT. 7 by the template 'for every input the law returns true; each argument reads behind the call as it read before'; 0 by the template 'total and deterministic' (their statements: YtdpigkcdfjnpdaaDoorTotals.lean).
  GIVEN WITH THE SEED: the statements are not yours to turn. If you find one false, say at which input.
  Laid BY PROGRAM, IN A SANDBOX (cutbox-rows.mjs): the forced cells as the released guide's own fill.sh prints them over the translation 7640893eacdf8928… (all of the seat's roots in one cut). By AI agents, Wed Nov 11 2026. No macro, syntax, notation, axiom, sorry.
-/
import Derived.Test.YtdpigkcdfjnpdaaDoorChecked
import GoSem.Claim
import GoSem.ClaimJoined
import GoSem.ClaimMapViews
import Derived.JoinedTies
import Derived.KernelRfl
namespace Go.Proofs.YtdpigkcdfjnpdaaDoor
/- THE CELL 'sum', in the pinned program and in every row, IS THE sha256 OF THE DUMP (.gsa) THAT YtdpigkcdfjnpdaaDoorProg.lean LOADS. Nothing in Lean hashes anything: it is a label: what it is worth is what the hold of that sum in a sandbox is worth. -/
noncomputable def Tryd.pinned : Pinned := { name := "ytdpigkcdfjnpdaadoor", sum := "7640893eacdf8928d7a64e2ad05a7c257869c68a1b65efd391f548580998e3da", checked := Tryd.checked }
namespace Rows
def none {H : Type} : Left H := { results := [], args := [] }

/- WHAT THE LISTED PACKAGE-LEVEL VARIABLES READ AS WHEN THE CALL BEGINS. Each datum BY PROGRAM (the guide's laid-datum.mjs) off the statement by which the dump's own 'gosem.cut.vars' lays the variable. In a bare row this is a premise. The card (YtdpigkcdfjnpdaaDoorCards.lean) ties it to the program's text. -/
def laid_loop_example_g00341_impl_errNoSector {H : Type} : DataW H := .iface "*errors.errorString" (.ptr (.agg [.lit (.string [116, 104, 101, 114, 101, 32, 105, 115, 32, 110, 111, 32, 115, 117, 99, 104, 32, 115, 101, 99, 116, 111, 114])]))
def laid_loop_example_g00341_impl_errNotASector {H : Type} : DataW H := .iface "*errors.errorString" (.ptr (.agg [.lit (.string [116, 104, 101, 32, 100, 97, 116, 97, 32, 105, 115, 32, 110, 111, 116, 32, 97, 32, 115, 101, 99, 116, 111, 114, 39, 115])]))
def laid_loop_example_g00341_impl_errTooManyWait {H : Type} : DataW H := .iface "*errors.errorString" (.ptr (.agg [.lit (.string [116, 111, 111, 32, 109, 97, 110, 121, 32, 119, 114, 105, 116, 101, 115, 32, 119, 97, 105, 116])]))

/-- 'laws.FnDisks': WHATEVER THE INPUT: true; the input reads as it did. -/
def fnDisksSpec : ChangeSpec := { name := "fnDisks", vars := ["loop.example/g00341/impl.errNoSector", "loop.example/g00341/impl.errNotASector", "loop.example/g00341/impl.errTooManyWait"], fn := fun _ => fun
  | [d, g1, g2, g3] => { results := [.lit (.bool true)], args := [d], vars := [g1, g2, g3] }
  | _ => none }
def fnDisksRow : OpenClaim := { program := "ytdpigkcdfjnpdaadoor", sum := "7640893eacdf8928d7a64e2ad05a7c257869c68a1b65efd391f548580998e3da", func := "loop.example/g00341/laws.FnDisks", spec := "fnDisks", inPlace := ["internal/reflectlite.TypeOf"], unfollowed := true, recurses := true, named := ["loop.example/g00341/impl.errNoSector", "loop.example/g00341/impl.errNotASector", "loop.example/g00341/impl.errTooManyWait"], ifaces := true, apart := false, laid := [("loop.example/g00341/impl.errNoSector", laid_loop_example_g00341_impl_errNoSector), ("loop.example/g00341/impl.errNotASector", laid_loop_example_g00341_impl_errNotASector), ("loop.example/g00341/impl.errTooManyWait", laid_loop_example_g00341_impl_errTooManyWait)] }
def FnDisksSaid : Prop := fnDisksRow.holds Tryd.pinned (OpenSpec.ofChange fnDisksSpec)

/-- ITS FALSE NEIGHBOUR: 'it returns false'. Refute it at one input. -/
def fnDisksWrong : ChangeSpec := { name := "fnDisks", vars := ["loop.example/g00341/impl.errNoSector", "loop.example/g00341/impl.errNotASector", "loop.example/g00341/impl.errTooManyWait"], fn := fun _ => fun
  | [d, g1, g2, g3] => { results := [.lit (.bool false)], args := [d], vars := [g1, g2, g3] }
  | _ => none }
def FnDisksWrongFalsely : Prop := fnDisksRow.holds Tryd.pinned (OpenSpec.ofChange fnDisksWrong)

/-- 'laws.FnCrashes': WHATEVER THE INPUT: true; the input reads as it did. -/
def fnCrashesSpec : ChangeSpec := { name := "fnCrashes", vars := ["loop.example/g00341/impl.errNoSector"], fn := fun _ => fun
  | [d, g1] => { results := [.lit (.bool true)], args := [d], vars := [g1] }
  | _ => none }
def fnCrashesRow : OpenClaim := { program := "ytdpigkcdfjnpdaadoor", sum := "7640893eacdf8928d7a64e2ad05a7c257869c68a1b65efd391f548580998e3da", func := "loop.example/g00341/laws.FnCrashes", spec := "fnCrashes", inPlace := ["internal/reflectlite.TypeOf"], unfollowed := true, recurses := true, named := ["loop.example/g00341/impl.errNoSector"], ifaces := true, apart := false, laid := [("loop.example/g00341/impl.errNoSector", laid_loop_example_g00341_impl_errNoSector)] }
def FnCrashesSaid : Prop := fnCrashesRow.holds Tryd.pinned (OpenSpec.ofChange fnCrashesSpec)

/-- ITS FALSE NEIGHBOUR: 'it returns false'. Refute it at one input. -/
def fnCrashesWrong : ChangeSpec := { name := "fnCrashes", vars := ["loop.example/g00341/impl.errNoSector"], fn := fun _ => fun
  | [d, g1] => { results := [.lit (.bool false)], args := [d], vars := [g1] }
  | _ => none }
def FnCrashesWrongFalsely : Prop := fnCrashesRow.holds Tryd.pinned (OpenSpec.ofChange fnCrashesWrong)

/-- 'laws.FnExactDiskOk': WHATEVER THE INPUT: true; the input reads as it did. -/
def fnExactDiskOkSpec : ChangeSpec := { name := "fnExactDiskOk", vars := ["loop.example/g00341/impl.errNoSector"], fn := fun _ => fun
  | [d, g1] => { results := [.lit (.bool true)], args := [d], vars := [g1] }
  | _ => none }
def fnExactDiskOkRow : OpenClaim := { program := "ytdpigkcdfjnpdaadoor", sum := "7640893eacdf8928d7a64e2ad05a7c257869c68a1b65efd391f548580998e3da", func := "loop.example/g00341/laws.FnExactDiskOk", spec := "fnExactDiskOk", inPlace := ["internal/reflectlite.TypeOf"], unfollowed := true, recurses := true, named := ["loop.example/g00341/impl.errNoSector"], ifaces := true, apart := false, laid := [("loop.example/g00341/impl.errNoSector", laid_loop_example_g00341_impl_errNoSector)] }
def FnExactDiskOkSaid : Prop := fnExactDiskOkRow.holds Tryd.pinned (OpenSpec.ofChange fnExactDiskOkSpec)

/-- ITS FALSE NEIGHBOUR: 'it returns false'. Refute it at one input. -/
def fnExactDiskOkWrong : ChangeSpec := { name := "fnExactDiskOk", vars := ["loop.example/g00341/impl.errNoSector"], fn := fun _ => fun
  | [d, g1] => { results := [.lit (.bool false)], args := [d], vars := [g1] }
  | _ => none }
def FnExactDiskOkWrongFalsely : Prop := fnExactDiskOkRow.holds Tryd.pinned (OpenSpec.ofChange fnExactDiskOkWrong)

/-- 'laws.FnExactReadSector': WHATEVER THE INPUT: true; the input reads as it did. -/
def fnExactReadSectorSpec : ChangeSpec := { name := "fnExactReadSector", vars := ["loop.example/g00341/impl.errNoSector"], fn := fun _ => fun
  | [d1, d2, g1] => { results := [.lit (.bool true)], args := [d1, d2], vars := [g1] }
  | _ => none }
def fnExactReadSectorRow : OpenClaim := { program := "ytdpigkcdfjnpdaadoor", sum := "7640893eacdf8928d7a64e2ad05a7c257869c68a1b65efd391f548580998e3da", func := "loop.example/g00341/laws.FnExactReadSector", spec := "fnExactReadSector", inPlace := ["internal/reflectlite.TypeOf"], unfollowed := true, recurses := true, named := ["loop.example/g00341/impl.errNoSector"], ifaces := true, apart := false, laid := [("loop.example/g00341/impl.errNoSector", laid_loop_example_g00341_impl_errNoSector)] }
def FnExactReadSectorSaid : Prop := fnExactReadSectorRow.holds Tryd.pinned (OpenSpec.ofChange fnExactReadSectorSpec)

/-- ITS FALSE NEIGHBOUR: 'it returns false'. Refute it at one input. -/
def fnExactReadSectorWrong : ChangeSpec := { name := "fnExactReadSector", vars := ["loop.example/g00341/impl.errNoSector"], fn := fun _ => fun
  | [d1, d2, g1] => { results := [.lit (.bool false)], args := [d1, d2], vars := [g1] }
  | _ => none }
def FnExactReadSectorWrongFalsely : Prop := fnExactReadSectorRow.holds Tryd.pinned (OpenSpec.ofChange fnExactReadSectorWrong)

/-- 'laws.FnExactWriteSector': WHATEVER THE INPUT: true; the input reads as it did. -/
def fnExactWriteSectorSpec : ChangeSpec := { name := "fnExactWriteSector", vars := ["loop.example/g00341/impl.errNoSector", "loop.example/g00341/impl.errNotASector", "loop.example/g00341/impl.errTooManyWait"], fn := fun _ => fun
  | [d1, d2, d3, g1, g2, g3] => { results := [.lit (.bool true)], args := [d1, d2, d3], vars := [g1, g2, g3] }
  | _ => none }
def fnExactWriteSectorRow : OpenClaim := { program := "ytdpigkcdfjnpdaadoor", sum := "7640893eacdf8928d7a64e2ad05a7c257869c68a1b65efd391f548580998e3da", func := "loop.example/g00341/laws.FnExactWriteSector", spec := "fnExactWriteSector", inPlace := ["internal/reflectlite.TypeOf"], unfollowed := true, recurses := true, named := ["loop.example/g00341/impl.errNoSector", "loop.example/g00341/impl.errNotASector", "loop.example/g00341/impl.errTooManyWait"], ifaces := true, apart := false, laid := [("loop.example/g00341/impl.errNoSector", laid_loop_example_g00341_impl_errNoSector), ("loop.example/g00341/impl.errNotASector", laid_loop_example_g00341_impl_errNotASector), ("loop.example/g00341/impl.errTooManyWait", laid_loop_example_g00341_impl_errTooManyWait)] }
def FnExactWriteSectorSaid : Prop := fnExactWriteSectorRow.holds Tryd.pinned (OpenSpec.ofChange fnExactWriteSectorSpec)

/-- ITS FALSE NEIGHBOUR: 'it returns false'. Refute it at one input. -/
def fnExactWriteSectorWrong : ChangeSpec := { name := "fnExactWriteSector", vars := ["loop.example/g00341/impl.errNoSector", "loop.example/g00341/impl.errNotASector", "loop.example/g00341/impl.errTooManyWait"], fn := fun _ => fun
  | [d1, d2, d3, g1, g2, g3] => { results := [.lit (.bool false)], args := [d1, d2, d3], vars := [g1, g2, g3] }
  | _ => none }
def FnExactWriteSectorWrongFalsely : Prop := fnExactWriteSectorRow.holds Tryd.pinned (OpenSpec.ofChange fnExactWriteSectorWrong)

/-- 'laws.FnExactFlush': WHATEVER THE INPUT: true; the input reads as it did. -/
def fnExactFlushSpec : ChangeSpec := { name := "fnExactFlush", vars := ["loop.example/g00341/impl.errNoSector"], fn := fun _ => fun
  | [d, g1] => { results := [.lit (.bool true)], args := [d], vars := [g1] }
  | _ => none }
def fnExactFlushRow : OpenClaim := { program := "ytdpigkcdfjnpdaadoor", sum := "7640893eacdf8928d7a64e2ad05a7c257869c68a1b65efd391f548580998e3da", func := "loop.example/g00341/laws.FnExactFlush", spec := "fnExactFlush", inPlace := ["internal/reflectlite.TypeOf"], unfollowed := true, recurses := true, named := ["loop.example/g00341/impl.errNoSector"], ifaces := true, apart := false, laid := [("loop.example/g00341/impl.errNoSector", laid_loop_example_g00341_impl_errNoSector)] }
def FnExactFlushSaid : Prop := fnExactFlushRow.holds Tryd.pinned (OpenSpec.ofChange fnExactFlushSpec)

/-- ITS FALSE NEIGHBOUR: 'it returns false'. Refute it at one input. -/
def fnExactFlushWrong : ChangeSpec := { name := "fnExactFlush", vars := ["loop.example/g00341/impl.errNoSector"], fn := fun _ => fun
  | [d, g1] => { results := [.lit (.bool false)], args := [d], vars := [g1] }
  | _ => none }
def FnExactFlushWrongFalsely : Prop := fnExactFlushRow.holds Tryd.pinned (OpenSpec.ofChange fnExactFlushWrong)

/-- 'laws.FnExactCrash': WHATEVER THE INPUT: true; the input reads as it did. -/
def fnExactCrashSpec : ChangeSpec := { name := "fnExactCrash", vars := ["loop.example/g00341/impl.errNoSector"], fn := fun _ => fun
  | [d1, d2, d3, g1] => { results := [.lit (.bool true)], args := [d1, d2, d3], vars := [g1] }
  | _ => none }
def fnExactCrashRow : OpenClaim := { program := "ytdpigkcdfjnpdaadoor", sum := "7640893eacdf8928d7a64e2ad05a7c257869c68a1b65efd391f548580998e3da", func := "loop.example/g00341/laws.FnExactCrash", spec := "fnExactCrash", inPlace := ["internal/reflectlite.TypeOf"], unfollowed := true, recurses := true, named := ["loop.example/g00341/impl.errNoSector"], ifaces := true, apart := false, laid := [("loop.example/g00341/impl.errNoSector", laid_loop_example_g00341_impl_errNoSector)] }
def FnExactCrashSaid : Prop := fnExactCrashRow.holds Tryd.pinned (OpenSpec.ofChange fnExactCrashSpec)

/-- ITS FALSE NEIGHBOUR: 'it returns false'. Refute it at one input. -/
def fnExactCrashWrong : ChangeSpec := { name := "fnExactCrash", vars := ["loop.example/g00341/impl.errNoSector"], fn := fun _ => fun
  | [d1, d2, d3, g1] => { results := [.lit (.bool false)], args := [d1, d2, d3], vars := [g1] }
  | _ => none }
def FnExactCrashWrongFalsely : Prop := fnExactCrashRow.holds Tryd.pinned (OpenSpec.ofChange fnExactCrashWrong)

/- THE SECOND FORM. 'bulk': how many values and letters a reading holds, each counted each time it is reached (what is shared counts as often as it is met; a slice's spare places count too). A statement '..UptoSaid' is the law's where the arguments, and the package variables that the reading takes, are together of bulk at most 1048576: NARROWER than '..Said'. Prove '..Said' where nothing that the law and all that it calls make is longer than what came in: it says more and counts as full. Else prove '..UptoSaid'. A law counts once. -/
mutual
def uptoBulk {H : Type} : DataW H → Nat
  | .lit (.string bytes) => bytes.length + 1
  | .lit _ => 1
  | .nil => 1
  | .ptr d => uptoBulk d + 1
  | .slice elems spare => uptoBulkAll elems + uptoBulkAll spare + 1
  | .agg parts => uptoBulkAll parts + 1
  | .iface _ d => uptoBulk d + 1
  | .map entries => uptoBulkEntries entries + 1
  | .held _ => 1
def uptoBulkAll {H : Type} : List (DataW H) → Nat
  | [] => 0
  | d :: r => uptoBulk d + uptoBulkAll r
def uptoBulkEntries {H : Type} : List (Lit × DataW H) → Nat
  | [] => 0
  | x :: r => uptoBulkEntry x + uptoBulkEntries r
def uptoBulkEntry {H : Type} : Lit × DataW H → Nat
  | (.string bytes, d) => bytes.length + uptoBulk d + 1
  | (_, d) => uptoBulk d + 1
 end
def uptoSmall : (H : Type) → List (DataW H) → Bool := fun _ ds => decide (uptoBulkAll ds ≤ 1048576)
def OpenSpec.upto (s : _root_.Go.ChangeSpec) : _root_.Go.OpenSpec := { _root_.Go.OpenSpec.ofChange s with cond := some uptoSmall }

/-- 'laws.FnDisks', WHERE WHAT IT READS IS OF BULK AT MOST 1048576: true; the input reads as it did. -/
def fnDisksUptoRow : OpenClaim := { program := "ytdpigkcdfjnpdaadoor", sum := "7640893eacdf8928d7a64e2ad05a7c257869c68a1b65efd391f548580998e3da", func := "loop.example/g00341/laws.FnDisks", spec := "fnDisks", inPlace := ["internal/reflectlite.TypeOf"], unfollowed := true, recurses := true, named := ["loop.example/g00341/impl.errNoSector", "loop.example/g00341/impl.errNotASector", "loop.example/g00341/impl.errTooManyWait"], ifaces := true, apart := false, laid := [("loop.example/g00341/impl.errNoSector", laid_loop_example_g00341_impl_errNoSector), ("loop.example/g00341/impl.errNotASector", laid_loop_example_g00341_impl_errNotASector), ("loop.example/g00341/impl.errTooManyWait", laid_loop_example_g00341_impl_errTooManyWait)], narrowed := true }
def FnDisksUptoSaid : Prop := fnDisksUptoRow.holds Tryd.pinned (OpenSpec.upto fnDisksSpec)

/-- 'laws.FnCrashes', WHERE WHAT IT READS IS OF BULK AT MOST 1048576: true; the input reads as it did. -/
def fnCrashesUptoRow : OpenClaim := { program := "ytdpigkcdfjnpdaadoor", sum := "7640893eacdf8928d7a64e2ad05a7c257869c68a1b65efd391f548580998e3da", func := "loop.example/g00341/laws.FnCrashes", spec := "fnCrashes", inPlace := ["internal/reflectlite.TypeOf"], unfollowed := true, recurses := true, named := ["loop.example/g00341/impl.errNoSector"], ifaces := true, apart := false, laid := [("loop.example/g00341/impl.errNoSector", laid_loop_example_g00341_impl_errNoSector)], narrowed := true }
def FnCrashesUptoSaid : Prop := fnCrashesUptoRow.holds Tryd.pinned (OpenSpec.upto fnCrashesSpec)

/-- 'laws.FnExactDiskOk', WHERE WHAT IT READS IS OF BULK AT MOST 1048576: true; the input reads as it did. -/
def fnExactDiskOkUptoRow : OpenClaim := { program := "ytdpigkcdfjnpdaadoor", sum := "7640893eacdf8928d7a64e2ad05a7c257869c68a1b65efd391f548580998e3da", func := "loop.example/g00341/laws.FnExactDiskOk", spec := "fnExactDiskOk", inPlace := ["internal/reflectlite.TypeOf"], unfollowed := true, recurses := true, named := ["loop.example/g00341/impl.errNoSector"], ifaces := true, apart := false, laid := [("loop.example/g00341/impl.errNoSector", laid_loop_example_g00341_impl_errNoSector)], narrowed := true }
def FnExactDiskOkUptoSaid : Prop := fnExactDiskOkUptoRow.holds Tryd.pinned (OpenSpec.upto fnExactDiskOkSpec)

/-- 'laws.FnExactReadSector', WHERE WHAT IT READS IS OF BULK AT MOST 1048576: true; the input reads as it did. -/
def fnExactReadSectorUptoRow : OpenClaim := { program := "ytdpigkcdfjnpdaadoor", sum := "7640893eacdf8928d7a64e2ad05a7c257869c68a1b65efd391f548580998e3da", func := "loop.example/g00341/laws.FnExactReadSector", spec := "fnExactReadSector", inPlace := ["internal/reflectlite.TypeOf"], unfollowed := true, recurses := true, named := ["loop.example/g00341/impl.errNoSector"], ifaces := true, apart := false, laid := [("loop.example/g00341/impl.errNoSector", laid_loop_example_g00341_impl_errNoSector)], narrowed := true }
def FnExactReadSectorUptoSaid : Prop := fnExactReadSectorUptoRow.holds Tryd.pinned (OpenSpec.upto fnExactReadSectorSpec)

/-- 'laws.FnExactWriteSector', WHERE WHAT IT READS IS OF BULK AT MOST 1048576: true; the input reads as it did. -/
def fnExactWriteSectorUptoRow : OpenClaim := { program := "ytdpigkcdfjnpdaadoor", sum := "7640893eacdf8928d7a64e2ad05a7c257869c68a1b65efd391f548580998e3da", func := "loop.example/g00341/laws.FnExactWriteSector", spec := "fnExactWriteSector", inPlace := ["internal/reflectlite.TypeOf"], unfollowed := true, recurses := true, named := ["loop.example/g00341/impl.errNoSector", "loop.example/g00341/impl.errNotASector", "loop.example/g00341/impl.errTooManyWait"], ifaces := true, apart := false, laid := [("loop.example/g00341/impl.errNoSector", laid_loop_example_g00341_impl_errNoSector), ("loop.example/g00341/impl.errNotASector", laid_loop_example_g00341_impl_errNotASector), ("loop.example/g00341/impl.errTooManyWait", laid_loop_example_g00341_impl_errTooManyWait)], narrowed := true }
def FnExactWriteSectorUptoSaid : Prop := fnExactWriteSectorUptoRow.holds Tryd.pinned (OpenSpec.upto fnExactWriteSectorSpec)

/-- 'laws.FnExactFlush', WHERE WHAT IT READS IS OF BULK AT MOST 1048576: true; the input reads as it did. -/
def fnExactFlushUptoRow : OpenClaim := { program := "ytdpigkcdfjnpdaadoor", sum := "7640893eacdf8928d7a64e2ad05a7c257869c68a1b65efd391f548580998e3da", func := "loop.example/g00341/laws.FnExactFlush", spec := "fnExactFlush", inPlace := ["internal/reflectlite.TypeOf"], unfollowed := true, recurses := true, named := ["loop.example/g00341/impl.errNoSector"], ifaces := true, apart := false, laid := [("loop.example/g00341/impl.errNoSector", laid_loop_example_g00341_impl_errNoSector)], narrowed := true }
def FnExactFlushUptoSaid : Prop := fnExactFlushUptoRow.holds Tryd.pinned (OpenSpec.upto fnExactFlushSpec)

/-- 'laws.FnExactCrash', WHERE WHAT IT READS IS OF BULK AT MOST 1048576: true; the input reads as it did. -/
def fnExactCrashUptoRow : OpenClaim := { program := "ytdpigkcdfjnpdaadoor", sum := "7640893eacdf8928d7a64e2ad05a7c257869c68a1b65efd391f548580998e3da", func := "loop.example/g00341/laws.FnExactCrash", spec := "fnExactCrash", inPlace := ["internal/reflectlite.TypeOf"], unfollowed := true, recurses := true, named := ["loop.example/g00341/impl.errNoSector"], ifaces := true, apart := false, laid := [("loop.example/g00341/impl.errNoSector", laid_loop_example_g00341_impl_errNoSector)], narrowed := true }
def FnExactCrashUptoSaid : Prop := fnExactCrashUptoRow.holds Tryd.pinned (OpenSpec.upto fnExactCrashSpec)

end Rows
end Go.Proofs.YtdpigkcdfjnpdaaDoor
