/-
  DERIVED. GIVEN WITH THE SEED: THE PROGRAM's TIES (one call each: nine closed facts by the kernel) AND EACH ROW's TIE, after the 31st guide's Derived/Test/Toyas{Tie, Card}.lean. No idea stands in it: it is a product of the set-up. Laid BY PROGRAM, IN A SANDBOX (cutbox-door.mjs). By AI agents, Wed Nov 11 2026. No macro, syntax, notation, axiom, sorry.
-/
import Derived.Test.YtjhaanenkeceiaaDoorRows
import Derived.LaidByTextLater
import Derived.SevenTiedAt
import Derived.LaidSub
import Derived.LaidOnce
namespace Go.Proofs.YtjhaanenkeceiaaDoor
open Go
set_option maxRecDepth 100000
theorem seatTie1 : Tryd.prog.laidByTextLater [("loop.example/g00341/impl.errNoSector", Rows.laid_loop_example_g00341_impl_errNoSector), ("loop.example/g00341/impl.errNotASector", Rows.laid_loop_example_g00341_impl_errNotASector), ("loop.example/g00341/impl.errTooManyWait", Rows.laid_loop_example_g00341_impl_errTooManyWait)] [.sentinel, .sentinel, .sentinel] true :=
  Program.laidByTextLater_by_one 66 8 2 (by kernel_rfl) (by kernel_rfl) (by kernel_rfl) (by kernel_rfl) (by kernel_rfl) (by kernel_rfl) (fun _ _ => by kernel_rfl)
theorem noOwnUnsafe : Tryd.pinned.checked.prog.headLifts.contains "ownunsafe" = false := by kernel_rfl
theorem tie : Tryd.prog.laidByTextLater [("loop.example/g00341/impl.errNoSector", Rows.laid_loop_example_g00341_impl_errNoSector), ("loop.example/g00341/impl.errNotASector", Rows.laid_loop_example_g00341_impl_errNotASector), ("loop.example/g00341/impl.errTooManyWait", Rows.laid_loop_example_g00341_impl_errTooManyWait)] [.sentinel, .sentinel, .sentinel] true :=
  Program.laidByTextLater.sub seatTie1 ["loop.example/g00341/impl.errNoSector", "loop.example/g00341/impl.errNotASector", "loop.example/g00341/impl.errTooManyWait"] (by kernel_rfl) (by kernel_rfl)
theorem fnJournals_row_tie : Rows.fnJournalsRow.laidByTextAt .later Tryd.pinned [.sentinel, .sentinel, .sentinel] true :=
  OpenClaim.laidByTextAt_later rfl rfl tie noOwnUnsafe
theorem fnTorn_row_tie : Rows.fnTornRow.laidByTextAt .later Tryd.pinned [.sentinel, .sentinel, .sentinel] true :=
  OpenClaim.laidByTextAt_later rfl rfl tie noOwnUnsafe
theorem fnExactAppend_row_tie : Rows.fnExactAppendRow.laidByTextAt .later Tryd.pinned [.sentinel, .sentinel, .sentinel] true :=
  OpenClaim.laidByTextAt_later rfl rfl tie noOwnUnsafe
theorem tie2 : Tryd.prog.laidByTextLater [("loop.example/g00341/impl.errNoSector", Rows.laid_loop_example_g00341_impl_errNoSector)] [.sentinel] true :=
  Program.laidByTextLater.sub seatTie1 ["loop.example/g00341/impl.errNoSector"] (by kernel_rfl) (by kernel_rfl)
theorem fnExactOpen_row_tie : Rows.fnExactOpenRow.laidByTextAt .later Tryd.pinned [.sentinel] true :=
  OpenClaim.laidByTextAt_later rfl rfl tie2 noOwnUnsafe
theorem fnJournalsUpto_row_tie : Rows.fnJournalsUptoRow.laidByTextAt .later Tryd.pinned [.sentinel, .sentinel, .sentinel] true :=
  OpenClaim.laidByTextAt_later rfl rfl tie noOwnUnsafe
theorem fnTornUpto_row_tie : Rows.fnTornUptoRow.laidByTextAt .later Tryd.pinned [.sentinel, .sentinel, .sentinel] true :=
  OpenClaim.laidByTextAt_later rfl rfl tie noOwnUnsafe
theorem fnExactAppendUpto_row_tie : Rows.fnExactAppendUptoRow.laidByTextAt .later Tryd.pinned [.sentinel, .sentinel, .sentinel] true :=
  OpenClaim.laidByTextAt_later rfl rfl tie noOwnUnsafe
theorem fnExactOpenUpto_row_tie : Rows.fnExactOpenUptoRow.laidByTextAt .later Tryd.pinned [.sentinel] true :=
  OpenClaim.laidByTextAt_later rfl rfl tie2 noOwnUnsafe
end Go.Proofs.YtjhaanenkeceiaaDoor
