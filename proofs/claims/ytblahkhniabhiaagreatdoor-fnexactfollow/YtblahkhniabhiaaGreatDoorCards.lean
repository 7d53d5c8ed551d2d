/-
  DERIVED. GIVEN WITH THE SEED: THE CARDS: each row of YtblahkhniabhiaaGreatDoorRows.lean that lists a variable, with what it lists TIED to the program's text (the seventh form; the later family's looks); each row that meets fmt, with fmt's text TOLD by the authors' own Lean function (tested against real Go, not proved from fmt's source: count such statements apart). THE CARD IS WHAT COUNTS. Prove the row's statement (the work); the ties are given (YtblahkhniabhiaaGreatDoorTie.lean); close each card by the builder's one call (the guide's Derived/Test/ToyasCard.lean, 'card_holds'). Laid BY PROGRAM, IN A SANDBOX (cutbox-door.mjs). By AI agents, Wed Nov 11 2026. No macro, syntax, notation, axiom, sorry.
-/
import Derived.Test.YtblahkhniabhiaaGreatDoorRows
import GoSem.ClaimSeven
namespace Go.Proofs.YtblahkhniabhiaaGreatDoor
namespace Rows

/-- THE TIED CARD OF 'laws.FnExactFollow'. -/
def fnExactFollowCard : Claim7 := { stood := { row := fnExactFollowRow, standIns := [], harness := (true, "518386a9364179a9fbbfe8780906b8c2f5dc0d4b7d7960b62e68168ee8539ece"), looks := true }, kinds := [], alts := [], laidByText := true, laidKinds := [.handle], laidTests := true, laidLooks := .later }
def FnExactFollowCardSaid : Prop := Claim7.holds Tryz.pinned (.plain (OpenSpec.ofChange fnExactFollowSpec)) fnExactFollowCard

/-- THE SECOND FORM's CARD OF 'laws.FnExactFollow'. -/
def fnExactFollowUptoCard : Claim7 := { stood := { row := fnExactFollowUptoRow, standIns := [], harness := (true, "518386a9364179a9fbbfe8780906b8c2f5dc0d4b7d7960b62e68168ee8539ece"), looks := true }, kinds := [], alts := [], laidByText := true, laidKinds := [.handle], laidTests := true, laidLooks := .later }
def FnExactFollowUptoCardSaid : Prop := Claim7.holds Tryz.pinned (.plain (OpenSpec.upto fnExactFollowSpec)) fnExactFollowUptoCard
end Rows
end Go.Proofs.YtblahkhniabhiaaGreatDoor
