/-
  DERIVED. GIVEN WITH THE SEED: THE CARDS: each row of YtdpigkcdfjnpdaaDoorRows.lean that lists a variable, with what it lists TIED to the program's text (the seventh form; the later family's looks); each row that meets fmt, with fmt's text TOLD by the authors' own Lean function (tested against real Go, not proved from fmt's source: count such statements apart). THE CARD IS WHAT COUNTS. Prove the row's statement (the work); the ties are given (YtdpigkcdfjnpdaaDoorTie.lean); close each card by the builder's one call (the guide's Derived/Test/ToyasCard.lean, 'card_holds'). Laid BY PROGRAM, IN A SANDBOX (cutbox-door.mjs). By AI agents, Wed Nov 11 2026. No macro, syntax, notation, axiom, sorry.
-/
import Derived.Test.YtdpigkcdfjnpdaaDoorRows
import GoSem.ClaimSeven
namespace Go.Proofs.YtdpigkcdfjnpdaaDoor
namespace Rows

/-- THE TIED CARD OF 'laws.FnDisks'. -/
def fnDisksCard : Claim7 := { stood := { row := fnDisksRow, standIns := [], harness := (true, "04f196276466ec2e5ac09897d3455bf96e759ec9ee663fcb2d46776a48944ff7"), looks := true }, kinds := [], alts := [], laidByText := true, laidKinds := [.sentinel, .sentinel, .sentinel], laidTests := true, laidLooks := .later }
def FnDisksCardSaid : Prop := Claim7.holds Tryd.pinned (.plain (OpenSpec.ofChange fnDisksSpec)) fnDisksCard

/-- THE TIED CARD OF 'laws.FnCrashes'. -/
def fnCrashesCard : Claim7 := { stood := { row := fnCrashesRow, standIns := [], harness := (true, "04f196276466ec2e5ac09897d3455bf96e759ec9ee663fcb2d46776a48944ff7"), looks := true }, kinds := [], alts := [], laidByText := true, laidKinds := [.sentinel], laidTests := true, laidLooks := .later }
def FnCrashesCardSaid : Prop := Claim7.holds Tryd.pinned (.plain (OpenSpec.ofChange fnCrashesSpec)) fnCrashesCard

/-- THE TIED CARD OF 'laws.FnExactDiskOk'. -/
def fnExactDiskOkCard : Claim7 := { stood := { row := fnExactDiskOkRow, standIns := [], harness := (true, "04f196276466ec2e5ac09897d3455bf96e759ec9ee663fcb2d46776a48944ff7"), looks := true }, kinds := [], alts := [], laidByText := true, laidKinds := [.sentinel], laidTests := true, laidLooks := .later }
def FnExactDiskOkCardSaid : Prop := Claim7.holds Tryd.pinned (.plain (OpenSpec.ofChange fnExactDiskOkSpec)) fnExactDiskOkCard

/-- THE TIED CARD OF 'laws.FnExactReadSector'. -/
def fnExactReadSectorCard : Claim7 := { stood := { row := fnExactReadSectorRow, standIns := [], harness := (true, "04f196276466ec2e5ac09897d3455bf96e759ec9ee663fcb2d46776a48944ff7"), looks := true }, kinds := [], alts := [], laidByText := true, laidKinds := [.sentinel], laidTests := true, laidLooks := .later }
def FnExactReadSectorCardSaid : Prop := Claim7.holds Tryd.pinned (.plain (OpenSpec.ofChange fnExactReadSectorSpec)) fnExactReadSectorCard

/-- THE TIED CARD OF 'laws.FnExactWriteSector'. -/
def fnExactWriteSectorCard : Claim7 := { stood := { row := fnExactWriteSectorRow, standIns := [], harness := (true, "04f196276466ec2e5ac09897d3455bf96e759ec9ee663fcb2d46776a48944ff7"), looks := true }, kinds := [], alts := [], laidByText := true, laidKinds := [.sentinel, .sentinel, .sentinel], laidTests := true, laidLooks := .later }
def FnExactWriteSectorCardSaid : Prop := Claim7.holds Tryd.pinned (.plain (OpenSpec.ofChange fnExactWriteSectorSpec)) fnExactWriteSectorCard

/-- THE TIED CARD OF 'laws.FnExactFlush'. -/
def fnExactFlushCard : Claim7 := { stood := { row := fnExactFlushRow, standIns := [], harness := (true, "04f196276466ec2e5ac09897d3455bf96e759ec9ee663fcb2d46776a48944ff7"), looks := true }, kinds := [], alts := [], laidByText := true, laidKinds := [.sentinel], laidTests := true, laidLooks := .later }
def FnExactFlushCardSaid : Prop := Claim7.holds Tryd.pinned (.plain (OpenSpec.ofChange fnExactFlushSpec)) fnExactFlushCard

/-- THE TIED CARD OF 'laws.FnExactCrash'. -/
def fnExactCrashCard : Claim7 := { stood := { row := fnExactCrashRow, standIns := [], harness := (true, "04f196276466ec2e5ac09897d3455bf96e759ec9ee663fcb2d46776a48944ff7"), looks := true }, kinds := [], alts := [], laidByText := true, laidKinds := [.sentinel], laidTests := true, laidLooks := .later }
def FnExactCrashCardSaid : Prop := Claim7.holds Tryd.pinned (.plain (OpenSpec.ofChange fnExactCrashSpec)) fnExactCrashCard

/-- THE SECOND FORM's CARD OF 'laws.FnDisks'. -/
def fnDisksUptoCard : Claim7 := { stood := { row := fnDisksUptoRow, standIns := [], harness := (true, "04f196276466ec2e5ac09897d3455bf96e759ec9ee663fcb2d46776a48944ff7"), looks := true }, kinds := [], alts := [], laidByText := true, laidKinds := [.sentinel, .sentinel, .sentinel], laidTests := true, laidLooks := .later }
def FnDisksUptoCardSaid : Prop := Claim7.holds Tryd.pinned (.plain (OpenSpec.upto fnDisksSpec)) fnDisksUptoCard

/-- THE SECOND FORM's CARD OF 'laws.FnCrashes'. -/
def fnCrashesUptoCard : Claim7 := { stood := { row := fnCrashesUptoRow, standIns := [], harness := (true, "04f196276466ec2e5ac09897d3455bf96e759ec9ee663fcb2d46776a48944ff7"), looks := true }, kinds := [], alts := [], laidByText := true, laidKinds := [.sentinel], laidTests := true, laidLooks := .later }
def FnCrashesUptoCardSaid : Prop := Claim7.holds Tryd.pinned (.plain (OpenSpec.upto fnCrashesSpec)) fnCrashesUptoCard

/-- THE SECOND FORM's CARD OF 'laws.FnExactDiskOk'. -/
def fnExactDiskOkUptoCard : Claim7 := { stood := { row := fnExactDiskOkUptoRow, standIns := [], harness := (true, "04f196276466ec2e5ac09897d3455bf96e759ec9ee663fcb2d46776a48944ff7"), looks := true }, kinds := [], alts := [], laidByText := true, laidKinds := [.sentinel], laidTests := true, laidLooks := .later }
def FnExactDiskOkUptoCardSaid : Prop := Claim7.holds Tryd.pinned (.plain (OpenSpec.upto fnExactDiskOkSpec)) fnExactDiskOkUptoCard

/-- THE SECOND FORM's CARD OF 'laws.FnExactReadSector'. -/
def fnExactReadSectorUptoCard : Claim7 := { stood := { row := fnExactReadSectorUptoRow, standIns := [], harness := (true, "04f196276466ec2e5ac09897d3455bf96e759ec9ee663fcb2d46776a48944ff7"), looks := true }, kinds := [], alts := [], laidByText := true, laidKinds := [.sentinel], laidTests := true, laidLooks := .later }
def FnExactReadSectorUptoCardSaid : Prop := Claim7.holds Tryd.pinned (.plain (OpenSpec.upto fnExactReadSectorSpec)) fnExactReadSectorUptoCard

/-- THE SECOND FORM's CARD OF 'laws.FnExactWriteSector'. -/
def fnExactWriteSectorUptoCard : Claim7 := { stood := { row := fnExactWriteSectorUptoRow, standIns := [], harness := (true, "04f196276466ec2e5ac09897d3455bf96e759ec9ee663fcb2d46776a48944ff7"), looks := true }, kinds := [], alts := [], laidByText := true, laidKinds := [.sentinel, .sentinel, .sentinel], laidTests := true, laidLooks := .later }
def FnExactWriteSectorUptoCardSaid : Prop := Claim7.holds Tryd.pinned (.plain (OpenSpec.upto fnExactWriteSectorSpec)) fnExactWriteSectorUptoCard

/-- THE SECOND FORM's CARD OF 'laws.FnExactFlush'. -/
def fnExactFlushUptoCard : Claim7 := { stood := { row := fnExactFlushUptoRow, standIns := [], harness := (true, "04f196276466ec2e5ac09897d3455bf96e759ec9ee663fcb2d46776a48944ff7"), looks := true }, kinds := [], alts := [], laidByText := true, laidKinds := [.sentinel], laidTests := true, laidLooks := .later }
def FnExactFlushUptoCardSaid : Prop := Claim7.holds Tryd.pinned (.plain (OpenSpec.upto fnExactFlushSpec)) fnExactFlushUptoCard

/-- THE SECOND FORM's CARD OF 'laws.FnExactCrash'. -/
def fnExactCrashUptoCard : Claim7 := { stood := { row := fnExactCrashUptoRow, standIns := [], harness := (true, "04f196276466ec2e5ac09897d3455bf96e759ec9ee663fcb2d46776a48944ff7"), looks := true }, kinds := [], alts := [], laidByText := true, laidKinds := [.sentinel], laidTests := true, laidLooks := .later }
def FnExactCrashUptoCardSaid : Prop := Claim7.holds Tryd.pinned (.plain (OpenSpec.upto fnExactCrashSpec)) fnExactCrashUptoCard
end Rows
end Go.Proofs.YtdpigkcdfjnpdaaDoor
