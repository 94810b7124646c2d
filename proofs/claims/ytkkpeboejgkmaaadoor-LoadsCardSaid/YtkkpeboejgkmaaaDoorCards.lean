/-
  DERIVED. GIVEN WITH THE SEED: THE CARDS: each row of YtkkpeboejgkmaaaDoorRows.lean that lists a variable, with what it lists TIED to the program's text (the seventh form; the later family's looks); each row that meets fmt, with fmt's text TOLD by the authors' own Lean function (tested against real Go, not proved from fmt's source: count such statements apart). THE CARD IS WHAT COUNTS. Prove the row's statement (the work); the ties are given (YtkkpeboejgkmaaaDoorTie.lean); close each card by the builder's one call (the guide's Derived/Test/ToyasCard.lean, 'card_holds'). Laid BY PROGRAM, IN A SANDBOX (cutbox-door.mjs). By AI agents, Wed Nov 11 2026. No macro, syntax, notation, axiom, sorry.
-/
import Derived.Test.YtkkpeboejgkmaaaDoorRows
import GoSem.ClaimSeven
namespace Go.Proofs.YtkkpeboejgkmaaaDoor
namespace Rows

/-- THE TIED CARD OF 'tinyoslaw.Codes'. -/
def codesCard : Claim7 := { stood := { row := codesRow, standIns := [], harness := (true, "1d1b8fb451e5aecfbd1b6ebbb2e2987caf0b111bdd890cce69b11fabe2b118df"), looks := true }, kinds := [], alts := [], laidByText := true, laidKinds := [.handle], laidTests := true, laidLooks := .later }
def CodesCardSaid : Prop := Claim7.holds Tryd.pinned (.plain (OpenSpec.ofChange codesSpec)) codesCard

/-- THE TIED CARD OF 'tinyoslaw.Loads'. -/
def loadsCard : Claim7 := { stood := { row := loadsRow, standIns := [], harness := (true, "1d1b8fb451e5aecfbd1b6ebbb2e2987caf0b111bdd890cce69b11fabe2b118df"), looks := true }, kinds := [], alts := [], laidByText := true, laidKinds := [.handle, .data], laidTests := true, laidLooks := .later }
def LoadsCardSaid : Prop := Claim7.holds Tryd.pinned (.plain (OpenSpec.ofChange loadsSpec)) loadsCard

/-- THE TIED CARD OF 'tinyoslaw.Stacks'. -/
def stacksCard : Claim7 := { stood := { row := stacksRow, standIns := [], harness := (true, "1d1b8fb451e5aecfbd1b6ebbb2e2987caf0b111bdd890cce69b11fabe2b118df"), looks := true }, kinds := [], alts := [], laidByText := true, laidKinds := [.handle], laidTests := true, laidLooks := .later }
def StacksCardSaid : Prop := Claim7.holds Tryd.pinned (.plain (OpenSpec.ofChange stacksSpec)) stacksCard

/-- THE SECOND FORM's CARD OF 'tinyoslaw.Codes'. -/
def codesUptoCard : Claim7 := { stood := { row := codesUptoRow, standIns := [], harness := (true, "1d1b8fb451e5aecfbd1b6ebbb2e2987caf0b111bdd890cce69b11fabe2b118df"), looks := true }, kinds := [], alts := [], laidByText := true, laidKinds := [.handle], laidTests := true, laidLooks := .later }
def CodesUptoCardSaid : Prop := Claim7.holds Tryd.pinned (.plain (OpenSpec.upto codesSpec)) codesUptoCard

/-- THE SECOND FORM's CARD OF 'tinyoslaw.Loads'. -/
def loadsUptoCard : Claim7 := { stood := { row := loadsUptoRow, standIns := [], harness := (true, "1d1b8fb451e5aecfbd1b6ebbb2e2987caf0b111bdd890cce69b11fabe2b118df"), looks := true }, kinds := [], alts := [], laidByText := true, laidKinds := [.handle, .data], laidTests := true, laidLooks := .later }
def LoadsUptoCardSaid : Prop := Claim7.holds Tryd.pinned (.plain (OpenSpec.upto loadsSpec)) loadsUptoCard

/-- THE SECOND FORM's CARD OF 'tinyoslaw.Stacks'. -/
def stacksUptoCard : Claim7 := { stood := { row := stacksUptoRow, standIns := [], harness := (true, "1d1b8fb451e5aecfbd1b6ebbb2e2987caf0b111bdd890cce69b11fabe2b118df"), looks := true }, kinds := [], alts := [], laidByText := true, laidKinds := [.handle], laidTests := true, laidLooks := .later }
def StacksUptoCardSaid : Prop := Claim7.holds Tryd.pinned (.plain (OpenSpec.upto stacksSpec)) stacksUptoCard
end Rows
end Go.Proofs.YtkkpeboejgkmaaaDoor
