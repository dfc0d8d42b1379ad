/-
  DERIVED. GIVEN WITH THE SEED: THE CARDS: each row of YtcmbppjfpdkblaaGreatDoorRows.lean that lists a variable, with what it lists TIED to the program's text (the seventh form; the later family's looks); each row that meets fmt, with fmt's text TOLD by the authors' own Lean function (tested against real Go, not proved from fmt's source: count such statements apart). THE CARD IS WHAT COUNTS. Prove the row's statement (the work); the ties are given (YtcmbppjfpdkblaaGreatDoorTie.lean); close each card by the builder's one call (the guide's Derived/Test/ToyasCard.lean, 'card_holds'). Laid BY PROGRAM, IN A SANDBOX (cutbox-door.mjs). By AI agents, Wed Nov 11 2026. No macro, syntax, notation, axiom, sorry.
-/
import Derived.Test.YtcmbppjfpdkblaaGreatDoorRows
import GoSem.ClaimSeven
namespace Go.Proofs.YtcmbppjfpdkblaaGreatDoor
namespace Rows

/-- THE TIED CARD OF 'ententelaw13.NoteChecks'. -/
def noteChecksCard : Claim7 := { stood := { row := noteChecksRow, standIns := [], harness := (true, "f0fa4e2e6549f31233243eab08a94723d74d26bc049039476799d23fce00b93f"), looks := true }, kinds := [], alts := [], laidByText := true, laidKinds := [.data, .data, .data, .sentinel, .sentinel, .data, .data], laidTests := true, laidLooks := .later }
def NoteChecksCardSaid : Prop := Claim7.holds Tryz.pinned (.plain (OpenSpec.ofChange noteChecksSpec)) noteChecksCard

/-- THE TIED CARD OF 'ententelaw13.NoteEncodes'. -/
def noteEncodesCard : Claim7 := { stood := { row := noteEncodesRow, standIns := [], harness := (true, "f0fa4e2e6549f31233243eab08a94723d74d26bc049039476799d23fce00b93f"), looks := true }, kinds := [], alts := [], laidByText := true, laidKinds := [.data, .data, .data, .sentinel, .sentinel, .data, .data], laidTests := true, laidLooks := .later }
def NoteEncodesCardSaid : Prop := Claim7.holds Tryz.pinned (.plain (OpenSpec.ofChange noteEncodesSpec)) noteEncodesCard

/-- THE TIED CARD OF 'ententelaw13.NoteDecodes'. -/
def noteDecodesCard : Claim7 := { stood := { row := noteDecodesRow, standIns := [], harness := (true, "f0fa4e2e6549f31233243eab08a94723d74d26bc049039476799d23fce00b93f"), looks := true }, kinds := [], alts := [], laidByText := true, laidKinds := [.data, .data, .data, .sentinel, .sentinel, .data, .data], laidTests := true, laidLooks := .later }
def NoteDecodesCardSaid : Prop := Claim7.holds Tryz.pinned (.plain (OpenSpec.ofChange noteDecodesSpec)) noteDecodesCard

/-- THE TIED CARD OF 'ententelaw13.NoteBack'. -/
def noteBackCard : Claim7 := { stood := { row := noteBackRow, standIns := [], harness := (true, "f0fa4e2e6549f31233243eab08a94723d74d26bc049039476799d23fce00b93f"), looks := true }, kinds := [], alts := [], laidByText := true, laidKinds := [.data, .data, .data, .sentinel, .sentinel, .data, .data], laidTests := true, laidLooks := .later }
def NoteBackCardSaid : Prop := Claim7.holds Tryz.pinned (.plain (OpenSpec.ofChange noteBackSpec)) noteBackCard

/-- THE TIED CARD OF 'ententelaw13.NoteEnds'. -/
def noteEndsCard : Claim7 := { stood := { row := noteEndsRow, standIns := [], harness := (true, "f0fa4e2e6549f31233243eab08a94723d74d26bc049039476799d23fce00b93f"), looks := true }, kinds := [], alts := [], laidByText := true, laidKinds := [.data, .data, .data, .sentinel, .sentinel, .data, .data], laidTests := true, laidLooks := .later }
def NoteEndsCardSaid : Prop := Claim7.holds Tryz.pinned (.plain (OpenSpec.ofChange noteEndsSpec)) noteEndsCard

/-- THE SECOND FORM's CARD OF 'ententelaw13.NoteChecks'. -/
def noteChecksUptoCard : Claim7 := { stood := { row := noteChecksUptoRow, standIns := [], harness := (true, "f0fa4e2e6549f31233243eab08a94723d74d26bc049039476799d23fce00b93f"), looks := true }, kinds := [], alts := [], laidByText := true, laidKinds := [.data, .data, .data, .sentinel, .sentinel, .data, .data], laidTests := true, laidLooks := .later }
def NoteChecksUptoCardSaid : Prop := Claim7.holds Tryz.pinned (.plain (OpenSpec.upto noteChecksSpec)) noteChecksUptoCard

/-- THE SECOND FORM's CARD OF 'ententelaw13.NoteEncodes'. -/
def noteEncodesUptoCard : Claim7 := { stood := { row := noteEncodesUptoRow, standIns := [], harness := (true, "f0fa4e2e6549f31233243eab08a94723d74d26bc049039476799d23fce00b93f"), looks := true }, kinds := [], alts := [], laidByText := true, laidKinds := [.data, .data, .data, .sentinel, .sentinel, .data, .data], laidTests := true, laidLooks := .later }
def NoteEncodesUptoCardSaid : Prop := Claim7.holds Tryz.pinned (.plain (OpenSpec.upto noteEncodesSpec)) noteEncodesUptoCard

/-- THE SECOND FORM's CARD OF 'ententelaw13.NoteDecodes'. -/
def noteDecodesUptoCard : Claim7 := { stood := { row := noteDecodesUptoRow, standIns := [], harness := (true, "f0fa4e2e6549f31233243eab08a94723d74d26bc049039476799d23fce00b93f"), looks := true }, kinds := [], alts := [], laidByText := true, laidKinds := [.data, .data, .data, .sentinel, .sentinel, .data, .data], laidTests := true, laidLooks := .later }
def NoteDecodesUptoCardSaid : Prop := Claim7.holds Tryz.pinned (.plain (OpenSpec.upto noteDecodesSpec)) noteDecodesUptoCard

/-- THE SECOND FORM's CARD OF 'ententelaw13.NoteBack'. -/
def noteBackUptoCard : Claim7 := { stood := { row := noteBackUptoRow, standIns := [], harness := (true, "f0fa4e2e6549f31233243eab08a94723d74d26bc049039476799d23fce00b93f"), looks := true }, kinds := [], alts := [], laidByText := true, laidKinds := [.data, .data, .data, .sentinel, .sentinel, .data, .data], laidTests := true, laidLooks := .later }
def NoteBackUptoCardSaid : Prop := Claim7.holds Tryz.pinned (.plain (OpenSpec.upto noteBackSpec)) noteBackUptoCard

/-- THE SECOND FORM's CARD OF 'ententelaw13.NoteEnds'. -/
def noteEndsUptoCard : Claim7 := { stood := { row := noteEndsUptoRow, standIns := [], harness := (true, "f0fa4e2e6549f31233243eab08a94723d74d26bc049039476799d23fce00b93f"), looks := true }, kinds := [], alts := [], laidByText := true, laidKinds := [.data, .data, .data, .sentinel, .sentinel, .data, .data], laidTests := true, laidLooks := .later }
def NoteEndsUptoCardSaid : Prop := Claim7.holds Tryz.pinned (.plain (OpenSpec.upto noteEndsSpec)) noteEndsUptoCard
end Rows
end Go.Proofs.YtcmbppjfpdkblaaGreatDoor
