/-
  DERIVED. GIVEN WITH THE SEED: THE CARDS: each row of YtpdcnnlbafcohabDoorRows.lean that lists a variable, with what it lists TIED to the program's text (the seventh form; the later family's looks); each row that meets fmt, with fmt's text TOLD by the authors' own Lean function (tested against real Go, not proved from fmt's source: count such statements apart). THE CARD IS WHAT COUNTS. Prove the row's statement (the work); the ties are given (YtpdcnnlbafcohabDoorTie.lean); close each card by the builder's one call (the guide's Derived/Test/ToyasCard.lean, 'card_holds'). Laid BY PROGRAM, IN A SANDBOX (cutbox-door.mjs). By AI agents, Wed Nov 11 2026. No macro, syntax, notation, axiom, sorry.
-/
import Derived.Test.YtpdcnnlbafcohabDoorRows
import GoSem.ClaimSeven
namespace Go.Proofs.YtpdcnnlbafcohabDoor
namespace Rows

/-- THE TIED CARD OF 'ententelaw02.SealForms'. -/
def sealFormsCard : Claim7 := { stood := { row := sealFormsRow, standIns := [], harness := (true, "dd4e62eb86673394c99df46eec0add86b62ae7a71adaaadca9e6962e53b390c8"), looks := false }, kinds := [], alts := [], laidByText := true, laidKinds := [.data], laidTests := true, laidLooks := .later }
def SealFormsCardSaid : Prop := Claim7.holds Tryd.pinned (.plain (OpenSpec.ofChange sealFormsSpec)) sealFormsCard

/-- THE SECOND FORM's CARD OF 'ententelaw02.SealForms'. -/
def sealFormsUptoCard : Claim7 := { stood := { row := sealFormsUptoRow, standIns := [], harness := (true, "dd4e62eb86673394c99df46eec0add86b62ae7a71adaaadca9e6962e53b390c8"), looks := false }, kinds := [], alts := [], laidByText := true, laidKinds := [.data], laidTests := true, laidLooks := .later }
def SealFormsUptoCardSaid : Prop := Claim7.holds Tryd.pinned (.plain (OpenSpec.upto sealFormsSpec)) sealFormsUptoCard
end Rows
end Go.Proofs.YtpdcnnlbafcohabDoor
