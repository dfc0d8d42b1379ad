/-
  DERIVED. GIVEN WITH THE SEED: THE CARDS: each row of YtfobfpigbfepoaaGreatDoorRows.lean that lists a variable, with what it lists TIED to the program's text (the seventh form; the later family's looks); each row that meets fmt, with fmt's text TOLD by the authors' own Lean function (tested against real Go, not proved from fmt's source: count such statements apart). THE CARD IS WHAT COUNTS. Prove the row's statement (the work); the ties are given (YtfobfpigbfepoaaGreatDoorTie.lean); close each card by the builder's one call (the guide's Derived/Test/ToyasCard.lean, 'card_holds'). Laid BY PROGRAM, IN A SANDBOX (cutbox-door.mjs). By AI agents, Wed Nov 11 2026. No macro, syntax, notation, axiom, sorry.
-/
import Derived.Test.YtfobfpigbfepoaaGreatDoorRows
import GoSem.ClaimSeven
namespace Go.Proofs.YtfobfpigbfepoaaGreatDoor
namespace Rows

/-- THE TIED CARD OF 'ententelaw10.BookTexts'. -/
def bookTextsCard : Claim7 := { stood := { row := bookTextsRow, standIns := [], harness := (true, "7982d13044609d0c6367f1febe6d610c39491c070d324bc1e4e861cf7fc787c4"), looks := false }, kinds := [], alts := [], laidByText := true, laidKinds := [.data, .data, .data], laidTests := true, laidLooks := .later }
def BookTextsCardSaid : Prop := Claim7.holds Tryz.pinned (.plain (OpenSpec.ofChange bookTextsSpec)) bookTextsCard

/-- THE SECOND FORM's CARD OF 'ententelaw10.BookTexts'. -/
def bookTextsUptoCard : Claim7 := { stood := { row := bookTextsUptoRow, standIns := [], harness := (true, "7982d13044609d0c6367f1febe6d610c39491c070d324bc1e4e861cf7fc787c4"), looks := false }, kinds := [], alts := [], laidByText := true, laidKinds := [.data, .data, .data], laidTests := true, laidLooks := .later }
def BookTextsUptoCardSaid : Prop := Claim7.holds Tryz.pinned (.plain (OpenSpec.upto bookTextsSpec)) bookTextsUptoCard
end Rows
end Go.Proofs.YtfobfpigbfepoaaGreatDoor
