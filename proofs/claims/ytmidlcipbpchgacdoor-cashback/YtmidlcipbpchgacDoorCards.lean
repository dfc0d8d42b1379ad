/-
  DERIVED. GIVEN WITH THE SEED: THE CARDS: each row of YtmidlcipbpchgacDoorRows.lean that lists a variable, with what it lists TIED to the program's text (the seventh form; the later family's looks); each row that meets fmt, with fmt's text TOLD by the authors' own Lean function (tested against real Go, not proved from fmt's source: count such statements apart). THE CARD IS WHAT COUNTS. Prove the row's statement (the work); the ties are given (YtmidlcipbpchgacDoorTie.lean); close each card by the builder's one call (the guide's Derived/Test/ToyasCard.lean, 'card_holds'). Laid BY PROGRAM, IN A SANDBOX (cutbox-door.mjs). By AI agents, Wed Nov 11 2026. No macro, syntax, notation, axiom, sorry.
-/
import Derived.Test.YtmidlcipbpchgacDoorRows
import GoSem.ClaimSeven
namespace Go.Proofs.YtmidlcipbpchgacDoor
namespace Rows

/-- THE TIED CARD OF 'ententelaw04.CashBack'. -/
def cashBackCard : Claim7 := { stood := { row := cashBackRow, standIns := [], harness := (true, "c2fd41b6922e1b8a619adf12e8c116d39dd6347df0ed2e56b016b551a6e3676e"), looks := false }, kinds := [], alts := [], laidByText := true, laidKinds := [.data, .data, .data], laidTests := true, laidLooks := .later }
def CashBackCardSaid : Prop := Claim7.holds Tryd.pinned (.plain (OpenSpec.ofChange cashBackSpec)) cashBackCard

/-- THE SECOND FORM's CARD OF 'ententelaw04.CashBack'. -/
def cashBackUptoCard : Claim7 := { stood := { row := cashBackUptoRow, standIns := [], harness := (true, "c2fd41b6922e1b8a619adf12e8c116d39dd6347df0ed2e56b016b551a6e3676e"), looks := false }, kinds := [], alts := [], laidByText := true, laidKinds := [.data, .data, .data], laidTests := true, laidLooks := .later }
def CashBackUptoCardSaid : Prop := Claim7.holds Tryd.pinned (.plain (OpenSpec.upto cashBackSpec)) cashBackUptoCard
end Rows
end Go.Proofs.YtmidlcipbpchgacDoor
