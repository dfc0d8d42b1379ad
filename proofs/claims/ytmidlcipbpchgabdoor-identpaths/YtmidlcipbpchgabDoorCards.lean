/-
  DERIVED. GIVEN WITH THE SEED: THE CARDS: each row of YtmidlcipbpchgabDoorRows.lean that lists a variable, with what it lists TIED to the program's text (the seventh form; the later family's looks); each row that meets fmt, with fmt's text TOLD by the authors' own Lean function (tested against real Go, not proved from fmt's source: count such statements apart). THE CARD IS WHAT COUNTS. Prove the row's statement (the work); the ties are given (YtmidlcipbpchgabDoorTie.lean); close each card by the builder's one call (the guide's Derived/Test/ToyasCard.lean, 'card_holds'). Laid BY PROGRAM, IN A SANDBOX (cutbox-door.mjs). By AI agents, Wed Nov 11 2026. No macro, syntax, notation, axiom, sorry.
-/
import Derived.Test.YtmidlcipbpchgabDoorRows
import GoSem.ClaimSeven
namespace Go.Proofs.YtmidlcipbpchgabDoor
namespace Rows

/-- THE TIED CARD OF 'ententelaw03.IdentPaths'. -/
def identPathsCard : Claim7 := { stood := { row := identPathsRow, standIns := [], harness := (true, "9a13fadc1322bc278e7fa5e9b49426233945e5fe552674b6b68a9f8865cee2ad"), looks := true }, kinds := [], alts := [], laidByText := true, laidKinds := [.data, .data, .data, .sentinel, .sentinel], laidTests := true, laidLooks := .later }
def IdentPathsCardSaid : Prop := Claim7.holds Tryd.pinned (.plain (OpenSpec.ofChange identPathsSpec)) identPathsCard

/-- THE TIED CARD OF 'ententelaw04.CashSums'. -/
def cashSumsCard : Claim7 := { stood := { row := cashSumsRow, standIns := [], harness := (true, "9a13fadc1322bc278e7fa5e9b49426233945e5fe552674b6b68a9f8865cee2ad"), looks := true }, kinds := [], alts := [], laidByText := true, laidKinds := [.data, .data, .data], laidTests := true, laidLooks := .later }
def CashSumsCardSaid : Prop := Claim7.holds Tryd.pinned (.plain (OpenSpec.ofChange cashSumsSpec)) cashSumsCard

/-- THE TIED CARD OF 'ententelaw04.CashTimes'. -/
def cashTimesCard : Claim7 := { stood := { row := cashTimesRow, standIns := [], harness := (true, "9a13fadc1322bc278e7fa5e9b49426233945e5fe552674b6b68a9f8865cee2ad"), looks := true }, kinds := [], alts := [], laidByText := true, laidKinds := [.data, .data, .data], laidTests := true, laidLooks := .later }
def CashTimesCardSaid : Prop := Claim7.holds Tryd.pinned (.plain (OpenSpec.ofChange cashTimesSpec)) cashTimesCard

/-- THE TIED CARD OF 'ententelaw04.CashTexts'. -/
def cashTextsCard : Claim7 := { stood := { row := cashTextsRow, standIns := [], harness := (true, "9a13fadc1322bc278e7fa5e9b49426233945e5fe552674b6b68a9f8865cee2ad"), looks := true }, kinds := [], alts := [], laidByText := true, laidKinds := [.data, .data, .data], laidTests := true, laidLooks := .later }
def CashTextsCardSaid : Prop := Claim7.holds Tryd.pinned (.plain (OpenSpec.ofChange cashTextsSpec)) cashTextsCard

/-- THE TIED CARD OF 'ententelaw04.CashOrder'. -/
def cashOrderCard : Claim7 := { stood := { row := cashOrderRow, standIns := [], harness := (true, "9a13fadc1322bc278e7fa5e9b49426233945e5fe552674b6b68a9f8865cee2ad"), looks := true }, kinds := [], alts := [], laidByText := true, laidKinds := [.data, .data, .data], laidTests := true, laidLooks := .later }
def CashOrderCardSaid : Prop := Claim7.holds Tryd.pinned (.plain (OpenSpec.ofChange cashOrderSpec)) cashOrderCard

/-- THE TIED CARD OF 'ententelaw04.CashMany'. -/
def cashManyCard : Claim7 := { stood := { row := cashManyRow, standIns := [], harness := (true, "9a13fadc1322bc278e7fa5e9b49426233945e5fe552674b6b68a9f8865cee2ad"), looks := true }, kinds := [], alts := [], laidByText := true, laidKinds := [.data, .data, .data], laidTests := true, laidLooks := .later }
def CashManyCardSaid : Prop := Claim7.holds Tryd.pinned (.plain (OpenSpec.ofChange cashManySpec)) cashManyCard

/-- THE SECOND FORM's CARD OF 'ententelaw03.IdentPaths'. -/
def identPathsUptoCard : Claim7 := { stood := { row := identPathsUptoRow, standIns := [], harness := (true, "9a13fadc1322bc278e7fa5e9b49426233945e5fe552674b6b68a9f8865cee2ad"), looks := true }, kinds := [], alts := [], laidByText := true, laidKinds := [.data, .data, .data, .sentinel, .sentinel], laidTests := true, laidLooks := .later }
def IdentPathsUptoCardSaid : Prop := Claim7.holds Tryd.pinned (.plain (OpenSpec.upto identPathsSpec)) identPathsUptoCard

/-- THE SECOND FORM's CARD OF 'ententelaw04.CashSums'. -/
def cashSumsUptoCard : Claim7 := { stood := { row := cashSumsUptoRow, standIns := [], harness := (true, "9a13fadc1322bc278e7fa5e9b49426233945e5fe552674b6b68a9f8865cee2ad"), looks := true }, kinds := [], alts := [], laidByText := true, laidKinds := [.data, .data, .data], laidTests := true, laidLooks := .later }
def CashSumsUptoCardSaid : Prop := Claim7.holds Tryd.pinned (.plain (OpenSpec.upto cashSumsSpec)) cashSumsUptoCard

/-- THE SECOND FORM's CARD OF 'ententelaw04.CashTimes'. -/
def cashTimesUptoCard : Claim7 := { stood := { row := cashTimesUptoRow, standIns := [], harness := (true, "9a13fadc1322bc278e7fa5e9b49426233945e5fe552674b6b68a9f8865cee2ad"), looks := true }, kinds := [], alts := [], laidByText := true, laidKinds := [.data, .data, .data], laidTests := true, laidLooks := .later }
def CashTimesUptoCardSaid : Prop := Claim7.holds Tryd.pinned (.plain (OpenSpec.upto cashTimesSpec)) cashTimesUptoCard

/-- THE SECOND FORM's CARD OF 'ententelaw04.CashTexts'. -/
def cashTextsUptoCard : Claim7 := { stood := { row := cashTextsUptoRow, standIns := [], harness := (true, "9a13fadc1322bc278e7fa5e9b49426233945e5fe552674b6b68a9f8865cee2ad"), looks := true }, kinds := [], alts := [], laidByText := true, laidKinds := [.data, .data, .data], laidTests := true, laidLooks := .later }
def CashTextsUptoCardSaid : Prop := Claim7.holds Tryd.pinned (.plain (OpenSpec.upto cashTextsSpec)) cashTextsUptoCard

/-- THE SECOND FORM's CARD OF 'ententelaw04.CashOrder'. -/
def cashOrderUptoCard : Claim7 := { stood := { row := cashOrderUptoRow, standIns := [], harness := (true, "9a13fadc1322bc278e7fa5e9b49426233945e5fe552674b6b68a9f8865cee2ad"), looks := true }, kinds := [], alts := [], laidByText := true, laidKinds := [.data, .data, .data], laidTests := true, laidLooks := .later }
def CashOrderUptoCardSaid : Prop := Claim7.holds Tryd.pinned (.plain (OpenSpec.upto cashOrderSpec)) cashOrderUptoCard

/-- THE SECOND FORM's CARD OF 'ententelaw04.CashMany'. -/
def cashManyUptoCard : Claim7 := { stood := { row := cashManyUptoRow, standIns := [], harness := (true, "9a13fadc1322bc278e7fa5e9b49426233945e5fe552674b6b68a9f8865cee2ad"), looks := true }, kinds := [], alts := [], laidByText := true, laidKinds := [.data, .data, .data], laidTests := true, laidLooks := .later }
def CashManyUptoCardSaid : Prop := Claim7.holds Tryd.pinned (.plain (OpenSpec.upto cashManySpec)) cashManyUptoCard
end Rows
end Go.Proofs.YtmidlcipbpchgabDoor
