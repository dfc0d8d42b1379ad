/-
  DERIVED. GIVEN WITH THE SEED: THE CARDS: each row of YtmgiiofjlgchfaaDoorRows.lean that lists a variable, with what it lists TIED to the program's text (the seventh form; the later family's looks); each row that meets fmt, with fmt's text TOLD by the authors' own Lean function (tested against real Go, not proved from fmt's source: count such statements apart). THE CARD IS WHAT COUNTS. Prove the row's statement (the work); the ties are given (YtmgiiofjlgchfaaDoorTie.lean); close each card by the builder's one call (the guide's Derived/Test/ToyasCard.lean, 'card_holds'). Laid BY PROGRAM, IN A SANDBOX (cutbox-door.mjs). By AI agents, Wed Nov 11 2026. No macro, syntax, notation, axiom, sorry.
-/
import Derived.Test.YtmgiiofjlgchfaaDoorRows
import GoSem.ClaimSeven
namespace Go.Proofs.YtmgiiofjlgchfaaDoor
namespace Rows

/-- THE TIED CARD OF 'ententelaw12.WheelPlays'. -/
def wheelPlaysCard : Claim7 := { stood := { row := wheelPlaysRow, standIns := [], harness := (true, "658bdda28c7c0ceb512920beb7b07c6ca2ad740ec9e0eb0ddcfea4622cab6f35"), looks := false }, kinds := [], alts := [], laidByText := true, laidKinds := [.data, .data], laidTests := true, laidLooks := .later }
def WheelPlaysCardSaid : Prop := Claim7.holds Tryd.pinned (.plain (OpenSpec.ofChange wheelPlaysSpec)) wheelPlaysCard

/-- THE TIED CARD OF 'ententelaw12.WheelNobody'. -/
def wheelNobodyCard : Claim7 := { stood := { row := wheelNobodyRow, standIns := [], harness := (true, "658bdda28c7c0ceb512920beb7b07c6ca2ad740ec9e0eb0ddcfea4622cab6f35"), looks := false }, kinds := [], alts := [], laidByText := true, laidKinds := [.data, .data], laidTests := true, laidLooks := .later }
def WheelNobodyCardSaid : Prop := Claim7.holds Tryd.pinned (.plain (OpenSpec.ofChange wheelNobodySpec)) wheelNobodyCard

/-- THE TIED CARD OF 'ententelaw12.WheelDue'. -/
def wheelDueCard : Claim7 := { stood := { row := wheelDueRow, standIns := [], harness := (true, "658bdda28c7c0ceb512920beb7b07c6ca2ad740ec9e0eb0ddcfea4622cab6f35"), looks := false }, kinds := [], alts := [], laidByText := true, laidKinds := [.data, .data], laidTests := true, laidLooks := .later }
def WheelDueCardSaid : Prop := Claim7.holds Tryd.pinned (.plain (OpenSpec.ofChange wheelDueSpec)) wheelDueCard

/-- THE TIED CARD OF 'ententelaw12.WheelSkips'. -/
def wheelSkipsCard : Claim7 := { stood := { row := wheelSkipsRow, standIns := [], harness := (true, "658bdda28c7c0ceb512920beb7b07c6ca2ad740ec9e0eb0ddcfea4622cab6f35"), looks := false }, kinds := [], alts := [], laidByText := true, laidKinds := [.data, .data], laidTests := true, laidLooks := .later }
def WheelSkipsCardSaid : Prop := Claim7.holds Tryd.pinned (.plain (OpenSpec.ofChange wheelSkipsSpec)) wheelSkipsCard

/-- THE SECOND FORM's CARD OF 'ententelaw12.WheelPlays'. -/
def wheelPlaysUptoCard : Claim7 := { stood := { row := wheelPlaysUptoRow, standIns := [], harness := (true, "658bdda28c7c0ceb512920beb7b07c6ca2ad740ec9e0eb0ddcfea4622cab6f35"), looks := false }, kinds := [], alts := [], laidByText := true, laidKinds := [.data, .data], laidTests := true, laidLooks := .later }
def WheelPlaysUptoCardSaid : Prop := Claim7.holds Tryd.pinned (.plain (OpenSpec.upto wheelPlaysSpec)) wheelPlaysUptoCard

/-- THE SECOND FORM's CARD OF 'ententelaw12.WheelNobody'. -/
def wheelNobodyUptoCard : Claim7 := { stood := { row := wheelNobodyUptoRow, standIns := [], harness := (true, "658bdda28c7c0ceb512920beb7b07c6ca2ad740ec9e0eb0ddcfea4622cab6f35"), looks := false }, kinds := [], alts := [], laidByText := true, laidKinds := [.data, .data], laidTests := true, laidLooks := .later }
def WheelNobodyUptoCardSaid : Prop := Claim7.holds Tryd.pinned (.plain (OpenSpec.upto wheelNobodySpec)) wheelNobodyUptoCard

/-- THE SECOND FORM's CARD OF 'ententelaw12.WheelDue'. -/
def wheelDueUptoCard : Claim7 := { stood := { row := wheelDueUptoRow, standIns := [], harness := (true, "658bdda28c7c0ceb512920beb7b07c6ca2ad740ec9e0eb0ddcfea4622cab6f35"), looks := false }, kinds := [], alts := [], laidByText := true, laidKinds := [.data, .data], laidTests := true, laidLooks := .later }
def WheelDueUptoCardSaid : Prop := Claim7.holds Tryd.pinned (.plain (OpenSpec.upto wheelDueSpec)) wheelDueUptoCard

/-- THE SECOND FORM's CARD OF 'ententelaw12.WheelSkips'. -/
def wheelSkipsUptoCard : Claim7 := { stood := { row := wheelSkipsUptoRow, standIns := [], harness := (true, "658bdda28c7c0ceb512920beb7b07c6ca2ad740ec9e0eb0ddcfea4622cab6f35"), looks := false }, kinds := [], alts := [], laidByText := true, laidKinds := [.data, .data], laidTests := true, laidLooks := .later }
def WheelSkipsUptoCardSaid : Prop := Claim7.holds Tryd.pinned (.plain (OpenSpec.upto wheelSkipsSpec)) wheelSkipsUptoCard
end Rows
end Go.Proofs.YtmgiiofjlgchfaaDoor
