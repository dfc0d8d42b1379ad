/-
  DERIVED. GIVEN WITH THE SEED: THE CARDS: each row of YtdliljijgokpjaaDoorRows.lean that lists a variable, with what it lists TIED to the program's text (the seventh form; the later family's looks); each row that meets fmt, with fmt's text TOLD by the authors' own Lean function (tested against real Go, not proved from fmt's source: count such statements apart). THE CARD IS WHAT COUNTS. Prove the row's statement (the work); the ties are given (YtdliljijgokpjaaDoorTie.lean); close each card by the builder's one call (the guide's Derived/Test/ToyasCard.lean, 'card_holds'). Laid BY PROGRAM, IN A SANDBOX (cutbox-door.mjs). By AI agents, Wed Nov 11 2026. No macro, syntax, notation, axiom, sorry.
-/
import Derived.Test.YtdliljijgokpjaaDoorRows
import GoSem.ClaimSeven
namespace Go.Proofs.YtdliljijgokpjaaDoor
namespace Rows

/-- THE TIED CARD OF 'ententelaw09.DefChecks'. -/
def defChecksCard : Claim7 := { stood := { row := defChecksRow, standIns := [], harness := (true, "ae7bc6c80cafa693bbd408374e132e2c7b62b394d903cdd24dd968ac5e817c12"), looks := false }, kinds := [], alts := [], laidByText := true, laidKinds := [.data, .data, .data], laidTests := true, laidLooks := .later }
def DefChecksCardSaid : Prop := Claim7.holds Tryd.pinned (.plain (OpenSpec.ofChange defChecksSpec)) defChecksCard

/-- THE TIED CARD OF 'ententelaw09.DefParses'. -/
def defParsesCard : Claim7 := { stood := { row := defParsesRow, standIns := [], harness := (true, "ae7bc6c80cafa693bbd408374e132e2c7b62b394d903cdd24dd968ac5e817c12"), looks := false }, kinds := [], alts := [], laidByText := true, laidKinds := [.data, .data, .data], laidTests := true, laidLooks := .later }
def DefParsesCardSaid : Prop := Claim7.holds Tryd.pinned (.plain (OpenSpec.ofChange defParsesSpec)) defParsesCard

/-- THE TIED CARD OF 'ententelaw09.DefTexts'. -/
def defTextsCard : Claim7 := { stood := { row := defTextsRow, standIns := [], harness := (true, "ae7bc6c80cafa693bbd408374e132e2c7b62b394d903cdd24dd968ac5e817c12"), looks := false }, kinds := [], alts := [], laidByText := true, laidKinds := [.data, .data, .data], laidTests := true, laidLooks := .later }
def DefTextsCardSaid : Prop := Claim7.holds Tryd.pinned (.plain (OpenSpec.ofChange defTextsSpec)) defTextsCard

/-- THE TIED CARD OF 'ententelaw09.DefBack'. -/
def defBackCard : Claim7 := { stood := { row := defBackRow, standIns := [], harness := (true, "ae7bc6c80cafa693bbd408374e132e2c7b62b394d903cdd24dd968ac5e817c12"), looks := false }, kinds := [], alts := [], laidByText := true, laidKinds := [.data, .data, .data], laidTests := true, laidLooks := .later }
def DefBackCardSaid : Prop := Claim7.holds Tryd.pinned (.plain (OpenSpec.ofChange defBackSpec)) defBackCard

/-- THE TIED CARD OF 'ententelaw09.DefWritten'. -/
def defWrittenCard : Claim7 := { stood := { row := defWrittenRow, standIns := [], harness := (true, "ae7bc6c80cafa693bbd408374e132e2c7b62b394d903cdd24dd968ac5e817c12"), looks := false }, kinds := [], alts := [], laidByText := true, laidKinds := [.data, .data, .data], laidTests := true, laidLooks := .later }
def DefWrittenCardSaid : Prop := Claim7.holds Tryd.pinned (.plain (OpenSpec.ofChange defWrittenSpec)) defWrittenCard

/-- THE SECOND FORM's CARD OF 'ententelaw09.DefChecks'. -/
def defChecksUptoCard : Claim7 := { stood := { row := defChecksUptoRow, standIns := [], harness := (true, "ae7bc6c80cafa693bbd408374e132e2c7b62b394d903cdd24dd968ac5e817c12"), looks := false }, kinds := [], alts := [], laidByText := true, laidKinds := [.data, .data, .data], laidTests := true, laidLooks := .later }
def DefChecksUptoCardSaid : Prop := Claim7.holds Tryd.pinned (.plain (OpenSpec.upto defChecksSpec)) defChecksUptoCard

/-- THE SECOND FORM's CARD OF 'ententelaw09.DefParses'. -/
def defParsesUptoCard : Claim7 := { stood := { row := defParsesUptoRow, standIns := [], harness := (true, "ae7bc6c80cafa693bbd408374e132e2c7b62b394d903cdd24dd968ac5e817c12"), looks := false }, kinds := [], alts := [], laidByText := true, laidKinds := [.data, .data, .data], laidTests := true, laidLooks := .later }
def DefParsesUptoCardSaid : Prop := Claim7.holds Tryd.pinned (.plain (OpenSpec.upto defParsesSpec)) defParsesUptoCard

/-- THE SECOND FORM's CARD OF 'ententelaw09.DefTexts'. -/
def defTextsUptoCard : Claim7 := { stood := { row := defTextsUptoRow, standIns := [], harness := (true, "ae7bc6c80cafa693bbd408374e132e2c7b62b394d903cdd24dd968ac5e817c12"), looks := false }, kinds := [], alts := [], laidByText := true, laidKinds := [.data, .data, .data], laidTests := true, laidLooks := .later }
def DefTextsUptoCardSaid : Prop := Claim7.holds Tryd.pinned (.plain (OpenSpec.upto defTextsSpec)) defTextsUptoCard

/-- THE SECOND FORM's CARD OF 'ententelaw09.DefBack'. -/
def defBackUptoCard : Claim7 := { stood := { row := defBackUptoRow, standIns := [], harness := (true, "ae7bc6c80cafa693bbd408374e132e2c7b62b394d903cdd24dd968ac5e817c12"), looks := false }, kinds := [], alts := [], laidByText := true, laidKinds := [.data, .data, .data], laidTests := true, laidLooks := .later }
def DefBackUptoCardSaid : Prop := Claim7.holds Tryd.pinned (.plain (OpenSpec.upto defBackSpec)) defBackUptoCard

/-- THE SECOND FORM's CARD OF 'ententelaw09.DefWritten'. -/
def defWrittenUptoCard : Claim7 := { stood := { row := defWrittenUptoRow, standIns := [], harness := (true, "ae7bc6c80cafa693bbd408374e132e2c7b62b394d903cdd24dd968ac5e817c12"), looks := false }, kinds := [], alts := [], laidByText := true, laidKinds := [.data, .data, .data], laidTests := true, laidLooks := .later }
def DefWrittenUptoCardSaid : Prop := Claim7.holds Tryd.pinned (.plain (OpenSpec.upto defWrittenSpec)) defWrittenUptoCard
end Rows
end Go.Proofs.YtdliljijgokpjaaDoor
