/-
  DERIVED. GIVEN WITH THE SEED: THE CARDS: each row of YtoeibjflaiiljaaDoorRows.lean that lists a variable, with what it lists TIED to the program's text (the seventh form; the later family's looks); each row that meets fmt, with fmt's text TOLD by the authors' own Lean function (tested against real Go, not proved from fmt's source: count such statements apart). THE CARD IS WHAT COUNTS. Prove the row's statement (the work); the ties are given (YtoeibjflaiiljaaDoorTie.lean); close each card by the builder's one call (the guide's Derived/Test/ToyasCard.lean, 'card_holds'). Laid BY PROGRAM, IN A SANDBOX (cutbox-door.mjs). By AI agents, Wed Nov 11 2026. No macro, syntax, notation, axiom, sorry.
-/
import Derived.Test.YtoeibjflaiiljaaDoorRows
import GoSem.ClaimSeven
namespace Go.Proofs.YtoeibjflaiiljaaDoor
namespace Rows

/-- THE TIED CARD OF 'ententelaw16.SegmentMakes'. -/
def segmentMakesCard : Claim7 := { stood := { row := segmentMakesRow, standIns := [], harness := (true, "bd5fecf5b305d5c900338b8eb8152168445dc55772493c5ce2fd1accb5df91ff"), looks := false }, kinds := [], alts := [], laidByText := true, laidKinds := [.data], laidTests := true, laidLooks := .later }
def SegmentMakesCardSaid : Prop := Claim7.holds Tryd.pinned (.plain (OpenSpec.ofChange segmentMakesSpec)) segmentMakesCard

/-- THE TIED CARD OF 'ententelaw16.SegmentLooks'. -/
def segmentLooksCard : Claim7 := { stood := { row := segmentLooksRow, standIns := [], harness := (true, "bd5fecf5b305d5c900338b8eb8152168445dc55772493c5ce2fd1accb5df91ff"), looks := false }, kinds := [], alts := [], laidByText := true, laidKinds := [.data], laidTests := true, laidLooks := .later }
def SegmentLooksCardSaid : Prop := Claim7.holds Tryd.pinned (.plain (OpenSpec.ofChange segmentLooksSpec)) segmentLooksCard

/-- THE TIED CARD OF 'ententelaw16.SegmentReads'. -/
def segmentReadsCard : Claim7 := { stood := { row := segmentReadsRow, standIns := [], harness := (true, "bd5fecf5b305d5c900338b8eb8152168445dc55772493c5ce2fd1accb5df91ff"), looks := false }, kinds := [], alts := [], laidByText := true, laidKinds := [.data], laidTests := true, laidLooks := .later }
def SegmentReadsCardSaid : Prop := Claim7.holds Tryd.pinned (.plain (OpenSpec.ofChange segmentReadsSpec)) segmentReadsCard

/-- THE TIED CARD OF 'ententelaw16.SegmentTorn'. -/
def segmentTornCard : Claim7 := { stood := { row := segmentTornRow, standIns := [], harness := (true, "bd5fecf5b305d5c900338b8eb8152168445dc55772493c5ce2fd1accb5df91ff"), looks := false }, kinds := [], alts := [], laidByText := true, laidKinds := [.data], laidTests := true, laidLooks := .later }
def SegmentTornCardSaid : Prop := Claim7.holds Tryd.pinned (.plain (OpenSpec.ofChange segmentTornSpec)) segmentTornCard

/-- THE SECOND FORM's CARD OF 'ententelaw16.SegmentMakes'. -/
def segmentMakesUptoCard : Claim7 := { stood := { row := segmentMakesUptoRow, standIns := [], harness := (true, "bd5fecf5b305d5c900338b8eb8152168445dc55772493c5ce2fd1accb5df91ff"), looks := false }, kinds := [], alts := [], laidByText := true, laidKinds := [.data], laidTests := true, laidLooks := .later }
def SegmentMakesUptoCardSaid : Prop := Claim7.holds Tryd.pinned (.plain (OpenSpec.upto segmentMakesSpec)) segmentMakesUptoCard

/-- THE SECOND FORM's CARD OF 'ententelaw16.SegmentLooks'. -/
def segmentLooksUptoCard : Claim7 := { stood := { row := segmentLooksUptoRow, standIns := [], harness := (true, "bd5fecf5b305d5c900338b8eb8152168445dc55772493c5ce2fd1accb5df91ff"), looks := false }, kinds := [], alts := [], laidByText := true, laidKinds := [.data], laidTests := true, laidLooks := .later }
def SegmentLooksUptoCardSaid : Prop := Claim7.holds Tryd.pinned (.plain (OpenSpec.upto segmentLooksSpec)) segmentLooksUptoCard

/-- THE SECOND FORM's CARD OF 'ententelaw16.SegmentReads'. -/
def segmentReadsUptoCard : Claim7 := { stood := { row := segmentReadsUptoRow, standIns := [], harness := (true, "bd5fecf5b305d5c900338b8eb8152168445dc55772493c5ce2fd1accb5df91ff"), looks := false }, kinds := [], alts := [], laidByText := true, laidKinds := [.data], laidTests := true, laidLooks := .later }
def SegmentReadsUptoCardSaid : Prop := Claim7.holds Tryd.pinned (.plain (OpenSpec.upto segmentReadsSpec)) segmentReadsUptoCard

/-- THE SECOND FORM's CARD OF 'ententelaw16.SegmentTorn'. -/
def segmentTornUptoCard : Claim7 := { stood := { row := segmentTornUptoRow, standIns := [], harness := (true, "bd5fecf5b305d5c900338b8eb8152168445dc55772493c5ce2fd1accb5df91ff"), looks := false }, kinds := [], alts := [], laidByText := true, laidKinds := [.data], laidTests := true, laidLooks := .later }
def SegmentTornUptoCardSaid : Prop := Claim7.holds Tryd.pinned (.plain (OpenSpec.upto segmentTornSpec)) segmentTornUptoCard
end Rows
end Go.Proofs.YtoeibjflaiiljaaDoor
