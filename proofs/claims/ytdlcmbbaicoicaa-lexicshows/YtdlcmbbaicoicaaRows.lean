/-
  No cell of these rows narrows 'for every input' (looked for: loops, veiled, ifaces, maps, wideKeys, modest, calm, conditions, laid).
  DERIVED. THE GIVEN ROWS OF THIS SEAT. 6 by the template 'for every input the law returns true; each argument reads behind the call as it read before'; 0 by the template 'total and deterministic' (their statements: YtdlcmbbaicoicaaTotals.lean).
  GIVEN WITH THE SEED: the statements are not yours to turn. If you find one false, say at which input.
  Laid BY PROGRAM, IN A SANDBOX (cutbox-rows.mjs): the forced cells as the released guide's own fill.sh prints them over the translation a78f86c0ce866c79… (all of the seat's roots in one cut). By AI agents, Wed Nov 11 2026. No macro, syntax, notation, axiom, sorry.
-/
import Derived.Test.YtdlcmbbaicoicaaChecked
import GoSem.Claim
import GoSem.ClaimJoined
import GoSem.ClaimMapViews
import Derived.JoinedTies
import Derived.KernelRfl
namespace Go.Proofs.Ytdlcmbbaicoicaa
/- THE CELL 'sum', in the pinned program and in every row, IS THE sha256 OF THE DUMP (.gsa) THAT YtdlcmbbaicoicaaProg.lean LOADS. Nothing in Lean hashes anything: it is a label: what it is worth is what the hold of that sum in a sandbox is worth. -/
noncomputable def Try.pinned : Pinned := { name := "ytdlcmbbaicoicaa", sum := "a78f86c0ce866c794744f46045af10679975997b1f70a9618c5569b49903e5ec", checked := Try.checked }
namespace Rows
def none {H : Type} : Left H := { results := [], args := [] }

/-- 'ententelaw08.LexicScans': WHATEVER THE INPUT: true; the input reads as it did. -/
def lexicScansSpec : ChangeSpec := { name := "lexicScans", fn := fun _ => fun
  | [d] => { results := [.lit (.bool true)], args := [d] }
  | _ => none }
def lexicScansRow : OpenClaim := { program := "ytdlcmbbaicoicaa", sum := "a78f86c0ce866c794744f46045af10679975997b1f70a9618c5569b49903e5ec", func := "entente/ententelaw08.LexicScans", spec := "lexicScans", unfollowed := true, recurses := true, apart := false }
def LexicScansSaid : Prop := lexicScansRow.holds Try.pinned (OpenSpec.ofChange lexicScansSpec)

/-- ITS FALSE NEIGHBOUR: 'it returns false'. Refute it at one input. -/
def lexicScansWrong : ChangeSpec := { name := "lexicScans", fn := fun _ => fun
  | [d] => { results := [.lit (.bool false)], args := [d] }
  | _ => none }
def LexicScansWrongFalsely : Prop := lexicScansRow.holds Try.pinned (OpenSpec.ofChange lexicScansWrong)

/-- 'ententelaw08.LexicShows': WHATEVER THE INPUT: true; the input reads as it did. -/
def lexicShowsSpec : ChangeSpec := { name := "lexicShows", fn := fun _ => fun
  | [d] => { results := [.lit (.bool true)], args := [d] }
  | _ => none }
def lexicShowsRow : OpenClaim := { program := "ytdlcmbbaicoicaa", sum := "a78f86c0ce866c794744f46045af10679975997b1f70a9618c5569b49903e5ec", func := "entente/ententelaw08.LexicShows", spec := "lexicShows", unfollowed := true, recurses := true, apart := false }
def LexicShowsSaid : Prop := lexicShowsRow.holds Try.pinned (OpenSpec.ofChange lexicShowsSpec)

/-- ITS FALSE NEIGHBOUR: 'it returns false'. Refute it at one input. -/
def lexicShowsWrong : ChangeSpec := { name := "lexicShows", fn := fun _ => fun
  | [d] => { results := [.lit (.bool false)], args := [d] }
  | _ => none }
def LexicShowsWrongFalsely : Prop := lexicShowsRow.holds Try.pinned (OpenSpec.ofChange lexicShowsWrong)

/-- 'ententelaw08.LexicValues': WHATEVER THE INPUT: true; the input reads as it did. -/
def lexicValuesSpec : ChangeSpec := { name := "lexicValues", fn := fun _ => fun
  | [d] => { results := [.lit (.bool true)], args := [d] }
  | _ => none }
def lexicValuesRow : OpenClaim := { program := "ytdlcmbbaicoicaa", sum := "a78f86c0ce866c794744f46045af10679975997b1f70a9618c5569b49903e5ec", func := "entente/ententelaw08.LexicValues", spec := "lexicValues", unfollowed := true, recurses := true, apart := false }
def LexicValuesSaid : Prop := lexicValuesRow.holds Try.pinned (OpenSpec.ofChange lexicValuesSpec)

/-- ITS FALSE NEIGHBOUR: 'it returns false'. Refute it at one input. -/
def lexicValuesWrong : ChangeSpec := { name := "lexicValues", fn := fun _ => fun
  | [d] => { results := [.lit (.bool false)], args := [d] }
  | _ => none }
def LexicValuesWrongFalsely : Prop := lexicValuesRow.holds Try.pinned (OpenSpec.ofChange lexicValuesWrong)

/-- 'ententelaw08.LexicBack': WHATEVER THE INPUT: true; the input reads as it did. -/
def lexicBackSpec : ChangeSpec := { name := "lexicBack", fn := fun _ => fun
  | [d] => { results := [.lit (.bool true)], args := [d] }
  | _ => none }
def lexicBackRow : OpenClaim := { program := "ytdlcmbbaicoicaa", sum := "a78f86c0ce866c794744f46045af10679975997b1f70a9618c5569b49903e5ec", func := "entente/ententelaw08.LexicBack", spec := "lexicBack", unfollowed := true, recurses := true, apart := false }
def LexicBackSaid : Prop := lexicBackRow.holds Try.pinned (OpenSpec.ofChange lexicBackSpec)

/-- ITS FALSE NEIGHBOUR: 'it returns false'. Refute it at one input. -/
def lexicBackWrong : ChangeSpec := { name := "lexicBack", fn := fun _ => fun
  | [d] => { results := [.lit (.bool false)], args := [d] }
  | _ => none }
def LexicBackWrongFalsely : Prop := lexicBackRow.holds Try.pinned (OpenSpec.ofChange lexicBackWrong)

/-- 'ententelaw08.LexicPlaces': WHATEVER THE INPUT: true; the input reads as it did. -/
def lexicPlacesSpec : ChangeSpec := { name := "lexicPlaces", fn := fun _ => fun
  | [d] => { results := [.lit (.bool true)], args := [d] }
  | _ => none }
def lexicPlacesRow : OpenClaim := { program := "ytdlcmbbaicoicaa", sum := "a78f86c0ce866c794744f46045af10679975997b1f70a9618c5569b49903e5ec", func := "entente/ententelaw08.LexicPlaces", spec := "lexicPlaces", unfollowed := true, recurses := true, apart := false }
def LexicPlacesSaid : Prop := lexicPlacesRow.holds Try.pinned (OpenSpec.ofChange lexicPlacesSpec)

/-- ITS FALSE NEIGHBOUR: 'it returns false'. Refute it at one input. -/
def lexicPlacesWrong : ChangeSpec := { name := "lexicPlaces", fn := fun _ => fun
  | [d] => { results := [.lit (.bool false)], args := [d] }
  | _ => none }
def LexicPlacesWrongFalsely : Prop := lexicPlacesRow.holds Try.pinned (OpenSpec.ofChange lexicPlacesWrong)

/-- 'ententelaw08.LexicBlanks': WHATEVER THE INPUT: true; the input reads as it did. -/
def lexicBlanksSpec : ChangeSpec := { name := "lexicBlanks", fn := fun _ => fun
  | [d] => { results := [.lit (.bool true)], args := [d] }
  | _ => none }
def lexicBlanksRow : OpenClaim := { program := "ytdlcmbbaicoicaa", sum := "a78f86c0ce866c794744f46045af10679975997b1f70a9618c5569b49903e5ec", func := "entente/ententelaw08.LexicBlanks", spec := "lexicBlanks", unfollowed := true, recurses := true, apart := false }
def LexicBlanksSaid : Prop := lexicBlanksRow.holds Try.pinned (OpenSpec.ofChange lexicBlanksSpec)

/-- ITS FALSE NEIGHBOUR: 'it returns false'. Refute it at one input. -/
def lexicBlanksWrong : ChangeSpec := { name := "lexicBlanks", fn := fun _ => fun
  | [d] => { results := [.lit (.bool false)], args := [d] }
  | _ => none }
def LexicBlanksWrongFalsely : Prop := lexicBlanksRow.holds Try.pinned (OpenSpec.ofChange lexicBlanksWrong)

/- THE SECOND FORM. 'bulk': how many values and letters a reading holds, each counted each time it is reached (what is shared counts as often as it is met; a slice's spare places count too). A statement '..UptoSaid' is the law's where the arguments, and the package variables that the reading takes, are together of bulk at most 1048576: NARROWER than '..Said'. Prove '..Said' where nothing that the law and all that it calls make is longer than what came in: it says more and counts as full. Else prove '..UptoSaid'. A law counts once. -/
mutual
def uptoBulk {H : Type} : DataW H → Nat
  | .lit (.string bytes) => bytes.length + 1
  | .lit _ => 1
  | .nil => 1
  | .ptr d => uptoBulk d + 1
  | .slice elems spare => uptoBulkAll elems + uptoBulkAll spare + 1
  | .agg parts => uptoBulkAll parts + 1
  | .iface _ d => uptoBulk d + 1
  | .map entries => uptoBulkEntries entries + 1
  | .held _ => 1
def uptoBulkAll {H : Type} : List (DataW H) → Nat
  | [] => 0
  | d :: r => uptoBulk d + uptoBulkAll r
def uptoBulkEntries {H : Type} : List (Lit × DataW H) → Nat
  | [] => 0
  | x :: r => uptoBulkEntry x + uptoBulkEntries r
def uptoBulkEntry {H : Type} : Lit × DataW H → Nat
  | (.string bytes, d) => bytes.length + uptoBulk d + 1
  | (_, d) => uptoBulk d + 1
 end
def uptoSmall : (H : Type) → List (DataW H) → Bool := fun _ ds => decide (uptoBulkAll ds ≤ 1048576)
def OpenSpec.upto (s : _root_.Go.ChangeSpec) : _root_.Go.OpenSpec := { _root_.Go.OpenSpec.ofChange s with cond := some uptoSmall }

/-- 'ententelaw08.LexicScans', WHERE WHAT IT READS IS OF BULK AT MOST 1048576: true; the input reads as it did. -/
def lexicScansUptoRow : OpenClaim := { program := "ytdlcmbbaicoicaa", sum := "a78f86c0ce866c794744f46045af10679975997b1f70a9618c5569b49903e5ec", func := "entente/ententelaw08.LexicScans", spec := "lexicScans", unfollowed := true, recurses := true, apart := false, narrowed := true }
def LexicScansUptoSaid : Prop := lexicScansUptoRow.holds Try.pinned (OpenSpec.upto lexicScansSpec)

/-- 'ententelaw08.LexicShows', WHERE WHAT IT READS IS OF BULK AT MOST 1048576: true; the input reads as it did. -/
def lexicShowsUptoRow : OpenClaim := { program := "ytdlcmbbaicoicaa", sum := "a78f86c0ce866c794744f46045af10679975997b1f70a9618c5569b49903e5ec", func := "entente/ententelaw08.LexicShows", spec := "lexicShows", unfollowed := true, recurses := true, apart := false, narrowed := true }
def LexicShowsUptoSaid : Prop := lexicShowsUptoRow.holds Try.pinned (OpenSpec.upto lexicShowsSpec)

/-- 'ententelaw08.LexicValues', WHERE WHAT IT READS IS OF BULK AT MOST 1048576: true; the input reads as it did. -/
def lexicValuesUptoRow : OpenClaim := { program := "ytdlcmbbaicoicaa", sum := "a78f86c0ce866c794744f46045af10679975997b1f70a9618c5569b49903e5ec", func := "entente/ententelaw08.LexicValues", spec := "lexicValues", unfollowed := true, recurses := true, apart := false, narrowed := true }
def LexicValuesUptoSaid : Prop := lexicValuesUptoRow.holds Try.pinned (OpenSpec.upto lexicValuesSpec)

/-- 'ententelaw08.LexicBack', WHERE WHAT IT READS IS OF BULK AT MOST 1048576: true; the input reads as it did. -/
def lexicBackUptoRow : OpenClaim := { program := "ytdlcmbbaicoicaa", sum := "a78f86c0ce866c794744f46045af10679975997b1f70a9618c5569b49903e5ec", func := "entente/ententelaw08.LexicBack", spec := "lexicBack", unfollowed := true, recurses := true, apart := false, narrowed := true }
def LexicBackUptoSaid : Prop := lexicBackUptoRow.holds Try.pinned (OpenSpec.upto lexicBackSpec)

/-- 'ententelaw08.LexicPlaces', WHERE WHAT IT READS IS OF BULK AT MOST 1048576: true; the input reads as it did. -/
def lexicPlacesUptoRow : OpenClaim := { program := "ytdlcmbbaicoicaa", sum := "a78f86c0ce866c794744f46045af10679975997b1f70a9618c5569b49903e5ec", func := "entente/ententelaw08.LexicPlaces", spec := "lexicPlaces", unfollowed := true, recurses := true, apart := false, narrowed := true }
def LexicPlacesUptoSaid : Prop := lexicPlacesUptoRow.holds Try.pinned (OpenSpec.upto lexicPlacesSpec)

/-- 'ententelaw08.LexicBlanks', WHERE WHAT IT READS IS OF BULK AT MOST 1048576: true; the input reads as it did. -/
def lexicBlanksUptoRow : OpenClaim := { program := "ytdlcmbbaicoicaa", sum := "a78f86c0ce866c794744f46045af10679975997b1f70a9618c5569b49903e5ec", func := "entente/ententelaw08.LexicBlanks", spec := "lexicBlanks", unfollowed := true, recurses := true, apart := false, narrowed := true }
def LexicBlanksUptoSaid : Prop := lexicBlanksUptoRow.holds Try.pinned (OpenSpec.upto lexicBlanksSpec)

end Rows
end Go.Proofs.Ytdlcmbbaicoicaa
