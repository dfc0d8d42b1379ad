
/- The listed table of seal, opened: what the walks ask of memory; and a start that meets the rows' condition. -/
import Derived.Test.YtoeibjflaiiljaaDoorRows
import Derived.Test.YtoeibjflaiiljaaDoorTie
import Derived.Test.YtoeibjflaiiljaaDoorCards
import Derived.Test.YtoeibjflaiiljaaDoorSumP
import Derived.ProofKit
import Derived.LaidMore
import Derived.OpenShut
import Derived.Stop.Joined
import Derived.Lib.LaidTab
import Derived.ShutString
import Derived.SizedLaws
namespace Go.Proofs.YtoeibjflaiiljaaDoor
open Go.ChangeShapes Go.WideShapes Go.ChangeAt Go.RowKit

abbrev laidL : List (String × DataW Unit) := [("entente/seal.fourBits", Rows.laid_entente_seal_fourBits)]
theorem own2 : ownKnob Tryd.prog.godebug = none := by kernel_rfl
theorem gFour : Tryd.prog.globalNamed "entente/seal.fourBits" = some 0 := by kernel_rfl
theorem tFour : (Tryd.prog.globals[0]?).map (·.type) = some 88 := by kernel_rfl
theorem door_met (os : Os) (args : Array Value) : laidMetH Tryd.prog laidL ((World.doorLaid Tryd.prog 400 os).forCall (fun _ _ => 0) ⟨#[], args, []⟩).memory :=
  laidMetH_of_parts3 (fuel := 8) (laidMet_of_run' 8 (by kernel_rfl) (by kernel_rfl)) (by kernel_rfl) (by kernel_rfl)

theorem tab_of_laid {W : World} (h : laidMetH Tryd.prog laidL W) : Tab W := by
  rw [MakeChecks.laidMetH_plain _ _ _ (by kernel_rfl)] at h
  have hT := Lib.tabIs_of_head (zs := Sl.table) (k := .u64) (rest := []) gFour tFour Tryd.underlying88 Tryd.underlying53 (by kernel_rfl) (by kernel_rfl) h
  intro j hj
  have := hT.cell gFour j (by rw [Sl.table_len]; exact hj)
  rw [Sl.table_at j hj] at this
  exact this
end Go.Proofs.YtoeibjflaiiljaaDoor
