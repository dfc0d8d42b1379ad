/- The listed variables, opened: what the walks ask of memory; and a start that meets the rows' condition. -/
import Derived.Test.YtmidlcipbpchgaaDoorRows
import Derived.Test.YtmidlcipbpchgaaDoorTie
import Derived.Test.YtmidlcipbpchgaaDoorCards
import Derived.Test.YtmidlcipbpchgaaDoorEnvP
import Derived.ProofKit
import Derived.LaidMore
import Derived.OpenShut
import Derived.Stop.Joined
import Derived.Stop.LaidErr
import Derived.Lib.LaidTab
import Derived.ShutString
import Derived.SizedLaws
namespace Go.Proofs.YtmidlcipbpchgaaDoor
open Go.ChangeShapes Go.WideShapes Go.ChangeAt Go.RowKit

abbrev laidL : List (String × DataW Unit) := [("math/bits.deBruijn32tab", Rows.laid_math_bits_deBruijn32tab), ("math/bits.deBruijn64tab", Rows.laid_math_bits_deBruijn64tab), ("internal/strconv.uint64pow10", Rows.laid_internal_strconv_uint64pow10), ("strconv.ErrRange", Rows.laid_strconv_ErrRange), ("strconv.ErrSyntax", Rows.laid_strconv_ErrSyntax)]
theorem own2 : ownKnob Tryd.prog.godebug = none := by kernel_rfl
theorem laidOut2 : laidOutB Tryd.prog = true := by kernel_rfl
theorem door_met (os : Os) (args : Array Value) : laidMetH Tryd.prog laidL ((World.doorLaid Tryd.prog 400 os).forCall (fun _ _ => 0) ⟨#[], args, []⟩).memory :=
  laidMetH_of_parts3 (fuel := 8) (laidMet_of_run' 8 (by kernel_rfl) (by kernel_rfl)) (by kernel_rfl) (by kernel_rfl)
theorem star : "*errors.errorString" = "*" ++ "errors.errorString" := by decide
theorem rowE (u : TypeId) (h : Tryd.prog.typeName? 3 u = some "*errors.errorString") : u = 120 :=
  typeName_ptr_named (nm := "errors.errorString") (by rw [← star]; kernel_rfl) (by kernel_rfl) (by decide) u (by rw [← star]; exact h)

theorem env_of_laid {W : World} (h : laidMetH Tryd.prog laidL W) : Env W := by
  rw [MakeChecks.laidMetH_plain _ _ _ (by kernel_rfl)] at h
  have h3 := h.tail.tail
  have h4 := h3.tail
  have h5 := h4.tail
  have hT := Lib.tabIs_of_head (zs := Lib.pow10Tab) (k := .u64) (by kernel_rfl : Tryd.prog.globalNamed "internal/strconv.uint64pow10" = some 0) (by kernel_rfl : (Tryd.prog.globals[0]?).map (·.type) = some 93) Tryd.underlying93 Tryd.underlying80 (by kernel_rfl) (by kernel_rfl) h3
  obtain ⟨a4, _, v4, _⟩ := laid_sentinel h4 (by kernel_rfl : Tryd.prog.globalNamed "strconv.ErrRange" = some 5) (by kernel_rfl : (Tryd.prog.globals[5]?).map (·.type) = some 88) Tryd.underlying88 rowE Tryd.underlying120 Tryd.underlying122 rfl rfl Tryd.underlying9 (by kernel_rfl) (by kernel_rfl)
  obtain ⟨a5, _, v5, _⟩ := laid_sentinel h5 (by kernel_rfl : Tryd.prog.globalNamed "strconv.ErrSyntax" = some 4) (by kernel_rfl : (Tryd.prog.globals[4]?).map (·.type) = some 88) Tryd.underlying88 rowE Tryd.underlying120 Tryd.underlying122 rfl rfl Tryd.underlying9 (by kernel_rfl) (by kernel_rfl)
  refine ⟨hT, ⟨120, .pointer (some a5), ?_⟩, ⟨120, .pointer (some a4), ?_⟩⟩
  · exact World.var?_cell (by kernel_rfl : Tryd.prog.globalNamed "strconv.ErrSyntax" = some 4) v5 0
  · exact World.var?_cell (by kernel_rfl : Tryd.prog.globalNamed "strconv.ErrRange" = some 5) v4 0
end Go.Proofs.YtmidlcipbpchgaaDoor
