/- Parts of these proofs, laid together. -/
import Derived.Test.YtcmbppjfpdkblaaGreatDoorRows
import Derived.Test.YtcmbppjfpdkblaaGreatDoorTie
import Derived.Test.YtcmbppjfpdkblaaGreatDoorCards
import Derived.Test.YtcmbppjfpdkblaaGreatDoorHA
import Derived.ProofKit
import Derived.LaidMore
import Derived.OpenShut
import Derived.Stop.Joined
import Derived.Stop.LaidErr
import Derived.Lib.LaidTab
import Derived.ShutString
import Derived.SizedLaws
/- The listed variables, opened: what the walks ask of memory; and a start that meets the rows' condition. -/
namespace Go.Proofs.YtcmbppjfpdkblaaGreatDoor
open Go.ChangeShapes Go.WideShapes Go.ChangeAt Go.RowKit

abbrev laidL : List (String × DataW Unit) := [("math/bits.deBruijn32tab", Rows.laid_math_bits_deBruijn32tab), ("math/bits.deBruijn64tab", Rows.laid_math_bits_deBruijn64tab), ("internal/strconv.uint64pow10", Rows.laid_internal_strconv_uint64pow10), ("strconv.ErrRange", Rows.laid_strconv_ErrRange), ("strconv.ErrSyntax", Rows.laid_strconv_ErrSyntax), ("entente/seal.fourBits", Rows.laid_entente_seal_fourBits), ("entente/note.kindWords", Rows.laid_entente_note_kindWords)]
theorem own2 : ownKnob Tryz.prog.godebug = none := by kernel_rfl
theorem laidOut2 : laidOutB Tryz.prog = true := by kernel_rfl
theorem door_met (os : Os) (args : Array Value) : laidMetH Tryz.prog laidL ((World.doorLaid Tryz.prog 400 os).forCall (fun _ _ => 0) ⟨#[], args, []⟩).memory :=
  laidMetH_of_parts3 (fuel := 8) (laidMet_of_run' 8 (by kernel_rfl) (by kernel_rfl)) (by kernel_rfl) (by kernel_rfl)
theorem star : "*errors.errorString" = "*" ++ "errors.errorString" := by decide
theorem rowE (u : TypeId) (h : Tryz.prog.typeName? 3 u = some "*errors.errorString") : u = 171 :=
  typeName_ptr_named (nm := "errors.errorString") (by rw [← star]; kernel_rfl) (by kernel_rfl) (by decide) u (by rw [← star]; exact h)

/- an array of texts that reads as listed holds these texts -/
theorem texts_of_tab {H : Type} {enc : TypeId × Value → H} {P : Program} {w : World} {base : Nat} {sp : Nat → Bool} {held : Bool} {fuel : Nat} {t e : TypeId} {n : Nat} {cs : List Value} {zs : List (List UInt8)} {p : List MemPlace}
    (ht : P.underlying t = some (.array n e)) (he : P.underlying e = some .string) (hce : P.cellsOf e = 1) (hct : P.cellsOf t = n)
    (h : DataW.trod enc P w base sp held fuel t cs = some (.agg (zs.map fun z => .lit (.string z)), p)) : cs = zs.map fun z => Value.string ⟨z.toArray⟩ := by
  obtain ⟨xs, m, _, hx, hl, hxl, hf⟩ := DataW.trod_array ht h
  have hxs : xs.map (·.1) = zs.map fun z => (DataW.lit (.string z) : DataW H) := by
    have := congrArg Prod.fst hx
    simpa using this.symm
  have hzl : zs.length = n := by
    have := congrArg List.length hxs
    simp at this
    omega
  rw [hct] at hl
  apply List.ext_getElem?
  intro i
  by_cases hi : i < n
  · have hfi := hf i hi
    obtain ⟨y, hy⟩ : ∃ y, xs[i]? = some y := ⟨xs[i]'(by omega), List.getElem?_eq_getElem _⟩
    rw [hy, hce, Nat.mul_one] at hfi
    obtain ⟨s, hc, rfl, _⟩ := DataW.trod_string he hfi
    have h1 : cs[i]? = some (.string s) := by
      have := congrArg (·[0]?) hc
      simpa [List.getElem?_take, List.getElem?_drop] using this
    have h2 : (xs.map (·.1))[i]? = some (DataW.lit (.string s.data.toList) : DataW H) := by simp [hy]
    rw [hxs] at h2
    simp only [List.getElem?_map, Option.map_eq_some_iff, DataW.lit.injEq, Lit.string.injEq] at h2
    obtain ⟨z', hz', rfl⟩ := h2
    simp [h1, hz']
  · rw [List.getElem?_eq_none (by omega), List.getElem?_eq_none (by simp; omega)]

def kwL : List (List UInt8) := [[111, 102, 102, 101, 114], [114, 101, 110, 101, 119], [99, 111, 109, 109, 105, 116], [117, 110, 100, 111], [104, 101, 108, 100], [103, 111, 110, 101], [107, 101, 112, 116]]
theorem kw_at (j : Nat) (h : j < 7) : (kwL.map fun z => Value.string ⟨z.toArray⟩)[j]? = some (.string ⟨(Nt.wordL ((j : Int) + 1)).toArray⟩) := by
  match j, h with
  | 0, _ => rfl
  | 1, _ => rfl
  | 2, _ => rfl
  | 3, _ => rfl
  | 4, _ => rfl
  | 5, _ => rfl
  | 6, _ => rfl

theorem env_of_laid {W : World} (h : laidMetH Tryz.prog laidL W) : EnvN W := by
  rw [MakeChecks.laidMetH_plain _ _ _ (by kernel_rfl)] at h
  have h3 := h.tail.tail
  have h4 := h3.tail
  have h5 := h4.tail
  have h6 := h5.tail
  have h7 := h6.tail
  have hT := Lib.tabIs_of_head (zs := Lib.pow10Tab) (k := .u64) (by kernel_rfl : Tryz.prog.globalNamed "internal/strconv.uint64pow10" = some 2) (by kernel_rfl : (Tryz.prog.globals[2]?).map (·.type) = some 139) Tryz.underlying139 Tryz.underlying89 (by kernel_rfl) (by kernel_rfl) h3
  obtain ⟨a4, _, v4, _⟩ := laid_sentinel h4 (by kernel_rfl : Tryz.prog.globalNamed "strconv.ErrRange" = some 7) (by kernel_rfl : (Tryz.prog.globals[7]?).map (·.type) = some 152) Tryz.underlying152 rowE Tryz.underlying171 Tryz.underlying173 rfl rfl Tryz.underlying9 (by kernel_rfl) (by kernel_rfl)
  obtain ⟨a5, _, v5, _⟩ := laid_sentinel h5 (by kernel_rfl : Tryz.prog.globalNamed "strconv.ErrSyntax" = some 6) (by kernel_rfl : (Tryz.prog.globals[6]?).map (·.type) = some 152) Tryz.underlying152 rowE Tryz.underlying171 Tryz.underlying173 rfl rfl Tryz.underlying9 (by kernel_rfl) (by kernel_rfl)
  have gF : Tryz.prog.globalNamed "entente/seal.fourBits" = some 1 := by kernel_rfl
  have hB := Lib.tabIs_of_head (zs := Sl.table) (k := .u64) gF (by kernel_rfl : (Tryz.prog.globals[1]?).map (·.type) = some 113) Tryz.underlying113 Tryz.underlying89 (by kernel_rfl) (by kernel_rfl) h6
  refine ⟨⟨hT, ⟨171, .pointer (some a5), ?_⟩, ⟨171, .pointer (some a4), ?_⟩⟩, ?_, ?_⟩
  · exact World.var?_cell (by kernel_rfl : Tryz.prog.globalNamed "strconv.ErrSyntax" = some 6) v5 0
  · exact World.var?_cell (by kernel_rfl : Tryz.prog.globalNamed "strconv.ErrRange" = some 7) v4 0
  · intro j hj
    have := hB.cell gF j (by rw [Sl.table_len]; exact hj)
    rw [Sl.table_at j hj] at this
    exact this
  · intro j hj
    obtain ⟨ps, ⟨g', t', cs, fuel, p, q, hg', ht', hvar, hd, _, _⟩, _⟩ := h7
    have gK : Tryz.prog.globalNamed "entente/note.kindWords" = some 0 := by kernel_rfl
    obtain rfl := Option.some.inj (gK.symm.trans hg')
    obtain rfl := Option.some.inj ((by kernel_rfl : (Tryz.prog.globals[0]?).map (·.type) = some 60).symm.trans ht')
    have hc := texts_of_tab (zs := kwL) Tryz.underlying60 Tryz.underlying9 (by kernel_rfl) (by kernel_rfl) hd
    have hv := World.var?_cell gK hvar j
    have e2 : cs = (kwL.map fun z => Value.string ⟨z.toArray⟩).toArray := by rw [← hc]
    rw [e2] at hv
    rw [hv]
    have := kw_at j hj
    simpa using this
end Go.Proofs.YtcmbppjfpdkblaaGreatDoor
