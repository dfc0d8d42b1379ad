/- Parts of these proofs, laid together. -/
import Derived.Test.YtojmhhmpmpbpfaaDoorGX
import Derived.Test.YtojmhhmpmpbpfaaDoorRows
import Derived.Test.YtojmhhmpmpbpfaaDoorGA
import Derived.ProofKit
import Derived.OpenShut
import Derived.SliceStrings
import Derived.Test.YtojmhhmpmpbpfaaDoorGT
import Derived.ChangeArms
namespace Go.Proofs.YtojmhhmpmpbpfaaDoor
open Go.RowKit

def stw (x : ByteArray) : List Value := [.string x]
theorem stw_len (x : ByteArray) : (stw x).length = 1 := rfl
theorem stw_flat (L : List ByteArray) (j : Nat) : (L.flatMap stw)[j]? = (L[j]?).map Value.string := by
  induction L generalizing j with
  | nil => simp
  | cons x r ih =>
    cases j with
    | zero => simp [stw]
    | succ j => simpa [stw] using ih j
theorem stw_one (L : List ByteArray) : ∀ u ∈ L.flatMap stw, u.oneCell' = true := by
  intro u hu
  obtain ⟨x, _, hx⟩ := List.mem_flatMap.1 hu
  simp [stw] at hx
  subst hx
  rfl
theorem stw_row {w : World} {ad : Option Addr} {L : List ByteArray} (h : StrsAt w ad L) : RowAt stw w ad L := by
  intro j u hu
  rw [stw_flat] at hu
  have hj : j < L.length := by
    rcases Nat.lt_or_ge j L.length with h | h
    · exact h
    · rw [List.getElem?_eq_none h] at hu; cases hu
  rw [List.getElem?_eq_getElem hj] at hu
  cases hu
  obtain ⟨b, off, e, h1, h2⟩ := h j hj
  exact ⟨b, off, e, h1, h2⟩
theorem stw_at {w : World} {ad : Option Addr} {L : List ByteArray} (h : RowAt stw w ad L) : StrsAt w ad L := by
  intro j hj
  obtain ⟨b, off, e, h1, h2⟩ := h j (.string L[j]) (by rw [stw_flat, List.getElem?_eq_getElem hj]; rfl)
  exact ⟨b, off, e, h1, h2⟩
theorem infoW : (Tryd.prog.info? 9).map (fun i => (i.zero, i.size, i.bytes)) = some (some (.string ⟨#[]⟩), 1, 16) := by kernel_rfl
theorem own_lit0s (w : World) (base : Nat) (t : TypeId) (hb : base ≤ w.heap.size) : (w.alloc (.cells #[] t)).ownsRow base t 1 (.slice (some ⟨w.heap.size, 0, none⟩) 0 0) 0 [] := World.ownsRow_lit w #[] 0 hb (by unfold maxLen; omega) rfl
theorem strs_ne {w : World} {ad : Option Addr} {L : List ByteArray} (h : StrsAt w ad L) (hne : L ≠ []) : ad ≠ none := by
  obtain ⟨b, off, e, _⟩ := h 0 (by cases L with | nil => exact absurd rfl hne | cons _ _ => simp)
  rw [e]; simp
set_option maxHeartbeats 4000000 in
set_option maxRecDepth 100000 in
theorem with_any (L : List ByteArray) (ad : Option Addr) (cap : Nat) (d : ByteArray) (w : World) (hL : StrsAt w ad L) (hne : L ≠ []) (hn : L.length ≤ 1000000) :
    Calls Tryd.prog 12 #[.slice ad L.length cap, .string d] w fun e w' => ∃ ab cb, e = .returned (.slice ab (L.length + 1) cb) ∧ StrsAt w' ab (L ++ [d]) ∧ (∀ p, ab = some p → w.heap.size ≤ p.block) ∧ Gr w w' := by
  obtain ⟨i0, hi0, hz0, hz1, hz2⟩ := info_parts infoW
  have hnn := strs_ne hL hne
  have HR := Lib.hid (stw_row (hL.gr ((Gr.refl w).alloc (o := .cells #[] 9))))
  have HO := Lib.hid (own_lit0s w w.heap.size 9 (Nat.le_refl _))
  clear hL
  go_enter Tryd.func12, Tryd.ntmps12
  go_wp2_with (first
    | (at_builtin; refine wpList_append_row rfl _ _ 32 rfl w.heap.size 9 i0 (.string ⟨#[]⟩) 1 16 Tryd.underlying32 hi0 hz0 hz1 hz2 rfl (by decide) _ 0 [] rfl HO.out stw_len L ad cap rfl (fun e => absurd e hnn) HR.out (stw_one _) (by unfold maxLen; omega) (by omega) (by simp) ?_)
    | fail)
  intro v1 w1 ho1 hg1 _
  have HG1 : Hid (Gr w w1) := (Gr.refl w).alloc.grown hg1 (fun y hy => (HO.out.lt y hy).1)
  have ho1' : w1.ownsRow w.heap.size 9 1 v1 L.length (L.flatMap stw) := by simpa using ho1
  obtain ⟨va, vc, rfl⟩ := own_slice ho1'
  have HO1 := Lib.hid (row_gr ho1' ((Gr.refl w1).alloc (o := .cells #[.string d] 9)))
  have HR1 := Lib.hid (stw_row (own_lit1 w1 d))
  have hs1 := HG1.out.size
  clear ho1 ho1' hg1 HR HO
  go_wp2_with (first
    | (at_builtin; refine wpList_append_row rfl _ _ 32 rfl w.heap.size 9 i0 (.string ⟨#[]⟩) 1 16 Tryd.underlying32 hi0 hz0 hz1 hz2 rfl (by decide) _ _ _ rfl HO1.out stw_len [d] (some ⟨w1.heap.size, 0, none⟩) 1 rfl (fun e => by cases e) HR1.out (stw_one _) (by unfold maxLen; simp; omega) (by simp; omega) (by simp; omega) ?_)
    | fail)
  intro v2 w2 ho2 hg2 _
  have HG2 : Hid (Gr w w2) := (HG1.out.alloc).grown hg2 (fun y hy => (HO1.out.lt y hy).1)
  have ho2' : w2.ownsRow w.heap.size 9 1 v2 (L ++ [d]).length ((L ++ [d]).flatMap stw) := by simpa using ho2
  obtain ⟨ab, cb, rfl, _, _, hrow, hbs, _⟩ := own_row ho2'
  have HRw := Lib.hid (stw_at hrow)
  have HBs := Lib.hid hbs
  have hll : (L ++ [d]).length = L.length + 1 := by simp
  rw [hll]
  clear ho2 ho2' hg2 hrow hbs HO1 HR1 hll
  go_wp2
  go_ret
  exact ⟨_, _, rfl, HRw.out, HBs.out, HG2.out⟩
end Go.Proofs.YtojmhhmpmpbpfaaDoor
namespace Go.Proofs.YtojmhhmpmpbpfaaDoor
open Go.ChangeShapes Go.WideShapes Go.ChangeAt Go.RowKit

set_option maxRecDepth 100000 in
theorem open_strs {H : Type} {enc : TypeId × Value → H} {W : World} {base : Nat} {v : Value} {d : DataW H} {ps : List MemPlace}
    (hok : Value.okWide Tryd.prog W .any base 32 v) (h : DataW.Trod enc Tryd.prog W 0 (fun _ => true) true 32 v d ps) :
    ∃ ad cap L, v = .slice ad (L : List ByteArray).length cap ∧ StrsAt W ad L ∧ L.length ≤ 9223372036854775807 ∧ (∀ s ∈ L, s.size ≤ 9223372036854775807) ∧ L.length ≤ cap := by
  obtain ⟨a0, len, cap, rfl⟩ := okWide_slice Tryd.underlying32 hok
  obtain ⟨fuel, hf⟩ := h
  rcases open_strings Tryd.underlying32 Tryd.underlying9 (by kernel_rfl) hf with ⟨hcs, _⟩ | ⟨a, l, c, ss, hcs, _, hl, hm, hz, _, hcell, hsz⟩
  · simp [Value.cells] at hcs
    obtain ⟨rfl, rfl, rfl⟩ := hcs
    exact ⟨none, 0, [], rfl, fun j hj => absurd hj (by simp), by simp, by simp, by simp⟩
  · simp [Value.cells] at hcs
    obtain ⟨rfl, rfl, rfl⟩ := hcs
    have hz' : ss.length = cap := by simpa using hz
    unfold maxLen at *
    refine ⟨some a, cap, ss.take len, by rw [List.length_take, Nat.min_eq_left (by omega)], ?_, by rw [List.length_take]; omega, fun s hs => hsz s (List.mem_of_mem_take hs), by rw [List.length_take]; omega⟩
    intro j hj
    rw [List.length_take] at hj
    have hc := hcell j (by omega)
    have h0 := hcell 0 (by omega)
    obtain ⟨b, off, spot⟩ := a
    have hspot : spot = none := by simpa [Addr.add] using World.cell?_spot h0
    subst hspot
    rw [add_plain] at hc
    refine ⟨b, off, rfl, World.block_lt_of_cell? W _ hc, ?_⟩
    rw [hc, List.getElem_take, List.getD_eq_getElem?_getD, List.getElem?_eq_getElem (by omega)]
    rfl
end Go.Proofs.YtojmhhmpmpbpfaaDoor
namespace Go.Proofs.YtojmhhmpmpbpfaaDoor
open Go.ChangeShapes Go.WideShapes Go.ChangeAt Go.RowKit

def bof (x : Bool) : List Value := [.bool x]
theorem bof_len (x : Bool) : (bof x).length = 1 := rfl
theorem trod_bo {H : Type} {enc : TypeId × Value → H} {W : World} {base : Nat} {sp : Nat → Bool} {held : Bool} (n : Nat) (cs : List Value) (y : DataW H × List MemPlace) (_ : cs.length = 1)
    (h : DataW.trod enc Tryd.prog W base sp held n 4 cs = some y) : ∃ z : Bool, cs = bof z ∧ True := by
  obtain ⟨z0, e0, _⟩ := DataW.trod_bool Tryd.underlying4 h
  exact ⟨z0, e0, trivial⟩
def BosAt (w : World) (ad : Option Addr) (L : List Bool) : Prop := RowAt bof w ad L
theorem BosAt.at_ {w : World} {ad : Option Addr} {L : List Bool} (h : BosAt w ad L) (j : Nat) (hj : j < L.length) : ∃ x off, ad = some ⟨x, off, none⟩ ∧ x < w.heap.size ∧ w.cell? ⟨x, off + j, none⟩ = some (.bool L[j]) := by
  obtain ⟨x, off, e, h1, h2⟩ := h _ _ (flat_get bof_len L j hj 0 (by omega))
  exact ⟨x, off, e, h1, by simpa using h2⟩
set_option maxRecDepth 100000 in
theorem open_bools {H : Type} {enc : TypeId × Value → H} {W : World} {base : Nat} {v : Value} {d : DataW H} {ps : List MemPlace}
    (hok : Value.okWide Tryd.prog W .any base 42 v) (h : DataW.Trod enc Tryd.prog W 0 (fun _ => true) true 42 v d ps) :
    ∃ ad cap, ∃ L : List Bool, v = .slice ad L.length cap ∧ BosAt W ad L ∧ L.length ≤ 9223372036854775807 := by
  obtain ⟨a0, len0, cap0, rfl⟩ := okWide_slice Tryd.underlying42 hok
  obtain ⟨fuel, hf⟩ := h
  simp only [Value.cells] at hf
  obtain ⟨L, rfl, h1, h2, _, _⟩ := open_rows bof_len (by decide) Tryd.underlying42 (by kernel_rfl) trod_bo hf
  exact ⟨a0, cap0, L, rfl, h1, h2⟩
end Go.Proofs.YtojmhhmpmpbpfaaDoor
