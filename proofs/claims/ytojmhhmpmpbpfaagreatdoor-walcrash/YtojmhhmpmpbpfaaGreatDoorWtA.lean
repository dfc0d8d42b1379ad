/- The statements' own: with (a list with a body more). -/
import Derived.Test.YtojmhhmpmpbpfaaGreatDoorGBA
namespace Go.Proofs.YtojmhhmpmpbpfaaGreatDoor
open Go.RowKit

def stw (x : ByteArray) : List Value := [.string x]
theorem stw_len (x : ByteArray) : (stw x).length = 1 := rfl
theorem stw_flat (L : List ByteArray) (j : Nat) : (L.flatMap stw)[j]? = (L[j]?).map Value.string := by
  induction L generalizing j with
  | nil => simp
  | cons x r ih =>
    cases j with
    | zero => simp [stw]
    | succ j => simpa [stw] using ih j
theorem stw_one (L : List ByteArray) : ∀ u ∈ L.flatMap stw, u.oneCell' = true := by
  intro u hu
  obtain ⟨x, _, hx⟩ := List.mem_flatMap.1 hu
  simp [stw] at hx
  subst hx
  rfl
theorem stw_row {w : World} {ad : Option Addr} {L : List ByteArray} (h : StrsAt w ad L) : RowAt stw w ad L := by
  intro j u hu
  rw [stw_flat] at hu
  have hj : j < L.length := by
    rcases Nat.lt_or_ge j L.length with h | h
    · exact h
    · rw [List.getElem?_eq_none h] at hu; cases hu
  rw [List.getElem?_eq_getElem hj] at hu
  cases hu
  obtain ⟨b, off, e, h1, h2⟩ := h j hj
  exact ⟨b, off, e, h1, h2⟩
theorem stw_at {w : World} {ad : Option Addr} {L : List ByteArray} (h : RowAt stw w ad L) : StrsAt w ad L := by
  intro j hj
  obtain ⟨b, off, e, h1, h2⟩ := h j (.string L[j]) (by rw [stw_flat, List.getElem?_eq_getElem hj]; rfl)
  exact ⟨b, off, e, h1, h2⟩
theorem infoW : (Tryz.prog.info? 9).map (fun i => (i.zero, i.size, i.bytes)) = some (some (.string ⟨#[]⟩), 1, 16) := by kernel_rfl
theorem own_lit0s (w : World) (base : Nat) (t : TypeId) (hb : base ≤ w.heap.size) : (w.alloc (.cells #[] t)).ownsRow base t 1 (.slice (some ⟨w.heap.size, 0, none⟩) 0 0) 0 [] := World.ownsRow_lit w #[] 0 hb (by unfold maxLen; omega) rfl
theorem strs_ne {w : World} {ad : Option Addr} {L : List ByteArray} (h : StrsAt w ad L) (hne : L ≠ []) : ad ≠ none := by
  obtain ⟨b, off, e, _⟩ := h 0 (by cases L with | nil => exact absurd rfl hne | cons _ _ => simp)
  rw [e]; simp
set_option maxHeartbeats 4000000 in
set_option maxRecDepth 100000 in
theorem with_any (L : List ByteArray) (ad : Option Addr) (cap : Nat) (d : ByteArray) (w : World) (hL : StrsAt w ad L) (hne : L ≠ []) (hn : L.length ≤ 1000000) :
    Calls Tryz.prog 19 #[.slice ad L.length cap, .string d] w fun e w' => ∃ ab cb, e = .returned (.slice ab (L.length + 1) cb) ∧ StrsAt w' ab (L ++ [d]) ∧ (∀ p, ab = some p → w.heap.size ≤ p.block) ∧ Gr w w' := by
  obtain ⟨i0, hi0, hz0, hz1, hz2⟩ := info_parts infoW
  have hnn := strs_ne hL hne
  have HR := Lib.hid (stw_row (hL.gr ((Gr.refl w).alloc (o := .cells #[] 9))))
  have HO := Lib.hid (own_lit0s w w.heap.size 9 (Nat.le_refl _))
  clear hL
  go_enter Tryz.func19, Tryz.ntmps19
  go_wp2_with (first
    | (at_builtin; refine wpList_append_row rfl _ _ 34 rfl w.heap.size 9 i0 (.string ⟨#[]⟩) 1 16 Tryz.underlying34 hi0 hz0 hz1 hz2 rfl (by decide) _ 0 [] rfl HO.out stw_len L ad cap rfl (fun e => absurd e hnn) HR.out (stw_one _) (by unfold maxLen; omega) (by omega) (by simp) ?_)
    | fail)
  intro v1 w1 ho1 hg1 _
  have HG1 : Hid (Gr w w1) := (Gr.refl w).alloc.grown hg1 (fun y hy => (HO.out.lt y hy).1)
  have ho1' : w1.ownsRow w.heap.size 9 1 v1 L.length (L.flatMap stw) := by simpa using ho1
  obtain ⟨va, vc, rfl⟩ := own_slice ho1'
  have HO1 := Lib.hid (row_gr ho1' ((Gr.refl w1).alloc (o := .cells #[.string d] 9)))
  have HR1 := Lib.hid (stw_row (own_lit1 w1 d))
  have hs1 := HG1.out.size
  clear ho1 ho1' hg1 HR HO
  go_wp2_with (first
    | (at_builtin; refine wpList_append_row rfl _ _ 34 rfl w.heap.size 9 i0 (.string ⟨#[]⟩) 1 16 Tryz.underlying34 hi0 hz0 hz1 hz2 rfl (by decide) _ _ _ rfl HO1.out stw_len [d] (some ⟨w1.heap.size, 0, none⟩) 1 rfl (fun e => by cases e) HR1.out (stw_one _) (by unfold maxLen; simp; omega) (by simp; omega) (by simp; omega) ?_)
    | fail)
  intro v2 w2 ho2 hg2 _
  have HG2 : Hid (Gr w w2) := (HG1.out.alloc).grown hg2 (fun y hy => (HO1.out.lt y hy).1)
  have ho2' : w2.ownsRow w.heap.size 9 1 v2 (L ++ [d]).length ((L ++ [d]).flatMap stw) := by simpa using ho2
  obtain ⟨ab, cb, rfl, _, _, hrow, hbs, _⟩ := own_row ho2'
  have HRw := Lib.hid (stw_at hrow)
  have HBs := Lib.hid hbs
  have hll : (L ++ [d]).length = L.length + 1 := by simp
  rw [hll]
  clear ho2 ho2' hg2 hrow hbs HO1 HR1 hll
  go_wp2
  go_ret
  exact ⟨_, _, rfl, HRw.out, HBs.out, HG2.out⟩
end Go.Proofs.YtojmhhmpmpbpfaaGreatDoor
