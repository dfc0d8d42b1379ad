
/- The document's wheel: Drop. -/
import Derived.Test.YtmgiiofjlgchfaaDoorWpA
namespace Go.Proofs.YtmgiiofjlgchfaaDoor
open Go.RowKit Go.Maps Go.Sort
open Wh (Tm Sl ks hasK atK del ins put dig whl Inv tlt Up trn upto past)

theorem del_take {L : List Tm} {k : ByteArray} {j : Nat} (h : j < L.length) : del (L.take (j + 1)) k = if L[j].1 = k then del (L.take j) k else del (L.take j) k ++ [L[j]] := by
  rw [List.take_succ_eq_append_getElem h]
  unfold del
  rw [List.filter_append]
  split
  · rename_i e; simp [e]
  · rename_i e; simp [e]
/- what a call of the document's wheel leaves behind -/
def RfR (w w' : World) (r t : Nat) (L : List Tm) (o : Option Addr) : Prop := ∃ ad cap, RfAt w' r t ad cap L ∧ w.grownBy w' (some r) ∧ ∀ a, ad = some a → (∃ a0, o = some a0 ∧ a0.block = a.block) ∨ w.heap.size ≤ a.block
theorem own_ad {w : World} {base : Nat} {e : TypeId} {size n : Nat} {ad : Option Addr} {m c : Nat} {xs : List Value} (h : w.ownsRow base e size (.slice ad m c) n xs) : ∀ a, ad = some a → base ≤ a.block ∧ a.block < w.heap.size := by
  intro a ea
  subst ea
  have h' := h
  obtain ⟨_, ⟨e1, _⟩ | ⟨g, cap, cur, e1, _⟩⟩ := h
  · cases e1
  · cases e1
    exact h'.lt g rfl
/- the row is laid into the wheel -/
theorem RfAt.laid {w wr : World} {r t : Nat} {ad : Option Addr} {cap : Nat} {L : List Tm} (h : RfAt w r t ad cap L) (g : Gr w wr) {L' : List Tm} {ad' : Option Addr} {cap' : Nat} (ho : wr.ownsRow w.heap.size 61 2 (.slice ad' L'.length cap') L'.length (L'.flatMap tmf)) :
    RfR w (wr.setCell ⟨r, 1, none⟩ (.slice ad' L'.length cap')) r t L' none := by
  obtain ⟨x, c, e, h2, h3, h4, h5⟩ := tm_row (own_low ho (Nat.zero_le _))
  cases e
  have hlt := h.lt
  refine ⟨ad', cap', (h.gr g).setLst h4 h2 h3 h5 (fun a ea => ?_), grown_set (g.grownR r) _ _, fun a ea => Or.inr (own_ad ho a ea).1⟩
  have := own_ad ho a ea
  exact ⟨by omega, this.2⟩
set_option maxHeartbeats 4000000 in
set_option maxRecDepth 100000 in
theorem rdrop_any {w : World} {r t : Nat} {ad : Option Addr} {cap : Nat} {L : List Tm} (h : RfAt w r t ad cap L) (hf : L.length ≤ 200) (k : ByteArray) :
    Calls Tryd.prog 15 #[ptr r, .string k] w fun e w' => e = .returned (.bool (hasK L k)) ∧ RfR w w' r t (del L k) none := by
  have HAt := Lib.hid (rat_any h k)
  have HH : Hid (RfAt w r t ad cap L) := h
  have hle := h.le
  have hcp := h.cp
  have HDe : Hid (del (L.take L.length) k = del L k) := by show _ = _; rw [List.take_length]
  generalize hasK L k = rh at *
  generalize (atK L k : Int) = ra at *
  obtain ⟨i0, hi0, hz0, hz1, hz2⟩ := info_parts infoTm
  clear h
  go_enter Tryd.func15, Tryd.ntmps15
  go_wp2_with fail
  refine HAt.out.mono ?_
  rintro e w' ⟨rfl, hw⟩
  obtain rfl := hw.symm
  clear hw HAt
  go_wp2
  go_loopw [7, 8] (fun v i wr => ∃ (j : Nat), j ≤ L.length ∧ i = .int .i64 (j : Int) ∧ wr.ownsRow w.heap.size 61 2 v (del (L.take j) k).length ((del (L.take j) k).flatMap tmf) ∧ Gr w wr) (fun _ i _ => L.length - (intOf i).toNat)
  case atStart => exact ⟨0, Nat.zero_le _, rfl, World.ownsRow_nil _ _ _ _, Gr.refl _⟩
  case round =>
    obtain ⟨j, hj, rfl, ho, hg⟩ := hrel
    have HO := Lib.hid ho
    have HG : Hid (Gr w wr) := hg
    have hc := (HH.out.gr hg).lst
    clear ho hg
    by_cases hlt : j < L.length
    · obtain ⟨b, off, rfl, hb, c0, c1⟩ := tm_at (HH.out.gr HG.out).row j hlt
      have HD := Lib.hid (del_take (k := k) hlt)
      have HLl : Hid ((del (L.take j) k).length ≤ 200) := by
        show _ ≤ _
        have h1 : (del (L.take j) k).length ≤ (L.take j).length := List.length_filter_le _ _
        rw [List.length_take] at h1; omega
      obtain ⟨x, y, exy⟩ : ∃ x y, L[j] = (x, y) := ⟨L[j].1, L[j].2, rfl⟩
      rw [exy] at c0 c1 HD
      simp only at c0 c1
      by_cases hx : x = k
      · have HF : Hid (del (L.take (j + 1)) k = del (L.take j) k) := by show _ = _; rw [HD.out, if_pos hx]
        have hq : (x.toList == k.toList) = true := by rw [eqB, decide_eq_true hx]
        clear HD hx exy
        go_wp2
        go_roundw
        case rel => exact ⟨j + 1, by omega, by simp, by rw [HF.out]; exact HO.out, HG.out⟩
        case measure => simp [intOf]; omega
      · have HF : Hid (del (L.take (j + 1)) k = del (L.take j) k ++ [(x, y)]) := by show _ = _; rw [HD.out, if_neg hx]
        have hq : (x.toList == k.toList) = false := by rw [eqB, decide_eq_false hx]
        clear HD hx exy
        have HO1 : Hid (World.ownsRow (wr.alloc (.cells #[.string x, .int .i64 (y : Int)] 61)) w.heap.size 61 2 u7 (del (L.take j) k).length ((del (L.take j) k).flatMap tmf)) := HO.out.alloc _
        generalize del (L.take j) k = acc at *
        go_wp2_with (first
          | (at_builtin; refine wpList_append_own_at _ rfl _ _ 36 rfl w.heap.size 61 i0 (.agg #[.string ⟨#[]⟩, .int .i64 0]) 2 24 Tryd.underlying36 hi0 hz0 hz1 hz2 rfl (by decide) _ _ _ rfl HO1.out ⟨wr.heap.size, 0, none⟩ 1 1 [.string x, .int .i64 (y : Int)] rfl rfl (cells_two rfl) (by intro u hu; simp at hu; rcases hu with rfl | rfl <;> rfl) (by have := HLl.out; unfold maxLen; omega) (by have := HLl.out; omega) (by have := HG.out.size; simp; omega) ?_; intro v' w4 hown hgrow hnil hloc
             have HG4 : Hid (Gr w w4) := (HG.out.alloc).grown hgrow (fun j hj => (HO1.out.lt j hj).1)
             have HO4 : Hid (w4.ownsRow w.heap.size 61 2 v' (acc ++ [(x, y)]).length ((acc ++ [(x, y)]).flatMap tmf)) := by
               show w4.ownsRow _ _ _ _ _ _
               rw [List.length_append, List.flatMap_append]
               exact hown
             clear hown hgrow hnil hloc)
          | fail)
        go_roundw
        case rel => exact ⟨j + 1, by omega, by simp, by rw [HF.out]; exact HO4.out, HG4.out⟩
        case measure => simp [intOf]; omega
    · obtain rfl : j = L.length := by omega
      rw [HDe.out] at HO
      have hz := (HH.out.gr HG.out).f1
      have hrl : r < wr.heap.size := (HH.out.gr HG.out).lt
      obtain ⟨ad', cap', rfl⟩ := own_slice HO.out
      have HF := Lib.hid (HH.out.laid HG.out HO.out)

      go_wp2
      go_ret
      exact ⟨rfl, HF.out⟩
end Go.Proofs.YtmgiiofjlgchfaaDoor
