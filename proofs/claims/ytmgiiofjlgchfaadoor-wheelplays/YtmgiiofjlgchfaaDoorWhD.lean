
/- wheel: Drop. -/
import Derived.Test.YtmgiiofjlgchfaaDoorWhR
import Derived.BigRegion
namespace Go.Proofs.YtmgiiofjlgchfaaDoor
open Go.RowKit Go.Maps Go.Sort
open Wh (Tm Sl ks hasK atK del ins put dig whl Inv)

theorem eqB (x k : ByteArray) : (x.toList == k.toList) = decide (x = k) := by
  rw [Bool.eq_iff_iff]
  simp
  exact ⟨fun h => Wh.toL_inj h, fun h => by rw [h]⟩
set_option maxHeartbeats 1000000 in
theorem is_any (x k : ByteArray) (B : Nat) (W : World) (hc : W.cell? ⟨B, 0, none⟩ = some (.string k)) :
    FnGives Tryd.prog 30 #[.pointer (some ⟨B, 0, none⟩)] #[.string x] (.bool (decide (x = k))) W := by
  show Calls Tryd.prog 30 #[.string x, .pointer (some ⟨B, 0, none⟩)] W _
  have he := eqB x k
  go_enter Tryd.func30, Tryd.ntmps30
  go_wp2
  go_ret
  exact ⟨by rw [← he]; rfl, 0, rfl⟩
theorem row_holds {w : World} {j : Nat} {l : List ByteArray} {cur : Array Value} {e : TypeId} (hb : w.heap[j]? = some (.cells cur e (0, 0))) (ht : cur.toList.take l.length = strs l) : Holds Value.string w j 0 l.toArray := by
  intro i hi
  have hi' : i < l.length := by simpa using hi
  refine ⟨?_, by simp [World.frozen?, hb]⟩
  have h1 : (cur.toList.take l.length)[i]? = (strs l)[i]? := by rw [ht]
  rw [List.getElem?_take_of_lt hi'] at h1
  simp only [World.cell?, hb, Nat.zero_add]
  simp only [Option.isSome_none, Bool.false_eq_true, if_false]
  rw [← Array.getElem?_toList, h1]
  simp [strs, hi']
theorem row_put {w : World} {j cap n : Nat} {l l2 : List ByteArray} {cur : Array Value} {e : TypeId} (hb : w.heap[j]? = some (.cells cur e (0, 0))) (h2 : cap ≤ maxLen) (h3 : cur.size = cap * 1) (hl : l.length + l2.length ≤ cap) :
    (putRow Value.string (Sort.ahead w n) j 0 (l ++ l2).toArray).ownsRow 0 e 1 (.slice (some ⟨j, 0, none⟩) l.length cap) l.length (strs l) := by
  have hh : (putRow Value.string (Sort.ahead w n) j 0 (l ++ l2).toArray).heap[j]? = some (.cells (putCells Value.string 0 (l ++ l2).toArray cur) e (0, 0)) := by
    simp [putRow, mapBlock, Sort.ahead, Array.getElem?_modify, hb, onCells]
  refine ⟨by simp [strs], .inr ⟨j, cap, _, rfl, Nat.zero_le _, hh, by omega, h2, by simp [putCells, h3], ?_⟩⟩
  rw [Nat.mul_one]
  apply List.ext_getElem?
  intro i
  by_cases hi : i < l.length
  · rw [List.getElem?_take_of_lt hi, Array.getElem?_toList]
    have h5 : i < cur.size := by omega
    have h6 : i < l.length + l2.length := by omega
    simp [putCells, strs, hi, h5, h6, List.getElem_append_left]
  · rw [List.getElem?_take_eq_none (by omega), List.getElem?_eq_none (by simp [strs]; omega)]
theorem row_put_grown {w : World} {j n : Nat} (d : Array ByteArray) : w.grownBy (putRow Value.string (Sort.ahead w n) j 0 d) (some j) := by
  refine ⟨rfl, rfl, rfl, by simp, fun k hk hne => ?_⟩
  have : j ≠ k := fun e => hne (by rw [e])
  simp [putRow, mapBlock, Sort.ahead, Array.getElem?_modify, this]
theorem own_slice {w : World} {base : Nat} {e : TypeId} {size n : Nat} {v : Value} {xs : List Value} (h : w.ownsRow base e size v n xs) : ∃ a c, v = .slice a n c := by
  obtain ⟨_, ⟨rfl, h0⟩ | ⟨g, cap, cur, rfl, _⟩⟩ := h
  · exact ⟨none, 0, by rw [h0]⟩
  · exact ⟨_, _, rfl⟩
def DelR (w w' : World) (v : Value) (l : List ByteArray) (e : Ending) : Prop := ∃ v', e = .returned v' ∧ w'.ownsRow 0 9 1 v' l.length (strs l) ∧ v'.ownBlock = v.ownBlock ∧ w.grownBy w' v.ownBlock
theorem deleteF_any {w : World} {v : Value} {l : List ByteArray} {k : ByteArray} {B : Nat} (ho : w.ownsRow 0 9 1 v l.length (strs l)) (hne : l ≠ []) (hB : w.cell? ⟨B, 0, none⟩ = some (.string k)) (hv : v.ownBlock ≠ some B) :
    Calls Tryd.prog 29 #[v, .func (.func 30) #[] #[.pointer (some ⟨B, 0, none⟩)]] w fun e w' => DelR w w' v (l.filter (fun x => !decide (x = k))) e := by
  have hlB : B < w.heap.size := World.block_lt_of_cell? w _ hB
  obtain ⟨h0, ⟨_, h1⟩ | ⟨j, cap, cur, rfl, _, h4, h5, h6, h7, h8⟩⟩ := ho
  · exact absurd (List.length_eq_zero_iff.1 h1) hne
  · have hj : B ≠ j := fun e => hv (by rw [e]; rfl)
    have eg : ∀ args w, (callFunc 30 args).run Tryd.prog w = .ok (.enter 30 args) w := enters_of Tryd.func30 (by kernel_rfl) rfl
    have hp : PredAt Tryd.prog 30 #[.pointer (some ⟨B, 0, none⟩)] Value.string (fun x => decide (x = k)) w := fun W x hb => is_any x k B W ((hb.cell (p := ⟨B, 0, none⟩) hlB).trans hB)
    have hpo : PredOver Tryd.prog 30 #[.pointer (some ⟨B, 0, none⟩)] Value.string (fun x => decide (x = k)) j 0 l.toArray.size w := fun n os dk x _ => is_any x k B _ (by
      unfold sortWorld
      rw [cell?_grow _ _ _ (by show B < (putRow _ _ _ _ _).heap.size; rw [size_putRow]; exact hlB), cell?_putRow_other _ _ j 0 _ _ (Or.inl hj)]
      exact hB)
    have hm : l.length ≤ 9223372036854775807 := by unfold maxLen at h6; omega
    have hc := Tryd.slices_DeleteFunc Value.string (fun _ => rfl) (fun x => decide (x = k)) 30 #[.pointer (some ⟨B, 0, none⟩)] eg ⟨#[]⟩ (fun w => by kernel_rfl) j 0 cap l.toArray w hp hpo (row_holds h4 (by simpa using h8)) (by simpa using hm) (by simpa using h5)
    rw [show l.toArray.size = l.length by simp, show l.toArray.toList = l by simp] at hc
    refine hc.mono ?_
    rintro e w' ⟨rfl, q, rfl⟩
    refine ⟨_, rfl, row_put h4 h6 h7 ?_, rfl, row_put_grown _⟩
    have := List.length_filter_le (fun x => !decide (x = k)) l
    simp; omega

set_option maxHeartbeats 2000000 in
set_option maxRecDepth 100000 in
theorem drop_no {b m t : Nat} {L : List Tm} {S : Sl} {V : Vl} {w : World} (h : WAt w b m t L S V) (hi : Inv t L S) (k : ByteArray) (hk : k.size ≤ 9223372036854775807) (hh : hasK L k = false) :
    Calls Tryd.prog 14 #[ptr b, .string k] w fun e w' => e = .returned (.bool false) ∧ Gr w w' := by
  have hA := fun T => at_any (h.gr (Gr.refl w).alloc (w' := w.alloc (.cells #[.string k] T))) hi.ok.nd k hk
  rw [hh] at hA
  clear h hi
  go_enter Tryd.func14, Tryd.ntmps14
  go_wp2_with (go_at_call 21; refine (hA _).mono ?_; rintro e w' ⟨rfl, rfl⟩)
  go_ret
  exact ⟨rfl, (Gr.refl _).alloc⟩
end Go.Proofs.YtmgiiofjlgchfaaDoor
