
/- wheel: All. -/
import Derived.Test.YtmgiiofjlgchfaaDoorWhG
import Derived.Maps.RangeWalk
import Derived.Sort.OwnSorted
namespace Go.Proofs.YtmgiiofjlgchfaaDoor
open Go.RowKit Go.Maps Go.Sort
open Wh (Tm Sl ks hasK atK del ins put dig whl Inv tlt Up)

theorem infoTm : (Tryd.prog.info? 61).map (fun i => (i.zero, i.size, i.bytes)) = some (some (.agg #[.string ⟨#[]⟩, .int .i64 0]), 2, 24) := by kernel_rfl
/- what was gathered so far -/
structure Coll (L : List Tm) (left : Lit → Bool) (acc : List Tm) : Prop where
  nd : (ks acc).Nodup
  mem : ∀ y, y ∈ acc ↔ y ∈ L ∧ left (kL y.1) = false
theorem Coll.start {D : DataW Unit} {L : List Tm} (r : Rep D L) : Coll L (Maps.has D) [] :=
  ⟨List.nodup_nil, fun y => ⟨fun h => by simp at h, fun ⟨h1, h2⟩ => by rw [r.has, Wh.hasK_of h1] at h2; cases h2⟩⟩
theorem sameKey_self (k : ByteArray) : (kL k).sameKey (kL k) = true := by simp [kL, Lit.sameKey]
theorem Coll.step {L : List Tm} {left : Lit → Bool} {acc : List Tm} (h : Coll L left acc) (hn : (ks L).Nodup) {k : ByteArray} {a : Nat} (hk : (k, a) ∈ L) (hl : left (kL k) = true) :
    Coll L (fun z => left z && !z.sameKey (kL k)) (acc ++ [(k, a)]) := by
  have hna : ∀ y ∈ acc, y.1 ≠ k := fun y hy e => by
    have := ((h.mem y).1 hy).2
    rw [e, hl] at this; cases this
  refine ⟨?_, fun y => ?_⟩
  · unfold ks
    rw [List.map_append, List.nodup_append]
    refine ⟨h.nd, by simp, ?_⟩
    intro x hx z hz
    obtain ⟨y, hy, rfl⟩ := List.mem_map.1 hx
    simp at hz
    subst hz
    exact hna y hy
  · rw [List.mem_append, h.mem]
    constructor
    · rintro (⟨h1, h2⟩ | h1)
      · exact ⟨h1, by rw [h2]; rfl⟩
      · simp at h1
        subst h1
        exact ⟨hk, by rw [sameKey_self, hl]; rfl⟩
    · rintro ⟨h1, h2⟩
      by_cases e : y.1 = k
      · exact Or.inr (by simp; exact Wh.key_one hn h1 hk e)
      · refine Or.inl ⟨h1, ?_⟩
        rw [sameKey_ne (fun e2 => e (kL_inj e2))] at h2
        simpa using h2
theorem nd_of_ks {L : List Tm} (h : (ks L).Nodup) : L.Nodup := by
  unfold ks at h
  exact (List.pairwise_map.1 h).imp (fun hne e => hne (by rw [e]))
theorem Coll.done {L : List Tm} {left : Lit → Bool} {acc : List Tm} (h : Coll L left acc) (hn : (ks L).Nodup) (hl : ∀ z, left z = false) : acc.Perm L := by
  refine (List.perm_ext_iff_of_nodup (nd_of_ks h.nd) (nd_of_ks hn)).2 fun y => ?_
  rw [h.mem]
  exact ⟨fun h => h.1, fun h1 => ⟨h1, hl _⟩⟩
theorem Coll.few {L : List Tm} {left : Lit → Bool} {acc : List Tm} (h : Coll L left acc) : acc.length ≤ L.length := (nd_of_ks h.nd).length_le_of_subset (fun y hy => ((h.mem y).1 hy).1)
theorem cells_two {w : World} {v u : Value} {T : TypeId} {g : Nat} (hg : g = w.heap.size) : ∀ j x, [v, u][j]? = some x → (w.alloc (.cells #[v, u] T)).cell? ((⟨g, 0, none⟩ : Addr).add j) = some x := by
  subst hg
  intro j x hx
  match j, hx with
  | 0, hx => cases hx; simp [Addr.add]
  | 1, hx => cases hx; simp [Addr.add]
def AllR (w w' : World) (L : List Tm) (e : Ending) : Prop := ∃ v, e = .returned v ∧ w'.ownsRow w.heap.size 61 2 v L.length (L.flatMap tmf) ∧ Gr w w'
set_option maxHeartbeats 4000000 in
set_option maxRecDepth 100000 in
theorem all_any {b m t : Nat} {L : List Tm} {S : Sl} {V : Vl} {w : World} (h : WAt w b m t L S V) (hi : Inv t L S) :
    Calls Tryd.prog 24 #[ptr b] w fun e w' => AllR w w' L e := by
  have hN := isNone_any h
  have hmp := h.mp
  obtain ⟨D, hown, hrep⟩ := h.due
  have hml : m < w.heap.size := h.due.lt
  have HU : Hid (Up L ∧ (ks L).Nodup ∧ L.length ≤ 200) := ⟨hi.ok.up, hi.ok.nd, hi.ok.few⟩
  have HSz : Hid (∀ x ∈ L, x.1.size ≤ 100) := fun x hx => (hi.ok.size x hx).2
  have HRep : Hid (Rep D L) := hrep
  obtain ⟨i0, hi0, hz0, hz1, hz2⟩ := info_parts infoTm
  clear h hi hrep
  go_enter Tryd.func24, Tryd.ntmps24
  go_wp2_with (first
    | (go_at_call 26; refine hN.mono ?_; rintro e w' ⟨rfl, hw⟩; obtain rfl := hw.symm; clear hw)
    | (at_range; refine wpList_range_own _ rfl _ 51 rfl 9 3 strLaw Tryd.underlying51 _ m L.length _ rfl hown ?_; intro w0 hrg0 hg0 hs0)
    | go_in)
  go_frame
  clear hs0 hmp hN
  go_loopw [3, 4, 5] (fun v3 _ _ wr => ∃ (left : Lit → Bool) (cnt : Nat) (acc : List Tm), wr.ranges Tryd.prog 9 (plainElem (H := Unit) Tryd.prog 3) m w.heap.size L.length D left cnt ∧ Coll L left acc ∧ wr.ownsRow w.heap.size 61 2 v3 acc.length (acc.flatMap tmf) ∧ Gr w wr)
    (fun _ _ _ wr => wr.rangeLeft m w.heap.size)
  case atStart => exact ⟨_, _, [], hrg0, Coll.start HRep.out, World.ownsRow_nil _ _ _ _, ⟨(Below.refl _ _).grown hg0 (Nat.le_refl _) (fun j hj => by cases hj)⟩⟩
  case round =>
    obtain ⟨left, cnt, acc, hrg, hc, ho, hg⟩ := hrel
    have HC : Hid (Coll L left acc) := hc
    have HO : Hid (wr.ownsRow w.heap.size 61 2 u3 acc.length (acc.flatMap tmf)) := ho
    have HG : Hid (Gr w wr) := hg
    have HR : Hid (wr.ranges Tryd.prog 9 (plainElem (H := Unit) Tryd.prog 3) m w.heap.size L.length D left cnt) := hrg
    clear hc ho hg hg0 hrg0 hown
    go_wp2_with (first
      | (at_next; refine wpList_next_ranges _ rfl _ rfl 9 strLaw (plainElem (H := Unit) Tryd.prog 3) encStr (Value.int .i64) (fun key kl hk => by obtain ⟨x, hx, _⟩ := Maps.keyOf_str Tryd.underlying9 hk; exact ⟨x, hx⟩) (fun v y hv => by obtain ⟨c, rfl, _⟩ := plainElem_int_inv Tryd.underlying3 hv; exact ⟨c, rfl⟩) m w.heap.size L.length _ _ _ rfl hrg ?_ ?_)
      | go_in)
    · intro hc0 hl0
      have hsr := sortT_any HO.out (HC.out.done HU.out.2.1 hl0) HU.out.1 (by have := HC.out.few; have := HU.out.2.2; omega)
      clear hc0 hl0 hrg
      go_wp2_with (go_at_call 33; refine hsr.mono ?_; rintro e w9 ⟨rfl, h1, h2⟩)
      have HF : Hid (AllR w w9 L (.returned u3)) := ⟨u3, rfl, h1, HG.out.grown h2 (fun j hj => (HO.out.lt j hj).1)⟩
      clear h1 h2 hsr
      go_wp2
      go_ret
      exact HF.out
    · intro x c kl yd yp w2 cnt2 hkey hlk hv hat hrg2 hlt hg2 hs2 hen
      obtain ⟨x', ex, rfl, _⟩ := Maps.keyOf_str Tryd.underlying9 hkey
      obtain rfl : x = x' := encStr_inj ex
      obtain ⟨c', ec, hy, _⟩ := plainElem_int_inv Tryd.underlying3 hv
      cases ec
      cases hy
      obtain ⟨k, rfl⟩ : ∃ k : ByteArray, x = k.data.toList := ⟨⟨x.toArray⟩, by simp⟩
      have ek : encStr k.data.toList = .string k := by simp [encStr]
      have hh : hasK L k = true := by rw [← HRep.out.has]; exact has_true_of_atKey hat
      obtain ⟨a, ha⟩ := Wh.hasK_mem hh
      obtain rfl : c = (a : Int) := by
        have h1 := HRep.out.at_ _ ha (.lit (.int .i64 0))
        have h2 := hat (.lit (.int .i64 0))
        have h3 := h1.symm.trans h2
        injection h3 with h3
        injection h3 with _ h3
        exact h3.symm
      have hks := HSz.out _ ha
      simp only at hks
      have HC2 : Hid (Coll L (fun z => left z && !z.sameKey (kL k)) (acc ++ [(k, a)])) := HC.out.step HU.out.2.1 ha hlk
      have HG2 : Hid (Gr w w2) := HG.out.grown hg2 (fun j hj => by cases hj; exact Nat.le_refl _)
      have HR2 : Hid (w2.ranges Tryd.prog 9 (plainElem (H := Unit) Tryd.prog 3) m w.heap.size L.length D (fun z => left z && !z.sameKey (kL k)) cnt2) := hrg2
      have HO2 : Hid (w2.ownsRow w.heap.size 61 2 u3 acc.length (acc.flatMap tmf)) := HO.out.kept hg2 (Or.inr (fun e => row_ne_iter HO.out HR.out e.symm))
      have HLT : Hid (cnt2 < cnt) := hlt
      have hfew := HC.out.few
      have hfew2 := HU.out.2.2
      rw [ek] at hen ⊢
      clear hkey hlk hv hat hrg2 hlt hg2 hs2 hrg ex hh ha HO HC ek
      go_wp2_with fail
      refine (clone_any k w2 (by omega)).mono ?_
      rintro e w3 ⟨rfl, hg3⟩
      have HG3 : Hid (Gr w w3) := HG2.out.trans hg3
      have HR3 : Hid (World.ranges (w3.alloc (.cells #[.string k, .int .i64 (a : Int)] 61)) Tryd.prog 9 (plainElem (H := Unit) Tryd.prog 3) m w.heap.size L.length D (fun z => left z && !z.sameKey (kL k)) cnt2) := (HR2.out.kept hg3.grownBy (by simp) (by simp)).alloc _
      have HO3 : Hid (World.ownsRow (w3.alloc (.cells #[.string k, .int .i64 (a : Int)] 61)) w.heap.size 61 2 u3 acc.length (acc.flatMap tmf)) := (HO2.out.kept hg3.grownBy (by cases h : u3.ownBlock with | none => exact Or.inl rfl | some q => exact Or.inr (by simp))).alloc _
      clear hg3 hen HO2 HR2
      go_wp2_with (first
        | (at_builtin; refine wpList_append_own_at _ rfl _ _ 36 rfl w.heap.size 61 i0 (.agg #[.string ⟨#[]⟩, .int .i64 0]) 2 24 Tryd.underlying36 hi0 hz0 hz1 hz2 rfl (by decide) _ _ _ rfl HO3.out ⟨w3.heap.size, 0, none⟩ 1 1 [.string k, .int .i64 (a : Int)] rfl rfl (cells_two rfl) (by intro u hu; simp at hu; rcases hu with rfl | rfl <;> rfl) (by unfold maxLen; omega) (by omega) (by have := HG3.out.size; simp; omega) ?_; intro v' w4 hown hgrow hnil hloc
           have HR4 : Hid (w4.ranges Tryd.prog 9 (plainElem (H := Unit) Tryd.prog 3) m w.heap.size L.length D (fun z => left z && !z.sameKey (kL k)) cnt2) := HR3.out.kept hgrow (fun e => by have := (HO3.out.lt m e.symm).1; omega) (row_ne_iter HO3.out HR3.out)
           have HG4 : Hid (Gr w w4) := (HG3.out.alloc).grown hgrow (fun j hj => (HO3.out.lt j hj).1)
           have HO4 : Hid (w4.ownsRow w.heap.size 61 2 v' (acc ++ [(k, a)]).length ((acc ++ [(k, a)]).flatMap tmf)) := by
             show w4.ownsRow _ _ _ _ _ _
             rw [List.flatMap_append, List.length_append]
             exact hown
           clear hown hgrow hnil hloc HO3 HR3)
        | go_in)
      go_roundw
      case rel => exact ⟨_, _, _, HR4.out, HC2.out, HO4.out, HG4.out⟩
      case measure => rw [HR4.out.left_eq, HR.out.left_eq]; exact HLT.out
end Go.Proofs.YtmgiiofjlgchfaaDoor
