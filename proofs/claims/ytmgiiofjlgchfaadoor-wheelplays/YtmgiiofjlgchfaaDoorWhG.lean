
/- wheel: sortTimers. -/
import Derived.Test.YtmgiiofjlgchfaaDoorWhF
namespace Go.Proofs.YtmgiiofjlgchfaaDoor
open Go.RowKit Go.Maps Go.Sort
open Wh (Tm Sl ks hasK atK del ins put dig whl Inv tlt Up)

theorem cmpI_sign (x y : Nat) : (Lib.compareInt (x : Int) (y : Int) < 0 ↔ x < y) ∧ (Lib.compareInt (x : Int) (y : Int) = 0 ↔ x = y) := by
  unfold Lib.compareInt
  split
  · exact ⟨by omega, by omega⟩
  · split
    · exact ⟨by omega, by omega⟩
    · exact ⟨by omega, by omega⟩
theorem lt_cfT : ltOf cfT = tlt := by
  funext x y
  obtain ⟨h1, h2⟩ := cmpI_sign x.2 y.2
  unfold ltOf cfT orI tlt
  by_cases e : x.2 = y.2
  · rw [if_pos (h2.2 e)]
    have := Wh.cmp_neg x.1 y.1
    rw [Bool.eq_iff_iff]
    simp only [decide_eq_true_eq, Bool.or_eq_true, Bool.and_eq_true, this]
    constructor
    · intro h; exact Or.inr ⟨e, h⟩
    · rintro (h | ⟨_, h⟩)
      · omega
      · exact h
  · rw [if_neg (fun h => e (h2.1 h))]
    rw [Bool.eq_iff_iff]
    simp only [decide_eq_true_eq, Bool.or_eq_true, Bool.and_eq_true, h1]
    constructor
    · intro h; exact Or.inl h
    · rintro (h | ⟨h, _⟩)
      · exact h
      · exact absurd h e
theorem merge_eq {l L : List Tm} (hp : l.Perm L) (hu : Up L) : l.mergeSort (fun x y => !tlt y x) = L := by
  refine List.Perm.eq_of_pairwise (le := fun a b => (!tlt b a) = true) (fun a b _ _ h1 h2 => ?_) (List.pairwise_mergeSort (fun a b c h1 h2 => ?_) (fun a b => ?_) l) (hu.imp fun {a b} h => ?_) ((List.mergeSort_perm l _).trans hp)
  · exact Wh.tlt_tri (by simpa using h2) (by simpa using h1)
  · rw [Bool.not_eq_true'] at h1 h2 ⊢
    cases hc : tlt c a with
    | false => rfl
    | true =>
      cases hb : tlt b a with
      | true => rw [hb] at h1; cases h1
      | false =>
        cases hab : tlt a b with
        | true => rw [Wh.tlt_trans hc hab] at h2; cases h2
        | false => rw [Wh.tlt_tri hab hb] at hc; rw [hc] at h2; cases h2
  · cases hb : tlt b a with
    | false => rfl
    | true => rw [Wh.tlt_asymm hb]; rfl
  · rw [Wh.tlt_asymm h]; rfl
theorem tlt_ntrans (x y z : Tm) (h1 : tlt x y = false) (h2 : tlt y z = false) : tlt x z = false := by
  cases hc : tlt x z with
  | false => rfl
  | true =>
    cases hyx : tlt y x with
    | false => rw [Wh.tlt_tri h1 hyx] at hc; rw [hc] at h2; cases h2
    | true => rw [Wh.tlt_trans hyx hc] at h2; cases h2
theorem swoT : SWO (ltOf cfT) := by
  rw [lt_cfT]
  exact ⟨Wh.tlt_irrefl, fun x y z => Wh.tlt_trans, tlt_ntrans⟩
theorem totT : ∀ x y, ltOf cfT x y = false → ltOf cfT y x = false → x = y := by
  rw [lt_cfT]
  exact fun x y => Wh.tlt_tri

theorem flatT_eq (l : List Tm) : flatK tmf 2 l.toArray = (l.flatMap tmf).toArray := by
  apply Array.ext
  · rw [size_flatK]; simp [flat_len tmf_len]
  · intro i h1 h2
    rw [size_flatK] at h1
    have h1' : i < l.length * 2 := by simpa using h1
    have h3 := get_flatK tmf 2 l.toArray i h1
    rw [getElem!_pos _ _ (by rw [size_flatK]; exact h1)] at h3
    rw [h3]
    have hj : i / 2 < l.length := by omega
    have h4 := flat_get tmf_len l (i / 2) hj (i % 2) (by omega)
    rw [show i / 2 * 2 + i % 2 = i by omega] at h4
    rw [getElem!_pos l.toArray _ (by simpa using hj), getElem!_pos (tmf _) _ (by rw [tmf_len]; omega)]
    rw [List.getElem?_eq_getElem (show i % 2 < (tmf l[i / 2]).length by rw [tmf_len]; omega)] at h4
    obtain ⟨h6, h7⟩ := List.getElem?_eq_some_iff.1 h4
    simp only [List.getElem_toArray]
    exact h7.symm
theorem flat_holds {w : World} {j : Nat} {xs : List Value} {cur : Array Value} {e : TypeId} (hb : w.heap[j]? = some (.cells cur e (0, 0))) (ht : cur.toList.take xs.length = xs) : Holds id w j 0 xs.toArray := by
  intro i hi
  have hi' : i < xs.length := by simpa using hi
  refine ⟨?_, by simp [World.frozen?, hb]⟩
  have h1 : (cur.toList.take xs.length)[i]? = xs[i]? := by rw [ht]
  rw [List.getElem?_take_of_lt hi'] at h1
  simp only [World.cell?, hb, Nat.zero_add]
  simp only [Option.isSome_none, Bool.false_eq_true, if_false]
  rw [← Array.getElem?_toList, h1]
  simp [hi']
theorem flat_put {w : World} {base j cap n c size : Nat} {xs : List Value} {cur : Array Value} {e : TypeId} {os : Array Obj} (hbase : base ≤ j) (hb : w.heap[j]? = some (.cells cur e (0, 0))) (h1 : c ≤ cap) (h2 : cap ≤ maxLen) (h3 : cur.size = cap * size) (hl : xs.length = c * size) :
    (grow (putRow id (Sort.ahead w n) j 0 xs.toArray) os).ownsRow base e size (.slice (some ⟨j, 0, none⟩) c cap) c xs := by
  have hj : j < w.heap.size := (Array.getElem?_eq_some_iff.1 hb).1
  have hh : (grow (putRow id (Sort.ahead w n) j 0 xs.toArray) os).heap[j]? = some (.cells (putCells id 0 xs.toArray cur) e (0, 0)) := by
    rw [heap_grow_old _ _ (by simpa using hj)]
    simp [putRow, mapBlock, Sort.ahead, Array.getElem?_modify, hb, onCells]
  have hcs : c * size ≤ cap * size := Nat.mul_le_mul_right _ h1
  refine ⟨hl, .inr ⟨j, cap, _, rfl, hbase, hh, h1, h2, by simp [putCells, h3], ?_⟩⟩
  rw [← hl]
  apply List.ext_getElem?
  intro i
  by_cases hi : i < xs.length
  · rw [List.getElem?_take_of_lt hi, Array.getElem?_toList]
    have h5 : i < cur.size := by omega
    simp [putCells, hi, h5]
  · rw [List.getElem?_take_eq_none (by omega), List.getElem?_eq_none (by omega)]
theorem flat_grown {w : World} {j n : Nat} {os : Array Obj} (d : Array Value) : w.grownBy (grow (putRow id (Sort.ahead w n) j 0 d) os) (some j) := by
  refine ⟨rfl, rfl, rfl, by simp, fun k hk hne => ?_⟩
  rw [heap_grow_old _ _ (by simpa using hk)]
  have : j ≠ k := fun e => hne (by rw [e])
  simp [putRow, mapBlock, Sort.ahead, Array.getElem?_modify, this]
def SoR (w w' : World) (base : Nat) (v : Value) (L : List Tm) (e : Ending) : Prop := e = .returned (.tuple #[]) ∧ w'.ownsRow base 61 2 v L.length (L.flatMap tmf) ∧ w.grownBy w' v.ownBlock
theorem sortF_any {w : World} {base : Nat} {v : Value} {l L : List Tm} (ho : w.ownsRow base 61 2 v l.length (l.flatMap tmf)) (hp : l.Perm L) (hu : Up L) (hsz : l.length ≤ 1000000) :
    Calls Tryd.prog 39 #[v, .func (.func 40) #[] #[]] w fun e w' => SoR w w' base v L e := by
  by_cases hn : l = []
  · subst hn
    have hL : L = [] := hp.nil_eq.symm
    subst hL
    have hv : ∃ a c, v = .slice a 0 c := own_slice ho
    obtain ⟨a, c, rfl⟩ := hv
    refine (AnyF.slices_SortFunc_none Tryd.laysSort a c _ w).mono ?_
    rintro e w' ⟨rfl, rfl⟩
    exact ⟨rfl, ho, ⟨rfl, rfl, rfl, Nat.le_refl _, fun _ _ _ => rfl⟩⟩
  · obtain ⟨h0, ⟨_, h1⟩ | ⟨j, cap, cur, rfl, hbase, h4, h5, h6, h7, h8⟩⟩ := ho
    · exact absurd (List.length_eq_zero_iff.1 h1) hn
    · have eg : ∀ args w, (callFunc 40 args).run Tryd.prog w = .ok (.enter 40 args) w := enters_of Tryd.func40 (by kernel_rfl) rfl
      have hH : HoldsK tmf 2 w j 0 l.toArray := by
        unfold HoldsK
        rw [flatT_eq]
        exact flat_holds h4 (by rw [h0]; exact h8)
      have hcmp : CmpLays Tryd.prog 40 #[] tmf 2 cfT j 0 l.toArray.size w := fun _ _ _ _ x y => cmpT_any x y _
      have hc := AnyQ.slices_SortFunc_total Tryd.laysSort 2 Tryd.isAgg61 Tryd.sizeOf61 tmf tmf_len tmf_one cfT swoT 40 #[] j 0 cap l.toArray w eg hcmp hH (Array.getElem?_eq_some_iff.1 h4).1 (by rw [show l.toArray.size = l.length by simp]; omega) totT
      change Calls Tryd.prog 39 _ _ _ at hc
      rw [lt_cfT] at hc
      rw [show l.toArray.toList = l by simp, merge_eq hp hu, show l.toArray.size = l.length by simp] at hc
      refine hc.mono ?_
      rintro e w' ⟨rfl, n, os, rfl⟩
      unfold sortWorldK putRowK
      rw [flatT_eq]
      rw [hp.length_eq]
      exact ⟨rfl, flat_put hbase h4 (by rw [← hp.length_eq]; exact h5) h6 h7 (flat_len tmf_len L), flat_grown _⟩
set_option maxHeartbeats 1000000 in
theorem sortT_any {w : World} {base : Nat} {v : Value} {l L : List Tm} (ho : w.ownsRow base 61 2 v l.length (l.flatMap tmf)) (hp : l.Perm L) (hu : Up L) (hsz : l.length ≤ 1000000) :
    Calls Tryd.prog 33 #[v] w fun e w' => SoR w w' base v L e := by
  have hc := sortF_any ho hp hu hsz
  clear ho hp hu
  go_enter Tryd.func33, Tryd.ntmps33
  go_wp2_with (go_at_call 39; refine hc.mono ?_; rintro e w' ⟨rfl, h1, h2⟩)
  go_end0
  exact ⟨rfl, h1, h2⟩
end Go.Proofs.YtmgiiofjlgchfaaDoor
