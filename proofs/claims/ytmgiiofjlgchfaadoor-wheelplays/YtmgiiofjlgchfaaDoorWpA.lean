
/- The document's wheel in memory: one list in order. -/
import Derived.Test.YtmgiiofjlgchfaaDoorWhZ
import Derived.Test.YtmgiiofjlgchfaaDoorWDuM
namespace Go.Proofs.YtmgiiofjlgchfaaDoor
open Go.RowKit Go.Maps Go.Sort
open Wh (Tm Sl ks hasK atK del ins put dig whl Inv tlt Up trn upto past)

structure RfAt (w : World) (r t : Nat) (ad : Option Addr) (cap : Nat) (L : List Tm) : Prop where
  now : w.cell? ⟨r, 0, none⟩ = some (.int .i64 (t : Int))
  lst : w.cell? ⟨r, 1, none⟩ = some (.slice ad L.length cap)
  f0 : w.frozen? ⟨r, 0, none⟩ = false
  f1 : w.frozen? ⟨r, 1, none⟩ = false
  row : RowAt tmf w ad L
  le : L.length ≤ cap
  cp : cap ≤ 9223372036854775807
  nil : ad = none → cap = 0
  off : ∀ a, ad = some a → a.block ≠ r ∧ a.block < w.heap.size
theorem RfAt.lt {w : World} {r t : Nat} {ad : Option Addr} {cap : Nat} {L : List Tm} (h : RfAt w r t ad cap L) : r < w.heap.size := World.block_lt_of_cell? w _ h.now
theorem RfAt.keep {w w' : World} {r t : Nat} {ad : Option Addr} {cap : Nat} {L : List Tm} (h : RfAt w r t ad cap L) (hs : w.heap.size ≤ w'.heap.size) (hr : w'.heap[r]? = w.heap[r]?) (ha : ∀ a, ad = some a → w'.heap[a.block]? = w.heap[a.block]?) : RfAt w' r t ad cap L := by
  refine ⟨?_, ?_, ?_, ?_, ?_, h.le, h.cp, h.nil, fun a e => ⟨(h.off a e).1, Nat.lt_of_lt_of_le (h.off a e).2 hs⟩⟩
  · rw [World.cell?_of_block hr]; exact h.now
  · rw [World.cell?_of_block hr]; exact h.lst
  · rw [World.frozen?_of_block hr]; exact h.f0
  · rw [World.frozen?_of_block hr]; exact h.f1
  · intro j u hu
    obtain ⟨b, off, e, hb, hc⟩ := h.row j u hu
    exact ⟨b, off, e, Nat.lt_of_lt_of_le hb hs, (World.cell?_of_block (a := ⟨b, off + j, none⟩) (ha ⟨b, off, none⟩ e)).trans hc⟩
theorem RfAt.gr {w w' : World} {r t : Nat} {ad : Option Addr} {cap : Nat} {L : List Tm} (h : RfAt w r t ad cap L) (g : Gr w w') : RfAt w' r t ad cap L :=
  h.keep g.size (g.below.block _ h.lt) (fun a e => g.below.block _ (h.off a e).2)
theorem RfAt.tn {w w' : World} {r t : Nat} {ad : Option Addr} {cap : Nat} {L : List Tm} (h : RfAt w r t ad cap L) {b m : Nat} {V V' : Vl} (k : Tn w w' b m V V') (hr : ¬ own b m V r) (ha : ∀ a, ad = some a → ¬ own b m V a.block) : RfAt w' r t ad cap L :=
  h.keep k.size (k.block _ h.lt hr) (fun a e => k.block _ (h.off a e).2 (ha a e))
theorem RfAt.setNow {w : World} {r t : Nat} {ad : Option Addr} {cap : Nat} {L : List Tm} (h : RfAt w r t ad cap L) (x : Nat) : RfAt (w.setCell ⟨r, 0, none⟩ (.int .i64 (x : Int))) r x ad cap L := by
  have h0 := h.now; have h1 := h.lst; have h2 := h.f0; have h3 := h.f1
  refine ⟨by simp [go_sem, *], by simp [go_sem, *], by simp [go_sem, *], by simp [go_sem, *], ?_, h.le, h.cp, h.nil, fun a e => ⟨(h.off a e).1, by simpa using (h.off a e).2⟩⟩
  intro j u hu
  obtain ⟨b, off, e, hb, hc⟩ := h.row j u hu
  have hne : b ≠ r := (h.off _ e).1
  exact ⟨b, off, e, by simpa using hb, (World.cell?_of_block (a := ⟨b, off + j, none⟩) (heap_set_ne _ ⟨r, _, none⟩ _ _ hne)).trans hc⟩
theorem RfAt.setLst {w : World} {r t : Nat} {ad : Option Addr} {cap : Nat} {L : List Tm} (h : RfAt w r t ad cap L) {ad' : Option Addr} {cap' : Nat} {L' : List Tm} (hr : RowAt tmf w ad' L') (hle : L'.length ≤ cap') (hcp : cap' ≤ 9223372036854775807) (hn : ad' = none → cap' = 0) (ho : ∀ a, ad' = some a → a.block ≠ r ∧ a.block < w.heap.size) :
    RfAt (w.setCell ⟨r, 1, none⟩ (.slice ad' L'.length cap')) r t ad' cap' L' := by
  have h0 := h.now; have h1 := h.lst; have h2 := h.f0; have h3 := h.f1
  refine ⟨by simp [go_sem, *], by simp [go_sem, *], by simp [go_sem, *], by simp [go_sem, *], ?_, hle, hcp, hn, fun a e => ⟨(ho a e).1, by simpa using (ho a e).2⟩⟩
  intro j u hu
  obtain ⟨b, off, e, hb, hc⟩ := hr j u hu
  have hne : b ≠ r := (ho _ e).1
  exact ⟨b, off, e, by simpa using hb, (World.cell?_of_block (a := ⟨b, off + j, none⟩) (heap_set_ne _ ⟨r, _, none⟩ _ _ hne)).trans hc⟩
theorem grown_set {a w : World} {r : Nat} (h : a.grownBy w (some r)) (i : Nat) (u : Value) : a.grownBy (w.setCell ⟨r, i, none⟩ u) (some r) :=
  ⟨h.os, h.tape, h.output, by simpa using h.size, fun k hk hne => by rw [heap_set_ne _ _ _ _ (fun e => hne (by rw [e]))]; exact h.block k hk hne⟩
theorem Gr.grownR {a w : World} (g : Gr a w) (r : Nat) : a.grownBy w (some r) := ⟨g.below.os, g.below.tape, g.below.output, g.size, fun k hk _ => g.below.block k hk⟩
/- New -/
set_option maxHeartbeats 1000000 in
theorem rnew_no (n : Int) (w : World) (h : n < 0 ∨ 1000000000 < n) : Calls Tryd.prog 10 #[.int .i64 n] w fun e w' => e = .returned (.tuple #[.pointer none, .int .i64 2]) ∧ w' = w := by
  by_cases h0 : n < 0
  · go_enter Tryd.func10, Tryd.ntmps10
    go_wp2
    go_ret2
    exact ⟨rfl, rfl⟩
  · have h1 : 1000000000 < n := by omega
    go_enter Tryd.func10, Tryd.ntmps10
    go_wp2
    go_ret2
    exact ⟨rfl, rfl⟩
set_option maxHeartbeats 1000000 in
theorem rnew_yes {t : Nat} (w : World) (h : t ≤ 1000000000) : Calls Tryd.prog 10 #[.int .i64 (t : Int)] w fun e w' => e = .returned (.tuple #[ptr w.heap.size, .int .i64 0]) ∧ RfAt w' w.heap.size t none 0 [] ∧ Gr w w' := by
  have h0 : ¬ (t : Int) < 0 := by omega
  have h1 : ¬ 1000000000 < (t : Int) := by omega
  go_enter Tryd.func10, Tryd.ntmps10
  go_wp2
  go_ret2
  exact ⟨rfl, ⟨by simp, by simp, by simp [go_sem], by simp [go_sem], RowAt.nil, Nat.le_refl _, by omega, fun _ => rfl, fun a e => by cases e⟩, (Gr.refl _).alloc⟩
/- At -/
theorem atK_first {L : List Tm} {k : ByteArray} {i : Nat} (hi : i < L.length) (h : hasK (L.take i) k = false) (e : L[i].1 = k) : atK L k = L[i].2 ∧ hasK L k = true := by
  constructor
  · unfold atK
    have hd : L = L.take i ++ (L[i] :: L.drop (i + 1)) := by rw [← List.drop_eq_getElem_cons hi, List.take_append_drop]
    have hf : (L.take i).find? (fun x => decide (x.1 = k)) = none := by
      rw [List.find?_eq_none]
      intro x hx hc
      have := Wh.hasK_of hx
      rw [of_decide_eq_true hc, h] at this
      cases this
    have : L.find? (fun x => decide (x.1 = k)) = some L[i] := by
      conv => lhs; rw [hd]
      rw [List.find?_append, hf, List.find?_cons, decide_eq_true e]
      rfl
    rw [this]; rfl
  · rw [← e]; exact Wh.hasK_of (List.getElem_mem hi)
set_option maxHeartbeats 2000000 in
theorem rat_any {w : World} {r t : Nat} {ad : Option Addr} {cap : Nat} {L : List Tm} (h : RfAt w r t ad cap L) (k : ByteArray) :
    Calls Tryd.prog 22 #[ptr r, .string k] w fun e w' => e = .returned (.tuple #[.int .i64 (atK L k : Int), .bool (hasK L k)]) ∧ w' = w := by
  have hc := h.lst
  have HR : Hid (RowAt tmf w ad L) := h.row
  have hl : L.length ≤ 9223372036854775807 := Nat.le_trans h.le h.cp
  have HA : Hid (∀ i (hi : i < L.length), hasK (L.take i) k = false → L[i].1 = k → atK L k = L[i].2 ∧ hasK L k = true) := fun i hi => atK_first hi
  have HE : Hid (hasK (L.take L.length) k = false → atK L k = 0 ∧ hasK L k = false) := fun e => by rw [List.take_length] at e; exact ⟨Wh.atK_not e, e⟩
  generalize atK L k = ra at *
  generalize hasK L k = rh at *
  clear h
  go_enter Tryd.func22, Tryd.ntmps22
  go_wp2
  go_loop [6] (fun i => ∃ (j : Nat), j ≤ L.length ∧ i = .int .i64 (j : Int) ∧ Hid (hasK (L.take j) k = false)) (fun i => L.length - (intOf i).toNat)
  case atStart => exact ⟨0, Nat.zero_le _, rfl, rfl⟩
  case round =>
    obtain ⟨j, hj, rfl, HT⟩ := hrel
    by_cases hlt : j < L.length
    · obtain ⟨b, off, rfl, hb, c0, c1⟩ := tm_at HR.out j hlt
      have HQ := Lib.hid (HA.out j hlt HT.out)
      have HN : Hid (L[j].1 ≠ k → hasK (L.take (j + 1)) k = false) := fun hne => by rw [Wh.has_take hlt, HT.out, decide_eq_false hne]; rfl
      generalize L[j].1 = x at *
      generalize L[j].2 = y at *
      by_cases hx : x = k
      · have HF := Lib.hid (HQ.out hx)
        have hq : (x.toList == k.toList) = true := by rw [eqB, decide_eq_true hx]
        clear HQ HN hx
        go_wp2
        go_ret2
        exact ⟨by rw [HF.out.1, HF.out.2]; rfl, rfl⟩
      · have HF := Lib.hid (HN.out hx)
        have hq : (x.toList == k.toList) = false := by rw [eqB, decide_eq_false hx]
        clear HQ HN hx
        go_wp2
        go_round
        case rel => exact ⟨j + 1, by omega, by simp, HF⟩
        case measure => simp [intOf]; omega
    · obtain rfl : j = L.length := by omega
      have HF := Lib.hid (HE.out HT.out)
      clear HT HE
      go_wp2
      go_ret2
      exact ⟨by rw [HF.out.1, HF.out.2]; rfl, rfl⟩
end Go.Proofs.YtmgiiofjlgchfaaDoor
