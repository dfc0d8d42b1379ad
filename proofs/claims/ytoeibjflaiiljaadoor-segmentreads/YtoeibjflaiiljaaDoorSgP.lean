
/- segment: Begin, Next, rise; the document's Next. -/
import Derived.Test.YtoeibjflaiiljaaDoorSgA
import Derived.Test.YtoeibjflaiiljaaDoorSealP
import Derived.Test.YtoeibjflaiiljaaDoorRSealP
import Derived.Test.YtoeibjflaiiljaaDoorShelf
import Derived.Test.YtoeibjflaiiljaaDoorWr
import Derived.Deep.QuietTactic
import Derived.BigQuiet
namespace Go.Proofs.YtoeibjflaiiljaaDoor
open Go.RowKit
open Dk (Fl zf)

theorem Gr.builderAt {T e : TypeId} {B b : Nat} {p : Value} {bs : List Value} {w w' : World} (g : Gr w w') (h : Lib.BuilderAt T e B b p bs w) : Lib.BuilderAt T e B b p bs w' := by
  have hlt := h.lt
  obtain ⟨hB, v, hb, hown, hne⟩ := h
  refine ⟨hB, v, (g.below.block b hlt).trans hb, hown.kept g.grownBy ?_, hne⟩
  cases hv : v.ownBlock with
  | none => exact Or.inl rfl
  | some q => exact Or.inr (by simp)
theorem Gr.isBuilder {T e : TypeId} {B b : Nat} {bs : List Value} {w w' : World} (g : Gr w w') (h : Lib.IsBuilder T e B b bs w) : Lib.IsBuilder T e B b bs w' :=
  h.elim (fun h => Or.inl (g.builderAt h)) (fun h => Or.inr (g.builderAt h))

set_option maxHeartbeats 1000000 in
set_option maxRecDepth 100000 in
theorem begin_any (s : ByteArray) (w : World) (hT : Tab w) (hs : s.size ≤ 9223372036854775807) :
    Calls Tryd.prog 9 #[.string s] w fun e w' => e = .returned (.tuple #[.string ⟨(Sl.sealE 3 s.data.toList).1.toArray⟩, .int .i64 (Sl.sealE 3 s.data.toList).2]) ∧ Gr w w' := by
  have HS : Hid (∀ w', Gr w w' → Calls Tryd.prog 18 #[.int .i64 3, .string s] w' fun e w2 => e = .returned (.tuple #[.string ⟨(Sl.sealE 3 s.data.toList).1.toArray⟩, .int .i64 (Sl.sealE 3 s.data.toList).2]) ∧ Gr w' w2) := fun w' g => seal_any 3 s w' (hT.gr g) hs
  clear hT
  generalize Sl.sealE 3 s.data.toList = r at *
  obtain ⟨a, b⟩ := r
  go_enter Tryd.func9, Tryd.ntmps9
  go_wp2_with fail
  refine (HS.out _ (by repeat (first | exact Gr.refl _ | refine Gr.alloc ?_ | refine Gr.drew ?_ | refine Gr.trans ?_ (by assumption)))).mono ?_
  rintro e w1 ⟨rfl, hg1⟩
  go_wp2
  go_ret2
  exact ⟨rfl, (by repeat (first | exact Gr.refl _ | refine Gr.alloc ?_ | refine Gr.drew ?_ | refine Gr.trans ?_ (by assumption)))⟩

set_option maxHeartbeats 2000000 in
set_option maxRecDepth 100000 in
theorem next_any (L : List ByteArray) (ad : Option Addr) (cap : Nat) (w : World) (hT : Tab w) (hL : StrsAt w ad L) (hn : L.length ≤ 1000000) (hsz : ∀ s ∈ L, s.size ≤ 9223372036854775807) :
    Calls Tryd.prog 11 #[.slice ad L.length cap] w fun e w' => e = .returned (.tuple #[.string ⟨(Sg.next L).1.toArray⟩, .int .i64 ((Sg.next L).2 : Nat)]) ∧ Gr w w' := by
  have HT := Lib.hid hT
  have HL := Lib.hid hL
  have HZ := Lib.hid hsz
  have hfl : ∀ k, Sg.fit (L.take k) = true → (Sg.frs (L.take k)).length ≤ 30020 * k := by
    intro k hf
    have h1 := Sg.frs_len (L.take k)
    have h2 : ((L.take k).map (fun s => s.size)).sum ≤ 30000 * (L.take k).length := by
      have h3 := List.all_eq_true.1 hf
      generalize L.take k = l at *
      clear h1
      induction l with
      | nil => simp
      | cons s t ih =>
        have e1 := ih (List.all_eq_true.2 fun x hx => h3 x (by simp [hx])) (fun x hx => h3 x (by simp [hx]))
        have e2 : s.size ≤ 30000 := by simpa using h3 s (by simp)
        simp only [List.map_cons, List.sum_cons, List.length_cons]
        omega
    rw [List.length_take] at h1 h2
    omega
  have HF := Lib.hid hfl
  have hb0 : Lib.IsBuilder 57 5 w.heap.size w.heap.size [] (w.alloc (.cells #[.pointer none, .slice none 0 0] 57)) := Lib.fresh_isBuilder 57 5 w
  have HB0 := Lib.hid hb0
  clear hT hL hsz hfl hb0
  go_enter Tryd.func11, Tryd.ntmps11
  go_wp2
  go_loopw [11] (fun s11 wr => ∃ k : Nat, s11 = .int .i64 k ∧ k ≤ L.length ∧ Sg.fit (L.take k) = true ∧ Lib.IsBuilder 57 5 w.heap.size w.heap.size (Lib.byteCells (Sg.frs (L.take k))) wr ∧ Gr w wr) (fun s11 _ => L.length - (intOf s11).toNat)
  case atStart => exact ⟨0, rfl, Nat.zero_le _, by simp [Sg.fit], by rw [List.take_zero]; exact HB0.out, (Gr.refl _).alloc⟩
  case round =>
    clear HB0
    obtain ⟨k, rfl, hk, hft, hbd, hg⟩ := hrel
    by_cases hlt : k < L.length
    · obtain ⟨b, off, rfl, hb, hc⟩ := HL.out k hlt
      have hc := hg.keep hc
      have hki : (k : Int) < (L.length : Int) := by omega
      have hz := HZ.out L[k] (List.getElem_mem hlt)
      have HS : Hid (∀ w', Gr w w' → Calls Tryd.prog 18 #[.int .i64 3, .string L[k]] w' fun e w2 => e = .returned (.tuple #[.string ⟨(Sl.sealE 3 L[k].data.toList).1.toArray⟩, .int .i64 (Sl.sealE 3 L[k].data.toList).2]) ∧ Gr w' w2) := fun w' g => seal_any 3 L[k] w' (HT.out.gr g) hz
      have HM := Lib.hid (Sg.frs_more L k hlt)
      have HFT := Lib.hid (Sg.fit_take L k hlt hft)
      have hl6 := HF.out k hft
      have hsl := Sg.seal_len L[k]
      have HBd := Lib.hid hbd
      have HG := Lib.hid hg
      rw [Sg.seal3] at HS HM hsl
      by_cases hbg : L[k].size ≤ 30000
      · rw [if_pos hbg] at HS HM hsl
        rw [decide_eq_true hbg] at HFT
        generalize L[k] = x at *
        generalize Sl.frame 3 x.data.toList = tx at *
        generalize hacc : Sg.frs (L.take k) = acc at *
        clear hbd hg
        go_wp2_with fail
        refine (HS.out _ (HG.out.trans (by repeat (first | exact Gr.refl _ | refine Gr.alloc ?_ | refine Gr.drew ?_ | refine Gr.trans ?_ (by assumption))))).mono ?_
        rintro e w2 ⟨rfl, hg2⟩
        have gw2 : Gr wr w2 := (by repeat (first | exact Gr.refl _ | refine Gr.alloc ?_ | refine Gr.drew ?_ | refine Gr.trans ?_ (by assumption)))
        have hbd2 := gw2.isBuilder HBd.out
        have HG2 := Lib.hid (HG.out.trans gw2)
        have hlc : (Lib.byteCells acc).length + (⟨tx.toArray⟩ : ByteArray).size ≤ 140737488355328 := by
          rw [Lib.byteCells_length]; show acc.length + tx.toArray.size ≤ _; rw [List.size_toArray]; have hsl2 : tx.length ≤ x.size + 20 := hsl; omega
        have HWs := Lib.hid (Tryd.writeString w.heap.size w.heap.size (Lib.byteCells acc) ⟨tx.toArray⟩ w2 hbd2 hlc HG2.out.size)
        clear hbd2 hlc hg2 gw2
        go_wp2_with fail
        refine HWs.out.mono ?_
        rintro e w3 ⟨rfl, h3, b3⟩
        rw [Lib.strCells_eq, ← Lib.byteCells_append, show (⟨tx.toArray⟩ : ByteArray).data.toList = tx by simp, ← HM.out] at h3
        have HB3 : Hid (Lib.IsBuilder 57 5 w.heap.size w.heap.size (Lib.byteCells (Sg.frs (L.take (k + 1)))) w3) := Or.inr h3
        have HG3 : Hid (Gr w w3) := ⟨HG2.out.below.trans b3⟩
        clear h3 b3
        go_wp2
        go_roundw
        case rel => exact ⟨k + 1, by go_num, by omega, HFT.out, HB3.out, HG3.out⟩
        case measure => simp [intOf]; omega
      · have HN : Hid (Sg.next L = ([], 3)) := by show _ = _; unfold Sg.next; rw [Sg.fit_not L k hlt hbg]; rfl
        rw [if_neg hbg] at HS
        clear hbd hg HM HFT hsl
        generalize L[k] = x at *
        go_wp2_with fail
        refine (HS.out _ (HG.out.trans (by repeat (first | exact Gr.refl _ | refine Gr.alloc ?_ | refine Gr.drew ?_ | refine Gr.trans ?_ (by assumption))))).mono ?_
        rintro e w2 ⟨rfl, hg2⟩
        go_wp2
        go_ret2
        rw [HN.out]
        exact ⟨rfl, HG.out.trans (by repeat (first | exact Gr.refl _ | refine Gr.alloc ?_ | refine Gr.drew ?_ | refine Gr.trans ?_ (by assumption)))⟩
    · have hge : ¬ ((k : Int) < (L.length : Int)) := by omega
      have hall : L.take k = L := List.take_of_length_le (by omega)
      have HN : Hid (Sg.next L = (Sg.frs L, 0)) := by show _ = _; unfold Sg.next; rw [← hall, if_pos hft]
      rw [hall] at hbd
      have HG := Lib.hid hg
      have HSt := Lib.hid (Tryd.Builder_String_any w.heap.size w.heap.size _ wr hbd hg.size)
      clear hbd hg hall
      go_wp2_with fail
      refine HSt.out.mono ?_
      rintro e w3 ⟨rfl, hb3⟩
      have HG3 : Hid (Gr w w3) := ⟨HG.out.below.trans hb3⟩
      go_wp2
      go_ret2
      rw [HN.out]
      exact ⟨rfl, HG3.out⟩

set_option maxHeartbeats 1000000 in
set_option maxRecDepth 100000 in
theorem refNext_any (L : List ByteArray) (ad : Option Addr) (cap : Nat) (w : World) (hL : StrsAt w ad L) (hn : L.length ≤ 1000000) (hsz : ∀ s ∈ L, s.size ≤ 9223372036854775807) (hlen : (Sg.frs L).length ≤ 10000000) :
    Calls Tryd.prog 12 #[.slice ad L.length cap] w fun e w' => e = .returned (.tuple #[.string ⟨(Sg.next L).1.toArray⟩, .int .i64 ((Sg.next L).2 : Nat)]) ∧ Gr w w' := by
  have HL := Lib.hid hL
  have HZ := Lib.hid hsz
  clear hL hsz
  go_enter Tryd.func12, Tryd.ntmps12
  go_wp2
  go_loopw [4, 5] (fun o i wr => ∃ k : Nat, k ≤ L.length ∧ i = .int .i64 k ∧ o = .string ⟨(Sg.frs (L.take k)).toArray⟩ ∧ Sg.fit (L.take k) = true ∧ Gr w wr) (fun _ i _ => L.length - (intOf i).toNat)
  case atStart => exact ⟨0, Nat.zero_le _, rfl, rfl, by simp [Sg.fit], Gr.refl _⟩
  case round =>
    obtain ⟨k, hk, rfl, rfl, hft, hg⟩ := hrel
    by_cases hlt : k < L.length
    · obtain ⟨b, off, rfl, hb, hc⟩ := HL.out k hlt
      have hc := hg.keep hc
      have hz := HZ.out L[k] (List.getElem_mem hlt)
      have HS : Hid (∀ w' : World, Calls Tryd.prog 10 #[.int .i64 3, .string L[k]] w' fun e w2 => e = .returned (.tuple #[.string ⟨(Sl.sealE 3 L[k].data.toList).1.toArray⟩, .int .i64 (Sl.sealE 3 L[k].data.toList).2]) ∧ Gr w' w2) := fun w' => refSeal_any 3 L[k] w' hz
      have hm := Sg.frs_more L k hlt
      have hle := Sg.frs_take_le L (k + 1)
      have HFT := Lib.hid (Sg.fit_take L k hlt hft)
      have ha := add_lists (Sg.frs (L.take k)) (Sl.sealE 3 L[k].data.toList).1 (by rw [hm, List.length_append] at hle; omega)
      rw [← hm] at ha
      rw [Sg.seal3] at HS ha
      have HG := Lib.hid hg
      by_cases hbg : L[k].size ≤ 30000
      · rw [if_pos hbg] at HS ha
        rw [decide_eq_true hbg] at HFT
        clear hm hle hg
        generalize L[k] = x at *
        generalize Sl.frame 3 x.data.toList = tx at *
        go_wp2_with fail
        refine (HS.out _).mono ?_
        rintro e w2 ⟨rfl, hg2⟩
        go_wp2
        go_roundw
        case rel => exact ⟨k + 1, by omega, by go_num, rfl, HFT.out, HG.out.trans (by repeat (first | exact Gr.refl _ | refine Gr.alloc ?_ | refine Gr.drew ?_ | refine Gr.trans ?_ (by assumption)))⟩
        case measure => simp [intOf]; omega
      · have HN : Hid (Sg.next L = ([], 3)) := by show _ = _; unfold Sg.next; rw [Sg.fit_not L k hlt hbg]; rfl
        rw [if_neg hbg] at HS
        clear hm hle hg ha HFT
        generalize L[k] = x at *
        go_wp2_with fail
        refine (HS.out _).mono ?_
        rintro e w2 ⟨rfl, hg2⟩
        go_wp2
        go_ret2
        rw [HN.out]
        exact ⟨rfl, HG.out.trans (by repeat (first | exact Gr.refl _ | refine Gr.alloc ?_ | refine Gr.drew ?_ | refine Gr.trans ?_ (by assumption)))⟩
    · have hall : L.take k = L := List.take_of_length_le (by omega)
      have HN : Hid (Sg.next L = (Sg.frs (L.take k), 0)) := by show _ = _; unfold Sg.next; rw [hall] at hft ⊢; rw [if_pos hft]
      clear hall
      have HG := Lib.hid hg
      go_wp2
      go_ret2
      rw [HN.out]
      exact ⟨rfl, HG.out⟩

set_option maxHeartbeats 1000000 in
set_option maxRecDepth 100000 in
theorem rise_any (L : List Fl) (ad : Option Addr) (cap : Nat) (w : World) (hL : FsAt w ad cap L) :
    Calls Tryd.prog 24 #[.slice ad L.length cap] w fun e w' => e = .returned (.bool (Sg.rise L)) ∧ Gr w w' := by
  have HL := Lib.hid hL.row
  have hl := hL.len
  have HR := Lib.hid hL.rng
  clear hL
  go_enter Tryd.func24, Tryd.ntmps24
  go_wp2
  go_loopw [3] (fun i wr => ∃ k : Nat, 1 ≤ k ∧ i = .int .i64 k ∧ (∀ j (h : j + 1 < L.length), j + 1 < k → (L[j]'(by omega)).n < L[j + 1].n) ∧ Gr w wr) (fun i _ => L.length - (intOf i).toNat)
  case atStart => exact ⟨1, Nat.le_refl _, rfl, by intro j _ h; omega, Gr.refl _⟩
  case round =>
    obtain ⟨k, hk, rfl, hup, hg⟩ := hrel
    have HU := Lib.hid hup
    have HG := Lib.hid hg
    by_cases hlt : k < L.length
    · obtain ⟨p, rfl⟩ : ∃ p, k = p + 1 := ⟨k - 1, by omega⟩
      obtain ⟨b, off, rfl, hb, c0, _⟩ := fl_at HL.out p (by omega)
      obtain ⟨b', off', e', hb', d0, _⟩ := fl_at HL.out (p + 1) hlt
      cases e'
      have c0 := hg.keep c0
      have d0 := hg.keep d0
      have hki : ((p + 1 : Nat) : Int) < (L.length : Int) := by omega
      have hpi : ((p + 1 : Nat) : Int) - 1 = (p : Int) := by omega
      have hpl : (p : Int) < (L.length : Int) := by omega
      have HN := Lib.hid (Sg.rise_not L p hlt)
      have HQ : Hid ((L[p]'(by omega)).n < L[p + 1].n → ∀ j (h : j + 1 < L.length), j + 1 < p + 1 + 1 → (L[j]'(by omega)).n < L[j + 1].n) := by
        intro h j hj hjp
        by_cases e : j = p
        · subst e; exact h
        · exact HU.out j hj (by omega)
      clear hup hg HU
      generalize hx : (L[p]'(by omega)).n = x at *
      generalize hy : L[p + 1].n = y at *
      by_cases hxy : y ≤ x
      · have d1 : decide (y ≤ x) = true := decide_eq_true hxy
        have HN2 := Lib.hid (HN.out hxy)
        go_wp2_with (go_quiet (fail))
        go_ret
        rw [HN2.out]
        exact ⟨rfl, HG.out.dn _⟩
      · have d1 : decide (y ≤ x) = false := decide_eq_false hxy
        have HQ2 := Lib.hid (HQ.out (by omega))
        go_wp2_with (go_quiet (fail))
        go_roundw
        case rel => exact ⟨p + 1 + 1, by omega, by go_num, HQ2.out, HG.out.dn _⟩
        case measure => simp [intOf]; omega
    · have hge : ¬ ((k : Int) < (L.length : Int)) := by omega
      have HN : Hid (Sg.rise L = true) := (Sg.rise_iff L).2 fun j hj => HU.out j hj (by omega)
      clear hup hg HU
      go_wp2
      go_ret
      rw [HN.out]
      exact ⟨rfl, HG.out⟩
end Go.Proofs.YtoeibjflaiiljaaDoor
