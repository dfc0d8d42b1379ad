/- def: Check, Same. -/
import Derived.Test.YtdliljijgokpjaaDoorDefX
import Derived.Test.YtdliljijgokpjaaDoorDefL
namespace Go.Proofs.YtdliljijgokpjaaDoor
open Go.RowKit
open Df (Stp ownB askB stpB defB chE)
open _root_.Go.Proofs.YtdliljijgokpjaaDoor.Act (nameB)

theorem def_nidx {nm : ByteArray} {L : List Stp} (j : Nat) (h : j < L.length) (hb : stpB L[j] = false) : defB nm L = false := by
  unfold Df.defB
  have : L.all stpB = false := by
    rw [List.all_eq_false]
    exact ⟨_, List.getElem_mem h, by rw [hb]; simp⟩
  rw [this]; simp
theorem def_idx {nm : ByteArray} {L : List Stp} (h0 : nameB nm = true) (h1 : 1 ≤ L.length) (h8 : L.length ≤ 8) (h : ∀ j (hj : j < L.length), stpB L[j] = true) : defB nm L = true := by
  refine (Df.def_iff nm L).2 ⟨h0, h1, h8, fun s hs => ?_⟩
  obtain ⟨j, hj, rfl⟩ := List.getElem_of_mem hs
  exact h j hj

set_option maxHeartbeats 4000000 in
set_option maxRecDepth 100000 in
theorem dCheck_any (nm : ByteArray) (L : List Stp) (ad : Option Addr) (cap : Nat) (w : World) (hL : StpsAt w ad L) (hs : nm.size ≤ 9223372036854775807) (hn : L.length ≤ 9223372036854775807) (hz : ∀ s ∈ L, inS s) :
    Calls Tryd.prog 12 #[.agg #[.string nm, .slice ad L.length cap]] w fun e w' => e = .returned (.int .i64 (chE nm L)) ∧ Gr w w' := by
  have HN : Hid (∀ w', Calls Tryd.prog 26 #[.string nm] w' fun e w2 => e = .returned (.bool (nameB nm)) ∧ w2 = w') := fun w' => name_any nm w' hs
  have HW : Hid (∀ w', Calls Tryd.prog 27 #[.int .i64 (L.length : Int), .int .i64 1, .int .i64 8] w' fun e w2 => e = .returned (.bool (decide ((1 : Int) ≤ (L.length : Int)) && decide ((L.length : Int) ≤ 8))) ∧ w2 = w') := fun w' => within_any _ 1 8 w'
  have HO : Hid (∀ (j : Nat) (h : j < L.length) (w' : World), Calls Tryd.prog 28 #[.agg #[.int .i64 L[j].k, .string L[j].a, .int .i64 L[j].n, .int .i64 L[j].o, .string L[j].u, .int .i64 L[j].y, .int .i64 L[j].v]] w' fun e w2 => e = .returned (.bool (ownB L[j])) ∧ Gr w' w2) := fun j h w' => isOwn_any L[j] w' (hz _ (List.getElem_mem h))
  have HA : Hid (∀ (j : Nat) (h : j < L.length) (w' : World), Calls Tryd.prog 29 #[.agg #[.int .i64 L[j].k, .string L[j].a, .int .i64 L[j].n, .int .i64 L[j].o, .string L[j].u, .int .i64 L[j].y, .int .i64 L[j].v]] w' fun e w2 => e = .returned (.bool (askB L[j])) ∧ Gr w' w2) := fun j h w' => asks_any L[j] w' (hz _ (List.getElem_mem h))
  have HL : Hid (StpsAt w ad L) := hL
  cases hnb : nameB nm with
  | false =>
    have HF : Hid (chE nm L = 90) := Df.ch_no (by unfold Df.defB; rw [hnb]; rfl)
    rw [hnb] at HN
    clear hnb hL hz
    go_enter Tryd.func12, Tryd.ntmps12
    go_wp2_with fail
    refine (HN.out _).mono ?_
    rintro e w1 ⟨rfl, hw⟩; obtain rfl := hw.symm
    go_wp2
    go_ret
    exact ⟨by rw [HF.out]; rfl, (by repeat (first | exact Gr.refl _ | refine Gr.alloc ?_ | refine Gr.drew ?_ | refine Gr.trans ?_ (by assumption)))⟩
  | true =>
    by_cases hlen : 1 ≤ L.length ∧ L.length ≤ 8
    · rw [hnb] at HN
      rw [show (decide ((1 : Int) ≤ (L.length : Int)) && decide ((L.length : Int) ≤ 8)) = true by simp; omega] at HW
      have HY : Hid ((∀ j (hj : j < L.length), stpB L[j] = true) → chE nm L = 0) := fun h => Df.ch_yes (def_idx hnb hlen.1 hlen.2 h)
      have HX : Hid (∀ j (hj : j < L.length), stpB L[j] = false → chE nm L = 90) := fun j hj h => Df.ch_no (def_nidx j hj h)
      have HST : Hid (∀ j (hj : j < L.length), stpB L[j] = (ownB L[j] || askB L[j])) := fun j hj => rfl
      obtain ⟨l1, l8⟩ := hlen
      generalize chE nm L = CE at *
      clear hnb hL hz hs hn
      go_enter Tryd.func12, Tryd.ntmps12
      go_wp2_with fail
      refine (HN.out _).mono ?_
      rintro e w1 ⟨rfl, hw⟩; obtain rfl := hw.symm
      go_wp2_with fail
      refine (HW.out _).mono ?_
      rintro e w1 ⟨rfl, hw⟩; obtain rfl := hw.symm
      have HG0 : Hid (Gr w (w.alloc (.cells #[.string nm, .slice ad L.length cap] 24))) := (Gr.refl _).alloc
      go_wp2
      go_loopw [19] (fun i wr => ∃ k : Nat, k ≤ L.length ∧ i = .int .i64 (k : Int) ∧ Gr w wr ∧ ∀ j (hj : j < L.length), j < k → stpB L[j] = true) (fun i _ => L.length - (intOf i).toNat)
      case atStart => exact ⟨0, by omega, rfl, HG0.out, fun j _ h => absurd h (by omega)⟩
      case round =>
        obtain ⟨k, hk, rfl, hg, hP⟩ := hrel
        have HG : Hid (Gr w wr) := hg
        have HP : Hid (∀ j (hj : j < L.length), j < k → stpB L[j] = true) := hP
        clear hg hP
        by_cases hlt : k < L.length
        · obtain ⟨b, off, rfl, hb, x0, x1, x2, x3, x4, x5, x6⟩ := StpsAt.at (HL.out.gr HG.out) k hlt
          have HB0 := Lib.hid (AccAt.new wr (.int .i64 L[k].k) (.string L[k].a) (.int .i64 L[k].n) (.int .i64 L[k].o) (.string L[k].u) (.int .i64 L[k].y) (.int .i64 L[k].v) 47 _ rfl)
          have HOk : Hid (∀ w', Calls Tryd.prog 28 #[.agg #[.int .i64 L[k].k, .string L[k].a, .int .i64 L[k].n, .int .i64 L[k].o, .string L[k].u, .int .i64 L[k].y, .int .i64 L[k].v]] w' fun e w2 => e = .returned (.bool (ownB L[k])) ∧ Gr w' w2) := HO.out k hlt
          have HAk : Hid (∀ w', Calls Tryd.prog 29 #[.agg #[.int .i64 L[k].k, .string L[k].a, .int .i64 L[k].n, .int .i64 L[k].o, .string L[k].u, .int .i64 L[k].y, .int .i64 L[k].v]] w' fun e w2 => e = .returned (.bool (askB L[k])) ∧ Gr w' w2) := HA.out k hlt
          have HSk := Lib.hid (HST.out k hlt)
          have HXk := Lib.hid (HX.out k hlt)
          generalize hSB : stpB L[k] = SB at *
          have HSB : Hid (∀ _h : k < L.length, stpB L[k] = SB) := fun _ => hSB
          clear hSB
          generalize ownB L[k] = OB at *
          generalize askB L[k] = AB at *
          generalize L[k].k = a0 at *
          generalize L[k].a = a1 at *
          generalize L[k].n = a2 at *
          generalize L[k].o = a3 at *
          generalize L[k].u = a4 at *
          generalize L[k].y = a5 at *
          generalize L[k].v = a6 at *
          go_wp2_with fail
          refine (HOk.out _).mono ?_
          rintro e w2 ⟨rfl, hg2⟩
          have HG2 : Hid (Gr w w2) := HG.out.trans ((Gr.refl _).alloc.trans hg2)
          obtain ⟨y0, y1, y2, y3, y4, y5, y6⟩ := (HB0.out.gr hg2).cells
          have yl := (HB0.out.gr hg2).lt
          clear hg2 x0 x1 x2 x3 x4 x5 x6
          cases OB with
          | true =>
            have HT : Hid (SB = true) := HSk.out
            go_wp2
            go_roundw
            case rel => exact ⟨k + 1, by omega, by go_num, HG2.out, fun j hj h => if e : j = k then by subst e; rw [HSB.out hj]; exact HT.out else HP.out j hj (by omega)⟩
            case measure => simp [intOf]; omega
          | false =>
            go_wp2_with fail
            refine (HAk.out _).mono ?_
            rintro e w3 ⟨rfl, hg3⟩
            have HG3 : Hid (Gr w w3) := HG2.out.trans hg3
            clear hg3
            cases AB with
            | true =>
              have HT : Hid (SB = true) := HSk.out
              go_wp2
              go_roundw
              case rel => exact ⟨k + 1, by omega, by go_num, HG3.out, fun j hj h => if e : j = k then by subst e; rw [HSB.out hj]; exact HT.out else HP.out j hj (by omega)⟩
              case measure => simp [intOf]; omega
            | false =>
              have HF : Hid (CE = 90) := HXk.out HSk.out
              go_wp2
              go_ret
              exact ⟨by rw [HF.out]; rfl, HG3.out⟩
        · obtain rfl : k = L.length := by omega
          have HF : Hid (CE = 0) := HY.out (fun j hj => HP.out j hj hj)
          go_wp2
          go_ret
          exact ⟨by rw [HF.out]; rfl, HG.out⟩
    · have HF : Hid (chE nm L = 90) := Df.ch_no (by
        cases hd : Df.defB nm L with
        | false => rfl
        | true => have := (Df.def_iff nm L).1 hd; exact absurd ⟨this.2.1, this.2.2.1⟩ hlen)
      rw [hnb] at HN
      rw [show (decide ((1 : Int) ≤ (L.length : Int)) && decide ((L.length : Int) ≤ 8)) = false by
        cases hq : (decide ((1 : Int) ≤ (L.length : Int)) && decide ((L.length : Int) ≤ 8)) with
        | false => rfl
        | true => simp only [Bool.and_eq_true, decide_eq_true_eq] at hq; exact absurd ⟨by omega, by omega⟩ hlen] at HW
      clear hnb hL hz hlen
      go_enter Tryd.func12, Tryd.ntmps12
      go_wp2_with fail
      refine (HN.out _).mono ?_
      rintro e w1 ⟨rfl, hw⟩; obtain rfl := hw.symm
      go_wp2_with fail
      refine (HW.out _).mono ?_
      rintro e w1 ⟨rfl, hw⟩; obtain rfl := hw.symm
      go_wp2
      go_ret
      exact ⟨by rw [HF.out]; rfl, (by repeat (first | exact Gr.refl _ | refine Gr.alloc ?_ | refine Gr.drew ?_ | refine Gr.trans ?_ (by assumption)))⟩

def samB (n1 : ByteArray) (L1 : List Stp) (n2 : ByteArray) (L2 : List Stp) : Bool := defB n1 L1 && (decide (n1 = n2) && eqL L1 L2)

set_option maxHeartbeats 4000000 in
set_option maxRecDepth 100000 in
theorem dSame_any (n1 : ByteArray) (L1 : List Stp) (ad1 : Option Addr) (cap1 : Nat) (n2 : ByteArray) (L2 : List Stp) (ad2 : Option Addr) (cap2 : Nat) (w : World) (h1 : StpsAt w ad1 L1) (h2 : StpsAt w ad2 L2) (hs : n1.size ≤ 9223372036854775807) (hn1 : L1.length ≤ 9223372036854775807) (hn2 : L2.length ≤ 9223372036854775807) (hz : ∀ s ∈ L1, inS s) :
    Calls Tryd.prog 14 #[.agg #[.string n1, .slice ad1 L1.length cap1], .agg #[.string n2, .slice ad2 L2.length cap2]] w fun e w' => e = .returned (.bool (samB n1 L1 n2 L2)) ∧ Gr w w' := by
  have HC : Hid (∀ w', Gr w w' → Calls Tryd.prog 12 #[.agg #[.string n1, .slice ad1 L1.length cap1]] w' fun e w2 => e = .returned (.int .i64 (chE n1 L1)) ∧ Gr w' w2) := fun w' g => dCheck_any n1 L1 ad1 cap1 w' (h1.gr g) hs hn1 hz
  have HE : Hid (∀ w', Gr w w' → Calls Tryd.prog 32 #[.slice ad1 L1.length cap1, .slice ad2 L2.length cap2] w' fun e w2 => e = .returned (.bool (eqL L1 L2)) ∧ Gr w' w2) := fun w' g => seq_any L1 L2 ad1 ad2 cap1 cap2 w' (h1.gr g) (h2.gr g) hn1 hn2
  have HB : Hid (samB n1 L1 n2 L2 = (defB n1 L1 && (decide (n1 = n2) && eqL L1 L2))) := rfl
  have HCE : Hid (chE n1 L1 = if defB n1 L1 = true then 0 else 90) := rfl
  have ht := text_eq n1 n2.data.toList
  rw [Lex.bytes_list, ← show n2.toList = n2.data.toList from ByteArray.toList_eq n2] at ht
  generalize samB n1 L1 n2 L2 = SB at *
  generalize chE n1 L1 = CE at *
  generalize defB n1 L1 = DB at *
  generalize eqL L1 L2 = EB at *
  have HX0 := Lib.hid ((TwoAt.new w (.string n1) (.slice ad1 L1.length cap1) 24 _ rfl).gr (Gr.refl _).alloc (w' := (w.alloc (.cells #[.string n1, .slice ad1 L1.length cap1] 24)).alloc (.cells #[.string n2, .slice ad2 L2.length cap2] 24)))
  have HY0 := Lib.hid (TwoAt.new (w.alloc (.cells #[.string n1, .slice ad1 L1.length cap1] 24)) (.string n2) (.slice ad2 L2.length cap2) 24 (w.heap.size + 1) (by simp))
  clear h1 h2 hs hn1 hn2 hz
  cases DB with
  | true =>
    obtain rfl : CE = 0 := HCE.out
    by_cases hq : n1 = n2
    · rw [decide_eq_true hq] at ht HB
      have ht2 : (n1.toList == n2.toList) = true := ht
      have HF : Hid (SB = EB) := HB.out
      clear ht hq HB HCE
      go_enter Tryd.func14, Tryd.ntmps14
      go_wp2_with fail
      refine (HC.out _ (by repeat (first | exact Gr.refl _ | refine Gr.alloc ?_ | refine Gr.drew ?_ | refine Gr.trans ?_ (by assumption)))).mono ?_
      rintro e w1 ⟨rfl, hg⟩
      have HG1 : Hid (Gr w w1) := (Gr.refl _).alloc.alloc.trans hg
      obtain ⟨x0, x1, _, _, xl⟩ := HX0.out.gr hg
      obtain ⟨y0, y1, _, _, yl⟩ := HY0.out.gr hg
      clear hg
      go_wp2_with fail
      refine (HE.out _ HG1.out).mono ?_
      rintro e w2 ⟨rfl, hg⟩
      have HG2 : Hid (Gr w w2) := HG1.out.trans hg
      clear hg
      go_wp2
      go_ret
      exact ⟨by rw [HF.out]; rfl, HG2.out⟩
    · rw [decide_eq_false hq] at ht HB
      have ht2 : (n1.toList == n2.toList) = false := ht
      have HF : Hid (SB = false) := HB.out
      clear ht hq HB HCE
      go_enter Tryd.func14, Tryd.ntmps14
      go_wp2_with fail
      refine (HC.out _ (by repeat (first | exact Gr.refl _ | refine Gr.alloc ?_ | refine Gr.drew ?_ | refine Gr.trans ?_ (by assumption)))).mono ?_
      rintro e w1 ⟨rfl, hg⟩
      have HG1 : Hid (Gr w w1) := (Gr.refl _).alloc.alloc.trans hg
      obtain ⟨x0, x1, _, _, xl⟩ := HX0.out.gr hg
      obtain ⟨y0, y1, _, _, yl⟩ := HY0.out.gr hg
      clear hg
      go_wp2
      go_ret
      exact ⟨by rw [HF.out]; rfl, HG1.out⟩
  | false =>
    obtain rfl : CE = 90 := HCE.out
    have HF : Hid (SB = false) := HB.out
    clear ht HB HCE
    go_enter Tryd.func14, Tryd.ntmps14
    go_wp2_with fail
    refine (HC.out _ (by repeat (first | exact Gr.refl _ | refine Gr.alloc ?_ | refine Gr.drew ?_ | refine Gr.trans ?_ (by assumption)))).mono ?_
    rintro e w1 ⟨rfl, hg⟩
    have HG1 : Hid (Gr w w1) := (Gr.refl _).alloc.alloc.trans hg
    clear hg
    go_wp2
    go_ret
    exact ⟨by rw [HF.out]; rfl, HG1.out⟩
end Go.Proofs.YtdliljijgokpjaaDoor
