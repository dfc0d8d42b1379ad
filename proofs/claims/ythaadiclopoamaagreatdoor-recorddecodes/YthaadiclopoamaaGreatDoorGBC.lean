/- Parts of these proofs, laid together. -/
import Derived.Test.YthaadiclopoamaaGreatDoorGU
/- The document's steps, Check and Same of definitions. -/
set_option maxRecDepth 100000
set_option maxHeartbeats 8000000
namespace Go.Proofs.YthaadiclopoamaaGreatDoor
open Go.RowKit
open Df (Stp ownB askB stpB zerB defB chE)
open _root_.Go.Proofs.YthaadiclopoamaaGreatDoor.Act (nameB actB chkE)


theorem stp_own {s : Stp} (h : s.u = ⟨#[]⟩) : stpB s = (actB s.k s.a s.n && decide (s.o = 0) && decide (s.v = 0) && decide (1 <= s.y) && decide (s.y <= 5)) := by
 have hn : nameB s.u = false := by rw [h]; rfl
 unfold Df.stpB Df.askB Df.ownB
 rw [hn, decide_eq_true h]
 simp [Bool.and_assoc]
theorem stp_ask {s : Stp} (h : s.u ≠ ⟨#[]⟩) : stpB s = (decide (s.k = 0) && decide (s.a = ⟨#[]⟩) && decide (s.n = 0) && decide (s.y = 0) && nameB s.u && decide (0 <= s.o) && decide (s.o <= 15) && decide (1 <= s.v) && decide (s.v <= 50)) := by
 unfold Df.stpB Df.askB Df.ownB Df.zerB
 rw [decide_eq_false h]
 cases nameB s.u <;> cases decide (s.k = 0) <;> cases decide (s.a = ⟨#[]⟩) <;> cases decide (s.n = 0) <;> cases decide (s.y = 0) <;> simp [Bool.and_assoc]

theorem refStep_own (s : Stp) (w : World) (hs : inS s) (hu : s.u = ⟨#[]⟩) : Calls Tryz.prog 59 #[.agg #[.int .i64 s.k, .string s.a, .int .i64 s.n, .int .i64 s.o, .string s.u, .int .i64 s.y, .int .i64 s.v]] w fun e w' => e = .returned (.bool (stpB s)) /\ Gr w w' := by
 have HC : Hid (∀ w', Calls Tryz.prog 83 #[.agg #[.int .i64 s.k, .string s.a, .int .i64 s.n]] w' fun e w2 => e = .returned (.int .i64 (chkE s.k s.a s.n)) /\ Gr w' w2) := fun w' => refActCheck_any s.k s.n s.a w' hs.1
 have ht := text_eq s.u []
 rw [show (⟨[].toArray⟩ : ByteArray) = ⟨#[]⟩ from rfl, decide_eq_true hu] at ht
 have HB : Hid (stpB s = (actB s.k s.a s.n && decide (s.o = 0) && decide (s.v = 0) && decide (1 <= s.y) && decide (s.y <= 5))) := stp_own hu
 have HE : Hid (chkE s.k s.a s.n = if actB s.k s.a s.n = true then 0 else 60) := rfl
 have HX0 := Lib.hid (AccAt.new w (.int .i64 s.k) (.string s.a) (.int .i64 s.n) (.int .i64 s.o) (.string s.u) (.int .i64 s.y) (.int .i64 s.v) 94 _ rfl)
 clear hs hu
 generalize stpB s = OB at *
 generalize chkE s.k s.a s.n = CE at *
 generalize actB s.k s.a s.n = AB at *
 cases AB with
 | true =>
  have e2 : CE = 0 := HE.out
  subst e2
  by_cases ho : s.o = 0
  ·rw [decide_eq_true ho] at HB
   have eo : (s.o == 0) = true := by simpa using ho
   clear ho
   by_cases hv : s.v = 0
   ·rw [decide_eq_true hv] at HB
    have ev : (s.v == 0) = true := by simpa using hv
    clear hv
    by_cases hp : 1 <= s.y
    ·rw [decide_eq_true hp] at HB
     have HF : Hid (OB = decide (s.y <= 5)) := HB.out
     clear HB HE
     go_enter Tryz.func59, Tryz.ntmps59
     go_wp2_with fail
     refine (HC.out _).mono ?_
     rintro e w1 ⟨rfl, hg⟩
     obtain ⟨x0, x1, x2, x3, x4, x5, x6⟩ := (HX0.out.gr hg).cells
     have xl := (HX0.out.gr hg).lt
     have HG1 : Hid (Gr w w1) := (Gr.refl _).alloc.trans hg
     clear hg
     go_wp2
     go_ret
     exact ⟨by rw [HF.out]; rfl, HG1.out⟩
    ·rw [decide_eq_false hp] at HB
     have HF : Hid (OB = false) := HB.out.trans (by simp)
     clear HB HE
     go_enter Tryz.func59, Tryz.ntmps59
     go_wp2_with fail
     refine (HC.out _).mono ?_
     rintro e w1 ⟨rfl, hg⟩
     obtain ⟨x0, x1, x2, x3, x4, x5, x6⟩ := (HX0.out.gr hg).cells
     have xl := (HX0.out.gr hg).lt
     have HG1 : Hid (Gr w w1) := (Gr.refl _).alloc.trans hg
     clear hg
     go_wp2
     go_ret
     exact ⟨by rw [HF.out]; rfl, HG1.out⟩
   ·rw [decide_eq_false hv] at HB
    have ev : (s.v == 0) = false := by simpa using hv
    clear hv
    have HF : Hid (OB = false) := HB.out.trans (by simp)
    clear HB HE
    go_enter Tryz.func59, Tryz.ntmps59
    go_wp2_with fail
    refine (HC.out _).mono ?_
    rintro e w1 ⟨rfl, hg⟩
    obtain ⟨x0, x1, x2, x3, x4, x5, x6⟩ := (HX0.out.gr hg).cells
    have xl := (HX0.out.gr hg).lt
    have HG1 : Hid (Gr w w1) := (Gr.refl _).alloc.trans hg
    clear hg
    go_wp2
    go_ret
    exact ⟨by rw [HF.out]; rfl, HG1.out⟩
  ·rw [decide_eq_false ho] at HB
   have eo : (s.o == 0) = false := by simpa using ho
   clear ho
   have HF : Hid (OB = false) := HB.out.trans (by simp)
   clear HB HE
   go_enter Tryz.func59, Tryz.ntmps59
   go_wp2_with fail
   refine (HC.out _).mono ?_
   rintro e w1 ⟨rfl, hg⟩
   obtain ⟨x0, x1, x2, x3, x4, x5, x6⟩ := (HX0.out.gr hg).cells
   have xl := (HX0.out.gr hg).lt
   have HG1 : Hid (Gr w w1) := (Gr.refl _).alloc.trans hg
   clear hg
   go_wp2
   go_ret
   exact ⟨by rw [HF.out]; rfl, HG1.out⟩
 | false =>
  have e2 : CE = 60 := HE.out
  subst e2
  have HF : Hid (OB = false) := HB.out.trans (by simp)
  clear HB HE
  go_enter Tryz.func59, Tryz.ntmps59
  go_wp2_with fail
  refine (HC.out _).mono ?_
  rintro e w1 ⟨rfl, hg⟩
  obtain ⟨x0, x1, x2, x3, x4, x5, x6⟩ := (HX0.out.gr hg).cells
  have xl := (HX0.out.gr hg).lt
  have HG1 : Hid (Gr w w1) := (Gr.refl _).alloc.trans hg
  clear hg
  go_wp2
  go_ret
  exact ⟨by rw [HF.out]; rfl, HG1.out⟩

theorem refStep_ask (s : Stp) (w : World) (hs : inS s) (hu : s.u ≠ ⟨#[]⟩) : Calls Tryz.prog 59 #[.agg #[.int .i64 s.k, .string s.a, .int .i64 s.n, .int .i64 s.o, .string s.u, .int .i64 s.y, .int .i64 s.v]] w fun e w' => e = .returned (.bool (stpB s)) /\ Gr w w' := by
 have HN : Hid (∀ w', Calls Tryz.prog 38 #[.string s.u] w' fun e w2 => e = .returned (.bool (nameB s.u)) /\ w2 = w') := fun w' => refName_any s.u w' hs.2.1
 have ht := text_eq s.u []
 rw [show (⟨[].toArray⟩ : ByteArray) = ⟨#[]⟩ from rfl, decide_eq_false hu] at ht
 have ta := text_eq s.a []
 rw [show (⟨[].toArray⟩ : ByteArray) = ⟨#[]⟩ from rfl] at ta
 have HB : Hid (stpB s = (decide (s.k = 0) && decide (s.a = ⟨#[]⟩) && decide (s.n = 0) && decide (s.y = 0) && nameB s.u && decide (0 <= s.o) && decide (s.o <= 15) && decide (1 <= s.v) && decide (s.v <= 50))) := stp_ask hu
 clear hs hu
 generalize stpB s = OB at *
 generalize nameB s.u = NB at *
 by_cases hk : s.k = 0
 ·rw [decide_eq_true hk] at HB
  have ek : (s.k == 0) = true := by simpa using hk
  clear hk
  by_cases ha : s.a = ⟨#[]⟩
  ·rw [decide_eq_true ha] at HB ta
   have ea : (s.a.toList == []) = true := ta
   clear ha ta
   by_cases hn : s.n = 0
   ·rw [decide_eq_true hn] at HB
    have en : (s.n == 0) = true := by simpa using hn
    clear hn
    by_cases hy : s.y = 0
    ·rw [decide_eq_true hy] at HB
     have ey : (s.y == 0) = true := by simpa using hy
     clear hy
     cases NB with
     | true =>
      by_cases ho : 0 <= s.o
      ·rw [decide_eq_true ho] at HB
       by_cases hp : s.o <= 15
       ·rw [decide_eq_true hp] at HB
        by_cases hv : 1 <= s.v
        ·rw [decide_eq_true hv] at HB
         have HF : Hid (OB = decide (s.v <= 50)) := HB.out
         clear HB
         go_enter Tryz.func59, Tryz.ntmps59
         go_wp2_with fail
         refine (HN.out _).mono ?_
         rintro e w1 ⟨rfl, hw⟩; obtain rfl := hw.symm
         go_wp2
         go_ret
         exact ⟨by rw [HF.out]; rfl, (by repeat(first|exact Gr.r _|refine Gr.a ?_|refine Gr.d ?_|refine Gr.t ?_ (by assumption)))⟩
        ·rw [decide_eq_false hv] at HB
         have HF : Hid (OB = false) := HB.out.trans (by simp)
         clear HB
         go_enter Tryz.func59, Tryz.ntmps59
         go_wp2_with fail
         refine (HN.out _).mono ?_
         rintro e w1 ⟨rfl, hw⟩; obtain rfl := hw.symm
         go_wp2
         go_ret
         exact ⟨by rw [HF.out]; rfl, (by repeat(first|exact Gr.r _|refine Gr.a ?_|refine Gr.d ?_|refine Gr.t ?_ (by assumption)))⟩
       ·rw [decide_eq_false hp] at HB
        have HF : Hid (OB = false) := HB.out.trans (by simp)
        clear HB
        go_enter Tryz.func59, Tryz.ntmps59
        go_wp2_with fail
        refine (HN.out _).mono ?_
        rintro e w1 ⟨rfl, hw⟩; obtain rfl := hw.symm
        go_wp2
        go_ret
        exact ⟨by rw [HF.out]; rfl, (by repeat(first|exact Gr.r _|refine Gr.a ?_|refine Gr.d ?_|refine Gr.t ?_ (by assumption)))⟩
      ·rw [decide_eq_false ho] at HB
       have HF : Hid (OB = false) := HB.out.trans (by simp)
       clear HB
       go_enter Tryz.func59, Tryz.ntmps59
       go_wp2_with fail
       refine (HN.out _).mono ?_
       rintro e w1 ⟨rfl, hw⟩; obtain rfl := hw.symm
       go_wp2
       go_ret
       exact ⟨by rw [HF.out]; rfl, (by repeat(first|exact Gr.r _|refine Gr.a ?_|refine Gr.d ?_|refine Gr.t ?_ (by assumption)))⟩
     | false =>
      have HF : Hid (OB = false) := HB.out.trans (by simp)
      clear HB
      go_enter Tryz.func59, Tryz.ntmps59
      go_wp2_with fail
      refine (HN.out _).mono ?_
      rintro e w1 ⟨rfl, hw⟩; obtain rfl := hw.symm
      go_wp2
      go_ret
      exact ⟨by rw [HF.out]; rfl, (by repeat(first|exact Gr.r _|refine Gr.a ?_|refine Gr.d ?_|refine Gr.t ?_ (by assumption)))⟩
    ·rw [decide_eq_false hy] at HB
     have ey : (s.y == 0) = false := by simpa using hy
     clear hy
     have HF : Hid (OB = false) := HB.out.trans (by simp)
     clear HB
     go_enter Tryz.func59, Tryz.ntmps59
     go_wp2
     go_ret
     exact ⟨by rw [HF.out]; rfl, (by repeat(first|exact Gr.r _|refine Gr.a ?_|refine Gr.d ?_|refine Gr.t ?_ (by assumption)))⟩
   ·rw [decide_eq_false hn] at HB
    have en : (s.n == 0) = false := by simpa using hn
    clear hn
    have HF : Hid (OB = false) := HB.out.trans (by simp)
    clear HB
    go_enter Tryz.func59, Tryz.ntmps59
    go_wp2
    go_ret
    exact ⟨by rw [HF.out]; rfl, (by repeat(first|exact Gr.r _|refine Gr.a ?_|refine Gr.d ?_|refine Gr.t ?_ (by assumption)))⟩
  ·rw [decide_eq_false ha] at HB ta
   have ea : (s.a.toList == []) = false := ta
   clear ha ta
   have HF : Hid (OB = false) := HB.out.trans (by simp)
   clear HB
   go_enter Tryz.func59, Tryz.ntmps59
   go_wp2
   go_ret
   exact ⟨by rw [HF.out]; rfl, (by repeat(first|exact Gr.r _|refine Gr.a ?_|refine Gr.d ?_|refine Gr.t ?_ (by assumption)))⟩
 ·rw [decide_eq_false hk] at HB
  have ek : (s.k == 0) = false := by simpa using hk
  clear hk
  clear ta
  have HF : Hid (OB = false) := HB.out.trans (by simp)
  clear HB
  go_enter Tryz.func59, Tryz.ntmps59
  go_wp2
  go_ret
  exact ⟨by rw [HF.out]; rfl, (by repeat(first|exact Gr.r _|refine Gr.a ?_|refine Gr.d ?_|refine Gr.t ?_ (by assumption)))⟩

theorem refStep_any (s : Stp) (w : World) (hs : inS s) : Calls Tryz.prog 59 #[.agg #[.int .i64 s.k, .string s.a, .int .i64 s.n, .int .i64 s.o, .string s.u, .int .i64 s.y, .int .i64 s.v]] w fun e w' => e = .returned (.bool (stpB s)) /\ Gr w w' := by
 by_cases hu : s.u = ⟨#[]⟩
 ·exact refStep_own s w hs hu
 ·exact refStep_ask s w hs hu

theorem refDCheck_any (nm : ByteArray) (L : List Stp) (ad : Option Addr) (cap : Nat) (w : World) (hL : StpsAt w ad L) (hs : nm.size <= 9223372036854775807) (hn : L.length <= 9223372036854775807) (hz : ∀ s ∈ L, inS s) :
  Calls Tryz.prog 30 #[.agg #[.string nm, .slice ad L.length cap]] w fun e w' => e = .returned (.int .i64 (chE nm L)) /\ Gr w w' := by
 have HN : Hid (∀ w', Calls Tryz.prog 38 #[.string nm] w' fun e w2 => e = .returned (.bool (nameB nm)) /\ w2 = w') := fun w' => refName_any nm w' hs
 have HO : Hid (∀ (j : Nat) (h : j < L.length) (w' : World), Calls Tryz.prog 59 #[.agg #[.int .i64 L[j].k, .string L[j].a, .int .i64 L[j].n, .int .i64 L[j].o, .string L[j].u, .int .i64 L[j].y, .int .i64 L[j].v]] w' fun e w2 => e = .returned (.bool (stpB L[j])) /\ Gr w' w2) := fun j h w' => refStep_any L[j] w' (hz _ (List.getElem_mem h))
 have HL : Hid (StpsAt w ad L) := hL
 have HX0 := Lib.hid (TwoAt.new w (.string nm) (.slice ad L.length cap) 27 _ rfl)
 cases hnb : nameB nm with
 | false =>
  have HF : Hid (chE nm L = 90) := Df.ch_no (by unfold Df.defB; rw [hnb]; rfl)
  rw [hnb] at HN
  clear hnb hL hz
  go_enter Tryz.func30, Tryz.ntmps30
  go_wp2_with fail
  refine (HN.out _).mono ?_
  rintro e w1 ⟨rfl, hw⟩; obtain rfl := hw.symm
  go_wp2
  go_ret
  exact ⟨by rw [HF.out]; rfl, (by repeat(first|exact Gr.r _|refine Gr.a ?_|refine Gr.d ?_|refine Gr.t ?_ (by assumption)))⟩
 | true =>
  rw [hnb] at HN
  by_cases hlen : 1 <= L.length /\ L.length <= 8
  ·have HY : Hid ((∀ j (hj : j < L.length), stpB L[j] = true) -> chE nm L = 0) := fun h => Df.ch_yes (def_idx hnb hlen.1 hlen.2 h)
   have HX : Hid (∀ j (hj : j < L.length), stpB L[j] = false -> chE nm L = 90) := fun j hj h => Df.ch_no (def_nidx j hj h)
   obtain ⟨l1, l8⟩ := hlen
   have k1 : ¬ (L.length : Int) < 1 := by omega
   have k2 : ¬ (8 : Int) < (L.length : Int) := by omega
   generalize chE nm L = CE at *
   have HG0 : Hid (Gr w (w.alloc (.cells #[.string nm, .slice ad L.length cap] 27))) := (Gr.refl _).alloc
   clear hnb hL hz hs hn
   go_enter Tryz.func30, Tryz.ntmps30
   go_wp2_with fail
   refine (HN.out _).mono ?_
   rintro e w1 ⟨rfl, hw⟩; obtain rfl := hw.symm
   go_wp2
   go_loopw [3] (fun i wr => ∃ k : Nat, k <= L.length /\ i = .int .i64 (k : Int) /\ Gr w wr /\ TwoAt wr w.heap.size (.string nm) (.slice ad L.length cap) /\ ∀ j (hj : j < L.length), j < k -> stpB L[j] = true) (fun i _ => L.length - (intOf i).toNat)
   case atStart => exact ⟨0, by omega, rfl, HG0.out, HX0.out, fun j _ h => absurd h (by omega)⟩
   case round =>
    obtain ⟨k, hk, rfl, hg, hx, hP⟩ := hrel
    have HG : Hid (Gr w wr) := hg
    have HXw := Lib.hid hx
    have HP : Hid (∀ j (hj : j < L.length), j < k -> stpB L[j] = true) := hP
    obtain ⟨u0, u1, _, _, ul⟩ := hx
    clear hg hP
    by_cases hlt : k < L.length
    ·obtain ⟨b, off, rfl, hb, x0, x1, x2, x3, x4, x5, x6⟩ := StpsAt.at (HL.out.gr HG.out) k hlt
     have HOk : Hid (∀ w', Calls Tryz.prog 59 #[.agg #[.int .i64 L[k].k, .string L[k].a, .int .i64 L[k].n, .int .i64 L[k].o, .string L[k].u, .int .i64 L[k].y, .int .i64 L[k].v]] w' fun e w2 => e = .returned (.bool (stpB L[k])) /\ Gr w' w2) := HO.out k hlt
     have HXk := Lib.hid (HX.out k hlt)
     generalize hSB : stpB L[k] = SB at *
     have HSB : Hid (∀ _h : k < L.length, stpB L[k] = SB) := fun _ => hSB
     clear hSB
     generalize L[k].k = a0 at *
     generalize L[k].a = a1 at *
     generalize L[k].n = a2 at *
     generalize L[k].o = a3 at *
     generalize L[k].u = a4 at *
     generalize L[k].y = a5 at *
     generalize L[k].v = a6 at *
     go_wp2_with fail
     refine (HOk.out _).mono ?_
     rintro e w2 ⟨rfl, hg2⟩
     have HG2 : Hid (Gr w w2) := HG.out.trans hg2
     have HX2 := Lib.hid (HXw.out.gr hg2)
     clear hg2 x0 x1 x2 x3 x4 x5 x6
     cases SB with
     | true =>
      go_wp2
      go_roundw
      case rel => exact ⟨k + 1, by omega, by go_num, HG2.out, HX2.out, fun j hj h => if e : j = k then by subst e; exact HSB.out hj else HP.out j hj (by omega)⟩
      case measure => simp [intOf]; omega
     | false =>
      have HF : Hid (CE = 90) := HXk.out rfl
      go_wp2
      go_ret
      exact ⟨by rw [HF.out]; rfl, HG2.out⟩
    ·obtain rfl : k = L.length := by omega
     have HF : Hid (CE = 0) := HY.out (fun j hj => HP.out j hj hj)
     go_wp2
     go_ret
     exact ⟨by rw [HF.out]; rfl, HG.out⟩
  ·have HF : Hid (chE nm L = 90) := Df.ch_no (by
    cases hd : Df.defB nm L with
    | false => rfl
    | true => have := (Df.def_iff nm L).1 hd; exact absurd ⟨this.2.1, this.2.2.1⟩ hlen)
   clear hnb hL hz
   by_cases k1 : (L.length : Int) < 1
   ·clear hlen
    go_enter Tryz.func30, Tryz.ntmps30
    go_wp2_with fail
    refine (HN.out _).mono ?_
    rintro e w1 ⟨rfl, hw⟩; obtain rfl := hw.symm
    go_wp2
    go_ret
    exact ⟨by rw [HF.out]; rfl, (by repeat(first|exact Gr.r _|refine Gr.a ?_|refine Gr.d ?_|refine Gr.t ?_ (by assumption)))⟩
   ·have k2 : (8 : Int) < (L.length : Int) := by
     by_cases h8 : L.length <= 8
     ·exact absurd ⟨by omega, h8⟩ hlen
     ·omega
    clear hlen
    go_enter Tryz.func30, Tryz.ntmps30
    go_wp2_with fail
    refine (HN.out _).mono ?_
    rintro e w1 ⟨rfl, hw⟩; obtain rfl := hw.symm
    go_wp2
    go_ret
    exact ⟨by rw [HF.out]; rfl, (by repeat(first|exact Gr.r _|refine Gr.a ?_|refine Gr.d ?_|refine Gr.t ?_ (by assumption)))⟩

end Go.Proofs.YthaadiclopoamaaGreatDoor
