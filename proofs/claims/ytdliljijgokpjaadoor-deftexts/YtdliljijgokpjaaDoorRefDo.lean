/- The document's reading of definitions: one step. -/
import Derived.Test.YtdliljijgokpjaaDoorRefDq
import Derived.Test.YtdliljijgokpjaaDoorDefS
import Derived.Test.YtdliljijgokpjaaDoorDefT
import Derived.Test.YtdliljijgokpjaaDoorLexE
import Derived.Test.YtdliljijgokpjaaDoorDefR
import Derived.Deep.DeepCutAuto
namespace Go.Proofs.YtdliljijgokpjaaDoor
open Go.RowKit
open Df (Stp ownB askB stpB zerB defB chE)
open _root_.Go.Proofs.YtdliljijgokpjaaDoor.Act (nameB actB chkE)


theorem stp_own {s : Stp} (h : s.u = ⟨#[]⟩) : stpB s = (actB s.k s.a s.n && decide (s.o = 0) && decide (s.v = 0) && decide (1 ≤ s.y) && decide (s.y ≤ 5)) := by
  have hn : nameB s.u = false := by rw [h]; rfl
  unfold Df.stpB Df.askB Df.ownB
  rw [hn, decide_eq_true h]
  simp [Bool.and_assoc]
theorem stp_ask {s : Stp} (h : s.u ≠ ⟨#[]⟩) : stpB s = (decide (s.k = 0) && decide (s.a = ⟨#[]⟩) && decide (s.n = 0) && decide (s.y = 0) && nameB s.u && decide (0 ≤ s.o) && decide (s.o ≤ 15) && decide (1 ≤ s.v) && decide (s.v ≤ 50)) := by
  unfold Df.stpB Df.askB Df.ownB Df.zerB
  rw [decide_eq_false h]
  cases nameB s.u <;> cases decide (s.k = 0) <;> cases decide (s.a = ⟨#[]⟩) <;> cases decide (s.n = 0) <;> cases decide (s.y = 0) <;> simp [Bool.and_assoc]

set_option maxHeartbeats 8000000 in
set_option maxRecDepth 100000 in
theorem refStep_own (s : Stp) (w : World) (hs : inS s) (hu : s.u = ⟨#[]⟩) : Calls Tryd.prog 31 #[.agg #[.int .i64 s.k, .string s.a, .int .i64 s.n, .int .i64 s.o, .string s.u, .int .i64 s.y, .int .i64 s.v]] w fun e w' => e = .returned (.bool (stpB s)) ∧ Gr w w' := by
  have HC : Hid (∀ w', Calls Tryd.prog 52 #[.agg #[.int .i64 s.k, .string s.a, .int .i64 s.n]] w' fun e w2 => e = .returned (.int .i64 (chkE s.k s.a s.n)) ∧ Gr w' w2) := fun w' => refActCheck_any s.k s.n s.a w' hs.1
  have ht := text_eq s.u []
  rw [show (⟨[].toArray⟩ : ByteArray) = ⟨#[]⟩ from rfl, decide_eq_true hu] at ht
  have HB : Hid (stpB s = (actB s.k s.a s.n && decide (s.o = 0) && decide (s.v = 0) && decide (1 ≤ s.y) && decide (s.y ≤ 5))) := stp_own hu
  have HE : Hid (chkE s.k s.a s.n = if actB s.k s.a s.n = true then 0 else 60) := rfl
  have HX0 := Lib.hid (AccAt.new w (.int .i64 s.k) (.string s.a) (.int .i64 s.n) (.int .i64 s.o) (.string s.u) (.int .i64 s.y) (.int .i64 s.v) 47 _ rfl)
  clear hs hu
  generalize stpB s = OB at *
  generalize chkE s.k s.a s.n = CE at *
  generalize actB s.k s.a s.n = AB at *
  cases AB with
  | true =>
    have e2 : CE = 0 := HE.out
    subst e2
    by_cases ho : s.o = 0
    · rw [decide_eq_true ho] at HB
      have eo : (s.o == 0) = true := by simpa using ho
      clear ho
      by_cases hv : s.v = 0
      · rw [decide_eq_true hv] at HB
        have ev : (s.v == 0) = true := by simpa using hv
        clear hv
        by_cases hp : 1 ≤ s.y
        · rw [decide_eq_true hp] at HB
          have HF : Hid (OB = decide (s.y ≤ 5)) := HB.out
          clear HB HE
          go_enter Tryd.func31, Tryd.ntmps31
          go_wp2_with fail
          refine (HC.out _).mono ?_
          rintro e w1 ⟨rfl, hg⟩
          obtain ⟨x0, x1, x2, x3, x4, x5, x6⟩ := (HX0.out.gr hg).cells
          have xl := (HX0.out.gr hg).lt
          have HG1 : Hid (Gr w w1) := (Gr.refl _).alloc.trans hg
          clear hg
          go_wp2
          go_ret
          exact ⟨by rw [HF.out]; rfl, HG1.out⟩
        · rw [decide_eq_false hp] at HB
          have HF : Hid (OB = false) := HB.out.trans (by simp)
          clear HB HE
          go_enter Tryd.func31, Tryd.ntmps31
          go_wp2_with fail
          refine (HC.out _).mono ?_
          rintro e w1 ⟨rfl, hg⟩
          obtain ⟨x0, x1, x2, x3, x4, x5, x6⟩ := (HX0.out.gr hg).cells
          have xl := (HX0.out.gr hg).lt
          have HG1 : Hid (Gr w w1) := (Gr.refl _).alloc.trans hg
          clear hg
          go_wp2
          go_ret
          exact ⟨by rw [HF.out]; rfl, HG1.out⟩
      · rw [decide_eq_false hv] at HB
        have ev : (s.v == 0) = false := by simpa using hv
        clear hv
        have HF : Hid (OB = false) := HB.out.trans (by simp)
        clear HB HE
        go_enter Tryd.func31, Tryd.ntmps31
        go_wp2_with fail
        refine (HC.out _).mono ?_
        rintro e w1 ⟨rfl, hg⟩
        obtain ⟨x0, x1, x2, x3, x4, x5, x6⟩ := (HX0.out.gr hg).cells
        have xl := (HX0.out.gr hg).lt
        have HG1 : Hid (Gr w w1) := (Gr.refl _).alloc.trans hg
        clear hg
        go_wp2
        go_ret
        exact ⟨by rw [HF.out]; rfl, HG1.out⟩
    · rw [decide_eq_false ho] at HB
      have eo : (s.o == 0) = false := by simpa using ho
      clear ho
      have HF : Hid (OB = false) := HB.out.trans (by simp)
      clear HB HE
      go_enter Tryd.func31, Tryd.ntmps31
      go_wp2_with fail
      refine (HC.out _).mono ?_
      rintro e w1 ⟨rfl, hg⟩
      obtain ⟨x0, x1, x2, x3, x4, x5, x6⟩ := (HX0.out.gr hg).cells
      have xl := (HX0.out.gr hg).lt
      have HG1 : Hid (Gr w w1) := (Gr.refl _).alloc.trans hg
      clear hg
      go_wp2
      go_ret
      exact ⟨by rw [HF.out]; rfl, HG1.out⟩
  | false =>
    have e2 : CE = 60 := HE.out
    subst e2
    have HF : Hid (OB = false) := HB.out.trans (by simp)
    clear HB HE
    go_enter Tryd.func31, Tryd.ntmps31
    go_wp2_with fail
    refine (HC.out _).mono ?_
    rintro e w1 ⟨rfl, hg⟩
    obtain ⟨x0, x1, x2, x3, x4, x5, x6⟩ := (HX0.out.gr hg).cells
    have xl := (HX0.out.gr hg).lt
    have HG1 : Hid (Gr w w1) := (Gr.refl _).alloc.trans hg
    clear hg
    go_wp2
    go_ret
    exact ⟨by rw [HF.out]; rfl, HG1.out⟩

set_option maxHeartbeats 8000000 in
set_option maxRecDepth 100000 in
theorem refStep_ask (s : Stp) (w : World) (hs : inS s) (hu : s.u ≠ ⟨#[]⟩) : Calls Tryd.prog 31 #[.agg #[.int .i64 s.k, .string s.a, .int .i64 s.n, .int .i64 s.o, .string s.u, .int .i64 s.y, .int .i64 s.v]] w fun e w' => e = .returned (.bool (stpB s)) ∧ Gr w w' := by
  have HN : Hid (∀ w', Calls Tryd.prog 30 #[.string s.u] w' fun e w2 => e = .returned (.bool (nameB s.u)) ∧ w2 = w') := fun w' => refName_any s.u w' hs.2.1
  have ht := text_eq s.u []
  rw [show (⟨[].toArray⟩ : ByteArray) = ⟨#[]⟩ from rfl, decide_eq_false hu] at ht
  have ta := text_eq s.a []
  rw [show (⟨[].toArray⟩ : ByteArray) = ⟨#[]⟩ from rfl] at ta
  have HB : Hid (stpB s = (decide (s.k = 0) && decide (s.a = ⟨#[]⟩) && decide (s.n = 0) && decide (s.y = 0) && nameB s.u && decide (0 ≤ s.o) && decide (s.o ≤ 15) && decide (1 ≤ s.v) && decide (s.v ≤ 50))) := stp_ask hu
  clear hs hu
  generalize stpB s = OB at *
  generalize nameB s.u = NB at *
  by_cases hk : s.k = 0
  · rw [decide_eq_true hk] at HB
    have ek : (s.k == 0) = true := by simpa using hk
    clear hk
    by_cases ha : s.a = ⟨#[]⟩
    · rw [decide_eq_true ha] at HB ta
      have ea : (s.a.toList == []) = true := ta
      clear ha ta
      by_cases hn : s.n = 0
      · rw [decide_eq_true hn] at HB
        have en : (s.n == 0) = true := by simpa using hn
        clear hn
        by_cases hy : s.y = 0
        · rw [decide_eq_true hy] at HB
          have ey : (s.y == 0) = true := by simpa using hy
          clear hy
          cases NB with
          | true =>
            by_cases ho : 0 ≤ s.o
            · rw [decide_eq_true ho] at HB
              by_cases hp : s.o ≤ 15
              · rw [decide_eq_true hp] at HB
                by_cases hv : 1 ≤ s.v
                · rw [decide_eq_true hv] at HB
                  have HF : Hid (OB = decide (s.v ≤ 50)) := HB.out
                  clear HB
                  go_enter Tryd.func31, Tryd.ntmps31
                  go_wp2_with fail
                  refine (HN.out _).mono ?_
                  rintro e w1 ⟨rfl, hw⟩; obtain rfl := hw.symm
                  go_wp2
                  go_ret
                  exact ⟨by rw [HF.out]; rfl, (by repeat (first | exact Gr.refl _ | refine Gr.alloc ?_ | refine Gr.drew ?_ | refine Gr.trans ?_ (by assumption)))⟩
                · rw [decide_eq_false hv] at HB
                  have HF : Hid (OB = false) := HB.out.trans (by simp)
                  clear HB
                  go_enter Tryd.func31, Tryd.ntmps31
                  go_wp2_with fail
                  refine (HN.out _).mono ?_
                  rintro e w1 ⟨rfl, hw⟩; obtain rfl := hw.symm
                  go_wp2
                  go_ret
                  exact ⟨by rw [HF.out]; rfl, (by repeat (first | exact Gr.refl _ | refine Gr.alloc ?_ | refine Gr.drew ?_ | refine Gr.trans ?_ (by assumption)))⟩
              · rw [decide_eq_false hp] at HB
                have HF : Hid (OB = false) := HB.out.trans (by simp)
                clear HB
                go_enter Tryd.func31, Tryd.ntmps31
                go_wp2_with fail
                refine (HN.out _).mono ?_
                rintro e w1 ⟨rfl, hw⟩; obtain rfl := hw.symm
                go_wp2
                go_ret
                exact ⟨by rw [HF.out]; rfl, (by repeat (first | exact Gr.refl _ | refine Gr.alloc ?_ | refine Gr.drew ?_ | refine Gr.trans ?_ (by assumption)))⟩
            · rw [decide_eq_false ho] at HB
              have HF : Hid (OB = false) := HB.out.trans (by simp)
              clear HB
              go_enter Tryd.func31, Tryd.ntmps31
              go_wp2_with fail
              refine (HN.out _).mono ?_
              rintro e w1 ⟨rfl, hw⟩; obtain rfl := hw.symm
              go_wp2
              go_ret
              exact ⟨by rw [HF.out]; rfl, (by repeat (first | exact Gr.refl _ | refine Gr.alloc ?_ | refine Gr.drew ?_ | refine Gr.trans ?_ (by assumption)))⟩
          | false =>
            have HF : Hid (OB = false) := HB.out.trans (by simp)
            clear HB
            go_enter Tryd.func31, Tryd.ntmps31
            go_wp2_with fail
            refine (HN.out _).mono ?_
            rintro e w1 ⟨rfl, hw⟩; obtain rfl := hw.symm
            go_wp2
            go_ret
            exact ⟨by rw [HF.out]; rfl, (by repeat (first | exact Gr.refl _ | refine Gr.alloc ?_ | refine Gr.drew ?_ | refine Gr.trans ?_ (by assumption)))⟩
        · rw [decide_eq_false hy] at HB
          have ey : (s.y == 0) = false := by simpa using hy
          clear hy
          have HF : Hid (OB = false) := HB.out.trans (by simp)
          clear HB
          go_enter Tryd.func31, Tryd.ntmps31
          go_wp2
          go_ret
          exact ⟨by rw [HF.out]; rfl, (by repeat (first | exact Gr.refl _ | refine Gr.alloc ?_ | refine Gr.drew ?_ | refine Gr.trans ?_ (by assumption)))⟩
      · rw [decide_eq_false hn] at HB
        have en : (s.n == 0) = false := by simpa using hn
        clear hn
        have HF : Hid (OB = false) := HB.out.trans (by simp)
        clear HB
        go_enter Tryd.func31, Tryd.ntmps31
        go_wp2
        go_ret
        exact ⟨by rw [HF.out]; rfl, (by repeat (first | exact Gr.refl _ | refine Gr.alloc ?_ | refine Gr.drew ?_ | refine Gr.trans ?_ (by assumption)))⟩
    · rw [decide_eq_false ha] at HB ta
      have ea : (s.a.toList == []) = false := ta
      clear ha ta
      have HF : Hid (OB = false) := HB.out.trans (by simp)
      clear HB
      go_enter Tryd.func31, Tryd.ntmps31
      go_wp2
      go_ret
      exact ⟨by rw [HF.out]; rfl, (by repeat (first | exact Gr.refl _ | refine Gr.alloc ?_ | refine Gr.drew ?_ | refine Gr.trans ?_ (by assumption)))⟩
  · rw [decide_eq_false hk] at HB
    have ek : (s.k == 0) = false := by simpa using hk
    clear hk
    clear ta
    have HF : Hid (OB = false) := HB.out.trans (by simp)
    clear HB
    go_enter Tryd.func31, Tryd.ntmps31
    go_wp2
    go_ret
    exact ⟨by rw [HF.out]; rfl, (by repeat (first | exact Gr.refl _ | refine Gr.alloc ?_ | refine Gr.drew ?_ | refine Gr.trans ?_ (by assumption)))⟩

theorem refStep_any (s : Stp) (w : World) (hs : inS s) : Calls Tryd.prog 31 #[.agg #[.int .i64 s.k, .string s.a, .int .i64 s.n, .int .i64 s.o, .string s.u, .int .i64 s.y, .int .i64 s.v]] w fun e w' => e = .returned (.bool (stpB s)) ∧ Gr w w' := by
  by_cases hu : s.u = ⟨#[]⟩
  · exact refStep_own s w hs hu
  · exact refStep_ask s w hs hu

set_option maxHeartbeats 4000000 in
set_option maxRecDepth 100000 in
theorem refDCheck_any (nm : ByteArray) (L : List Stp) (ad : Option Addr) (cap : Nat) (w : World) (hL : StpsAt w ad L) (hs : nm.size ≤ 9223372036854775807) (hn : L.length ≤ 9223372036854775807) (hz : ∀ s ∈ L, inS s) :
    Calls Tryd.prog 13 #[.agg #[.string nm, .slice ad L.length cap]] w fun e w' => e = .returned (.int .i64 (chE nm L)) ∧ Gr w w' := by
  have HN : Hid (∀ w', Calls Tryd.prog 30 #[.string nm] w' fun e w2 => e = .returned (.bool (nameB nm)) ∧ w2 = w') := fun w' => refName_any nm w' hs
  have HO : Hid (∀ (j : Nat) (h : j < L.length) (w' : World), Calls Tryd.prog 31 #[.agg #[.int .i64 L[j].k, .string L[j].a, .int .i64 L[j].n, .int .i64 L[j].o, .string L[j].u, .int .i64 L[j].y, .int .i64 L[j].v]] w' fun e w2 => e = .returned (.bool (stpB L[j])) ∧ Gr w' w2) := fun j h w' => refStep_any L[j] w' (hz _ (List.getElem_mem h))
  have HL : Hid (StpsAt w ad L) := hL
  have HX0 := Lib.hid (TwoAt.new w (.string nm) (.slice ad L.length cap) 24 _ rfl)
  cases hnb : nameB nm with
  | false =>
    have HF : Hid (chE nm L = 90) := Df.ch_no (by unfold Df.defB; rw [hnb]; rfl)
    rw [hnb] at HN
    clear hnb hL hz
    go_enter Tryd.func13, Tryd.ntmps13
    go_wp2_with fail
    refine (HN.out _).mono ?_
    rintro e w1 ⟨rfl, hw⟩; obtain rfl := hw.symm
    go_wp2
    go_ret
    exact ⟨by rw [HF.out]; rfl, (by repeat (first | exact Gr.refl _ | refine Gr.alloc ?_ | refine Gr.drew ?_ | refine Gr.trans ?_ (by assumption)))⟩
  | true =>
    rw [hnb] at HN
    by_cases hlen : 1 ≤ L.length ∧ L.length ≤ 8
    · have HY : Hid ((∀ j (hj : j < L.length), stpB L[j] = true) → chE nm L = 0) := fun h => Df.ch_yes (def_idx hnb hlen.1 hlen.2 h)
      have HX : Hid (∀ j (hj : j < L.length), stpB L[j] = false → chE nm L = 90) := fun j hj h => Df.ch_no (def_nidx j hj h)
      obtain ⟨l1, l8⟩ := hlen
      have k1 : ¬ (L.length : Int) < 1 := by omega
      have k2 : ¬ (8 : Int) < (L.length : Int) := by omega
      generalize chE nm L = CE at *
      have HG0 : Hid (Gr w (w.alloc (.cells #[.string nm, .slice ad L.length cap] 24))) := (Gr.refl _).alloc
      clear hnb hL hz hs hn
      go_enter Tryd.func13, Tryd.ntmps13
      go_wp2_with fail
      refine (HN.out _).mono ?_
      rintro e w1 ⟨rfl, hw⟩; obtain rfl := hw.symm
      go_wp2
      go_loopw [3] (fun i wr => ∃ k : Nat, k ≤ L.length ∧ i = .int .i64 (k : Int) ∧ Gr w wr ∧ TwoAt wr w.heap.size (.string nm) (.slice ad L.length cap) ∧ ∀ j (hj : j < L.length), j < k → stpB L[j] = true) (fun i _ => L.length - (intOf i).toNat)
      case atStart => exact ⟨0, by omega, rfl, HG0.out, HX0.out, fun j _ h => absurd h (by omega)⟩
      case round =>
        obtain ⟨k, hk, rfl, hg, hx, hP⟩ := hrel
        have HG : Hid (Gr w wr) := hg
        have HXw := Lib.hid hx
        have HP : Hid (∀ j (hj : j < L.length), j < k → stpB L[j] = true) := hP
        obtain ⟨u0, u1, _, _, ul⟩ := hx
        clear hg hP
        by_cases hlt : k < L.length
        · obtain ⟨b, off, rfl, hb, x0, x1, x2, x3, x4, x5, x6⟩ := StpsAt.at (HL.out.gr HG.out) k hlt
          have HOk : Hid (∀ w', Calls Tryd.prog 31 #[.agg #[.int .i64 L[k].k, .string L[k].a, .int .i64 L[k].n, .int .i64 L[k].o, .string L[k].u, .int .i64 L[k].y, .int .i64 L[k].v]] w' fun e w2 => e = .returned (.bool (stpB L[k])) ∧ Gr w' w2) := HO.out k hlt
          have HXk := Lib.hid (HX.out k hlt)
          generalize hSB : stpB L[k] = SB at *
          have HSB : Hid (∀ _h : k < L.length, stpB L[k] = SB) := fun _ => hSB
          clear hSB
          generalize L[k].k = a0 at *
          generalize L[k].a = a1 at *
          generalize L[k].n = a2 at *
          generalize L[k].o = a3 at *
          generalize L[k].u = a4 at *
          generalize L[k].y = a5 at *
          generalize L[k].v = a6 at *
          go_wp2_with fail
          refine (HOk.out _).mono ?_
          rintro e w2 ⟨rfl, hg2⟩
          have HG2 : Hid (Gr w w2) := HG.out.trans hg2
          have HX2 := Lib.hid (HXw.out.gr hg2)
          clear hg2 x0 x1 x2 x3 x4 x5 x6
          cases SB with
          | true =>
            go_wp2
            go_roundw
            case rel => exact ⟨k + 1, by omega, by go_num, HG2.out, HX2.out, fun j hj h => if e : j = k then by subst e; exact HSB.out hj else HP.out j hj (by omega)⟩
            case measure => simp [intOf]; omega
          | false =>
            have HF : Hid (CE = 90) := HXk.out rfl
            go_wp2
            go_ret
            exact ⟨by rw [HF.out]; rfl, HG2.out⟩
        · obtain rfl : k = L.length := by omega
          have HF : Hid (CE = 0) := HY.out (fun j hj => HP.out j hj hj)
          go_wp2
          go_ret
          exact ⟨by rw [HF.out]; rfl, HG.out⟩
    · have HF : Hid (chE nm L = 90) := Df.ch_no (by
        cases hd : Df.defB nm L with
        | false => rfl
        | true => have := (Df.def_iff nm L).1 hd; exact absurd ⟨this.2.1, this.2.2.1⟩ hlen)
      clear hnb hL hz
      by_cases k1 : (L.length : Int) < 1
      · clear hlen
        go_enter Tryd.func13, Tryd.ntmps13
        go_wp2_with fail
        refine (HN.out _).mono ?_
        rintro e w1 ⟨rfl, hw⟩; obtain rfl := hw.symm
        go_wp2
        go_ret
        exact ⟨by rw [HF.out]; rfl, (by repeat (first | exact Gr.refl _ | refine Gr.alloc ?_ | refine Gr.drew ?_ | refine Gr.trans ?_ (by assumption)))⟩
      · have k2 : (8 : Int) < (L.length : Int) := by
          by_cases h8 : L.length ≤ 8
          · exact absurd ⟨by omega, h8⟩ hlen
          · omega
        clear hlen
        go_enter Tryd.func13, Tryd.ntmps13
        go_wp2_with fail
        refine (HN.out _).mono ?_
        rintro e w1 ⟨rfl, hw⟩; obtain rfl := hw.symm
        go_wp2
        go_ret
        exact ⟨by rw [HF.out]; rfl, (by repeat (first | exact Gr.refl _ | refine Gr.alloc ?_ | refine Gr.drew ?_ | refine Gr.trans ?_ (by assumption)))⟩

theorem sam_ref (n1 : ByteArray) (L1 : List Stp) (n2 : ByteArray) (L2 : List Stp) : samB n1 L1 n2 L2 = (defB n1 L1 && (defB n2 L2 && eqD n1 L1 n2 L2)) := by
  unfold samB eqD
  by_cases hq : n1 = n2
  · cases he : eqL L1 L2 with
    | true =>
      have := (eqL_iff L1 L2).1 he
      subst hq this
      cases defB n1 L1 <;> simp
    | false => simp
  · rw [decide_eq_false hq]; simp

set_option maxHeartbeats 4000000 in
set_option maxRecDepth 100000 in
theorem refDSame_any (n1 : ByteArray) (L1 : List Stp) (ad1 : Option Addr) (cap1 : Nat) (n2 : ByteArray) (L2 : List Stp) (ad2 : Option Addr) (cap2 : Nat) (w : World) (h1 : StpsAt w ad1 L1) (h2 : StpsAt w ad2 L2) (hs1 : n1.size ≤ 9223372036854775807) (hs2 : n2.size ≤ 9223372036854775807) (hn1 : L1.length ≤ 9223372036854775807) (hn2 : L2.length ≤ 9223372036854775807) (hz1 : ∀ s ∈ L1, inS s) (hz2 : ∀ s ∈ L2, inS s) :
    Calls Tryd.prog 15 #[.agg #[.string n1, .slice ad1 L1.length cap1], .agg #[.string n2, .slice ad2 L2.length cap2]] w fun e w' => e = .returned (.bool (samB n1 L1 n2 L2)) ∧ Gr w w' := by
  rw [sam_ref]
  have HC1 : Hid (∀ w', Gr w w' → Calls Tryd.prog 13 #[.agg #[.string n1, .slice ad1 L1.length cap1]] w' fun e w2 => e = .returned (.int .i64 (chE n1 L1)) ∧ Gr w' w2) := fun w' g => refDCheck_any n1 L1 ad1 cap1 w' (h1.gr g) hs1 hn1 hz1
  have HC2 : Hid (∀ w', Gr w w' → Calls Tryd.prog 13 #[.agg #[.string n2, .slice ad2 L2.length cap2]] w' fun e w2 => e = .returned (.int .i64 (chE n2 L2)) ∧ Gr w' w2) := fun w' g => refDCheck_any n2 L2 ad2 cap2 w' (h2.gr g) hs2 hn2 hz2
  have HE : Hid (∀ w', Gr w w' → Calls Tryd.prog 18 #[.agg #[.string n1, .slice ad1 L1.length cap1], .agg #[.string n2, .slice ad2 L2.length cap2]] w' fun e w2 => e = .returned (.bool (eqD n1 L1 n2 L2)) ∧ Gr w' w2) := fun w' g => refEqual_any n1 L1 ad1 cap1 n2 L2 ad2 cap2 w' (h1.gr g) (h2.gr g) hn1
  have HX0 := Lib.hid ((TwoAt.new w (.string n1) (.slice ad1 L1.length cap1) 24 _ rfl).gr (Gr.refl _).alloc (w' := (w.alloc (.cells #[.string n1, .slice ad1 L1.length cap1] 24)).alloc (.cells #[.string n2, .slice ad2 L2.length cap2] 24)))
  have HY0 := Lib.hid (TwoAt.new (w.alloc (.cells #[.string n1, .slice ad1 L1.length cap1] 24)) (.string n2) (.slice ad2 L2.length cap2) 24 (w.heap.size + 1) (by simp))
  have HE1 : Hid (chE n1 L1 = if defB n1 L1 = true then 0 else 90) := rfl
  have HE2 : Hid (chE n2 L2 = if defB n2 L2 = true then 0 else 90) := rfl
  generalize chE n1 L1 = C1 at *
  generalize chE n2 L2 = C2 at *
  generalize defB n1 L1 = D1 at *
  generalize defB n2 L2 = D2 at *
  generalize eqD n1 L1 n2 L2 = EB at *
  clear h1 h2 hs1 hs2 hn1 hn2 hz1 hz2
  cases D1 with
  | false =>
    obtain rfl : C1 = 90 := HE1.out
    clear HE1 HE2
    go_enter Tryd.func15, Tryd.ntmps15
    go_wp2_with fail
    refine (HC1.out _ (by repeat (first | exact Gr.refl _ | refine Gr.alloc ?_ | refine Gr.drew ?_ | refine Gr.trans ?_ (by assumption)))).mono ?_
    rintro e w1 ⟨rfl, hg⟩
    have HG1 : Hid (Gr w w1) := (Gr.refl _).alloc.alloc.trans hg
    clear hg
    go_wp2
    go_ret
    exact ⟨rfl, HG1.out⟩
  | true =>
    obtain rfl : C1 = 0 := HE1.out
    clear HE1
    cases D2 with
    | false =>
      obtain rfl : C2 = 90 := HE2.out
      clear HE2
      go_enter Tryd.func15, Tryd.ntmps15
      go_wp2_with fail
      refine (HC1.out _ (by repeat (first | exact Gr.refl _ | refine Gr.alloc ?_ | refine Gr.drew ?_ | refine Gr.trans ?_ (by assumption)))).mono ?_
      rintro e w1 ⟨rfl, hg⟩
      have HG1 : Hid (Gr w w1) := (Gr.refl _).alloc.alloc.trans hg
      obtain ⟨y0, y1, _, _, yl⟩ := HY0.out.gr hg
      clear hg
      go_wp2_with fail
      refine (HC2.out _ HG1.out).mono ?_
      rintro e w2 ⟨rfl, hg⟩
      have HG2 : Hid (Gr w w2) := HG1.out.trans hg
      clear hg
      go_wp2
      go_ret
      exact ⟨rfl, HG2.out⟩
    | true =>
      obtain rfl : C2 = 0 := HE2.out
      clear HE2
      go_enter Tryd.func15, Tryd.ntmps15
      go_wp2_with fail
      refine (HC1.out _ (by repeat (first | exact Gr.refl _ | refine Gr.alloc ?_ | refine Gr.drew ?_ | refine Gr.trans ?_ (by assumption)))).mono ?_
      rintro e w1 ⟨rfl, hg⟩
      have HG1 : Hid (Gr w w1) := (Gr.refl _).alloc.alloc.trans hg
      have HX1 := Lib.hid (HX0.out.gr hg)
      have HY1 := Lib.hid (HY0.out.gr hg)
      obtain ⟨y0, y1, _, _, yl⟩ := HY1.out
      clear hg
      go_wp2_with fail
      refine (HC2.out _ HG1.out).mono ?_
      rintro e w2 ⟨rfl, hg⟩
      have HG2 : Hid (Gr w w2) := HG1.out.trans hg
      obtain ⟨x0, x1, _, _, xl⟩ := HX1.out.gr hg
      obtain ⟨z0, z1, _, _, zl⟩ := HY1.out.gr hg
      clear hg y0 y1 yl
      go_wp2_with fail
      refine (HE.out _ HG2.out).mono ?_
      rintro e w3 ⟨rfl, hg⟩
      have HG3 : Hid (Gr w w3) := HG2.out.trans hg
      clear hg
      go_wp2
      go_ret
      exact ⟨rfl, HG3.out⟩
end Go.Proofs.YtdliljijgokpjaaDoor
namespace Go.Proofs.YtdliljijgokpjaaDoor
open Go.RowKit
open Lex (Tok valE valB)
open Df (Stp tk isT kw wk sm opt Gd)

theorem refIs_any (x : Tok) (k : Int) (s : ByteArray) (w : World) : Calls Tryd.prog 38 #[.agg #[.int .i64 x.k, .string x.t, .int .i64 x.p], .int .i64 k, .string s] w fun e w' => e = .returned (.bool (isT x k s)) ∧ Gr w w' := by
  have ht := text_eq x.t s.data.toList
  rw [Lex.bytes_list, ← show s.toList = s.data.toList from ByteArray.toList_eq s] at ht
  have HB : Hid (isT x k s = (decide (x.k = k) && decide (x.t = s))) := rfl
  generalize isT x k s = IB at *
  by_cases h1 : x.k = k
  · have e1 : (x.k == k) = true := by simpa using h1
    rw [decide_eq_true h1] at HB
    by_cases h2 : x.t = s
    · rw [decide_eq_true h2] at HB ht
      have HF : Hid (IB = true) := HB.out
      clear HB h1 h2
      go_enter Tryd.func38, Tryd.ntmps38
      go_wp2
      go_ret
      exact ⟨by rw [HF.out]; rfl, (by repeat (first | exact Gr.refl _ | refine Gr.alloc ?_ | refine Gr.drew ?_ | refine Gr.trans ?_ (by assumption)))⟩
    · rw [decide_eq_false h2] at HB ht
      have HF : Hid (IB = false) := HB.out
      clear HB h1 h2
      go_enter Tryd.func38, Tryd.ntmps38
      go_wp2
      go_ret
      exact ⟨by rw [HF.out]; rfl, (by repeat (first | exact Gr.refl _ | refine Gr.alloc ?_ | refine Gr.drew ?_ | refine Gr.trans ?_ (by assumption)))⟩
  · have e1 : (x.k == k) = false := by simpa using h1
    rw [decide_eq_false h1] at HB
    have HF : Hid (IB = false) := HB.out
    clear HB h1 ht
    go_enter Tryd.func38, Tryd.ntmps38
    go_wp2
    go_ret
    exact ⟨by rw [HF.out]; rfl, (by repeat (first | exact Gr.refl _ | refine Gr.alloc ?_ | refine Gr.drew ?_ | refine Gr.trans ?_ (by assumption)))⟩

theorem refWords_any (w : World) : Calls Tryd.prog 23 #[] w fun e w' => e = .returned (.slice (some ⟨w.heap.size, 0, none⟩) 5 5) ∧ StrsIn w' w.heap.size [⟨#[]⟩, Df.wDebit, Df.wCredit, Df.wReserve, Df.wRelease] ∧ w.heap.size < w'.heap.size ∧ Gr w w' := by
  have HS := Lib.hid (fun t => strs_new w ⟨#[]⟩ Df.wDebit Df.wCredit Df.wReserve Df.wRelease t)
  go_enter Tryd.func23, Tryd.ntmps23
  go_wp2
  go_ret
  exact ⟨rfl, HS.out _, by simp, (by repeat (first | exact Gr.refl _ | refine Gr.alloc ?_ | refine Gr.drew ?_ | refine Gr.trans ?_ (by assumption)))⟩
theorem words_at {w : World} {g : Nat} (h : StrsIn w g [⟨#[]⟩, Df.wDebit, Df.wCredit, Df.wReserve, Df.wRelease]) (k : Nat) (h1 : 1 ≤ k) (h4 : k ≤ 4) : w.cell? ⟨g, k, none⟩ = some (.string (wk (k : Int))) := by
  rcases (by omega : k = 1 ∨ k = 2 ∨ k = 3 ∨ k = 4) with rfl | rfl | rfl | rfl
  · exact h 1 _ rfl
  · exact h 2 _ rfl
  · exact h 3 _ rfl
  · exact h 4 _ rfl
theorem kw_none {s : ByteArray} (h : ∀ j : Nat, 1 ≤ j → j < 5 → wk (j : Int) ≠ s) : kw s = 0 := by
  by_cases h0 : kw s = 0
  · exact h0
  · have hr := Df.kw_range s
    have := wk_kw s h0
    refine absurd this ?_
    have e : kw s = ((kw s).toNat : Int) := by omega
    rw [e]
    exact h _ (by omega) (by omega)

set_option maxHeartbeats 4000000 in
set_option maxRecDepth 100000 in
theorem refKind_any (s : ByteArray) (w : World) : Calls Tryd.prog 60 #[.string s] w fun e w' => e = .returned (.int .i64 (kw s)) ∧ Gr w w' := by
  have HW : Hid (∀ w' : World, Calls Tryd.prog 23 #[] w' fun e w2 => e = .returned (.slice (some ⟨w'.heap.size, 0, none⟩) 5 5) ∧ StrsIn w2 w'.heap.size [⟨#[]⟩, Df.wDebit, Df.wCredit, Df.wReserve, Df.wRelease] ∧ w'.heap.size < w2.heap.size ∧ Gr w' w2) := refWords_any
  have HN : Hid ((∀ j : Nat, 1 ≤ j → j < 5 → wk (j : Int) ≠ s) → kw s = 0) := kw_none
  have HY : Hid (∀ j : Nat, 1 ≤ j → j < 5 → wk (j : Int) = s → kw s = j) := fun j h1 h4 e => by rw [← e, kw_wk _ (by omega) (by omega)]
  generalize kw s = KW at *
  go_enter Tryd.func60, Tryd.ntmps60
  go_wp2_with fail
  refine (HW.out _).mono ?_
  rintro e w1 ⟨rfl, hst, hlt, hg⟩
  have HS1 := Lib.hid hst
  have HG1 : Hid (Gr w w1) := hg
  clear hst hg HW
  go_wp2
  go_loopw [4] (fun i wr => ∃ k : Nat, 1 ≤ k ∧ k ≤ 5 ∧ i = .int .i64 (k : Int) ∧ wr = w1 ∧ ∀ j : Nat, 1 ≤ j → j < k → wk (j : Int) ≠ s) (fun i _ => 5 - (intOf i).toNat)
  case atStart => exact ⟨1, by omega, by omega, rfl, rfl, fun j h1 h2 => absurd h2 (by omega)⟩
  case round =>
    obtain ⟨k, hk1, hk5, rfl, hwr, hA⟩ := hrel
    have HA : Hid (∀ j : Nat, 1 ≤ j → j < k → wk (j : Int) ≠ s) := hA
    clear hA
    obtain ⟨wz, rfl⟩ : ∃ x, x = wr := ⟨_, rfl⟩
    by_cases hlt5 : k < 5
    · have hc := words_at HS1.out k hk1 (by omega)
      rw [← hwr] at hc hlt
      have ht := text_eq (wk (k : Int)) s.data.toList
      rw [Lex.bytes_list, ← show s.toList = s.data.toList from ByteArray.toList_eq s] at ht
      have h5i : (k : Int) < 5 := by omega
      have HYk := HY.out k hk1 hlt5
      generalize hX : wk (k : Int) = X at *
      by_cases hx : X = s
      · rw [decide_eq_true hx] at ht
        have HF : Hid (KW = (k : Int)) := HYk hx
        have HGz : Hid (Gr w wz) := by rw [hwr]; exact HG1.out
        clear hx hX HYk hwr
        go_wp2
        go_ret
        exact ⟨by rw [HF.out]; rfl, HGz.out⟩
      · rw [decide_eq_false hx] at ht
        have HX : Hid (wk (k : Int) ≠ s) := by rw [hX]; exact hx
        have HWR := Lib.hid hwr
        clear hx hX HYk hwr
        go_wp2
        go_roundw
        case rel => exact ⟨k + 1, by omega, by omega, by go_num, HWR.out, fun j h1 h2 => if e : j = k then by subst e; exact HX.out else HA.out j h1 (by omega)⟩
        case measure => simp [intOf]; omega
    · obtain rfl : k = 5 := by omega
      have HF : Hid (KW = 0) := HN.out HA.out
      have HGz : Hid (Gr w wz) := by rw [hwr]; exact HG1.out
      clear hwr
      go_wp2
      go_ret
      exact ⟨by rw [HF.out]; rfl, HGz.out⟩

set_option maxHeartbeats 2000000 in
theorem rdSmall_any (x : Tok) (w : World) (hk : x.k = 2) (hs : x.t.size ≤ 16) : Calls Tryd.prog 61 #[.agg #[.int .i64 x.k, .string x.t, .int .i64 x.p]] w fun e w' => e = .returned (.int .i64 (sm x.t)) ∧ Gr w w' := by
  have HV : Hid (∀ w', Calls Tryd.prog 63 #[.agg #[.int .i64 x.k, .string x.t, .int .i64 x.p]] w' fun e w2 => e = .returned (.tuple #[.int .i64 (valE x.k x.t), .bool (valB x.k x.t)]) ∧ Gr w' w2) := fun w' => refValue_any x.k x.t x.p w' (by omega)
  have HS : Hid (sm x.t = if 9 < x.t.size then -1 else valE x.k x.t) := by show _ = _; rw [hk]; rfl
  generalize sm x.t = SM at *
  generalize valE x.k x.t = VE at *
  generalize valB x.k x.t = VB at *
  clear hk
  by_cases h9 : 9 < x.t.size
  · have h9i : (9 : Int) < (x.t.size : Int) := by omega
    rw [if_pos h9] at HS
    clear HV
    go_enter Tryd.func61, Tryd.ntmps61
    go_wp2
    go_ret
    exact ⟨by rw [HS.out]; rfl, (by repeat (first | exact Gr.refl _ | refine Gr.alloc ?_ | refine Gr.drew ?_ | refine Gr.trans ?_ (by assumption)))⟩
  · have h9i : ¬ (9 : Int) < (x.t.size : Int) := by omega
    rw [if_neg h9] at HS
    go_enter Tryd.func61, Tryd.ntmps61
    go_wp2_with fail
    refine (HV.out _).mono ?_
    rintro e w1 ⟨rfl, hg⟩
    have HG1 : Hid (Gr w w1) := (Gr.refl _).alloc.trans hg
    clear hg
    go_wp2
    go_ret
    exact ⟨by rw [HS.out]; rfl, HG1.out⟩

def optI (o : Option Int) : Int := match o with | none => 0 | some n => n
set_option maxHeartbeats 4000000 in
set_option maxRecDepth 100000 in
theorem refMaybe_any (T : List Tok) (ad : Option Addr) (cap : Nat) (i : Nat) (wd : ByteArray) (n : Int) (w : World) (hT : ToksAt w ad T) (hG : Gd T) (hi : i < T.length) (hn : T.length ≤ 5000) :
    Calls Tryd.prog 62 #[.slice ad T.length cap, .int .i64 (i : Int), .string wd, .int .i64 n] w fun e w' => e = .returned (.tuple #[.int .i64 (optI (opt T i wd n).2), .int .i64 ((opt T i wd n).1 : Int), .bool (opt T i wd n).2.isSome]) ∧ Gr w w' := by
  have HI : Hid (∀ w', Calls Tryd.prog 38 #[.agg #[.int .i64 (tk T i).k, .string (tk T i).t, .int .i64 (tk T i).p], .int .i64 1, .string wd] w' fun e w2 => e = .returned (.bool (isT (tk T i) 1 wd)) ∧ Gr w' w2) := fun w' => refIs_any (tk T i) 1 wd w'
  obtain ⟨b, off, rfl, hb, c0, c1, c2⟩ := hT i hi
  rw [← Df.tk_get T i hi] at c0 c1 c2
  cases h1 : isT (tk T i) 1 wd with
  | true =>
    rw [h1] at HI
    have hx := hG.next (i := i) (by rw [((Df.isT_iff _ _ _).1 h1).1]; decide)
    have hT1 := Lib.hid hT
    obtain ⟨b', off', e', _, d0, d1, d2⟩ := hT (i + 1) hx
    cases e'
    rw [← Df.tk_get T (i + 1) hx] at d0 d1 d2
    have e1 : wrap64 ((i : Int) + 1) = ((i + 1 : Nat) : Int) := by unfold wrap64; omega
    have e2 : wrap64 ((i : Int) + 2) = ((i + 2 : Nat) : Int) := by unfold wrap64; omega
    have hj1 : ((i + 1 : Nat) : Int) < (T.length : Int) := by omega
    by_cases h2 : (tk T (i + 1)).k = 2
    · have HO : Hid (opt T i wd n = (i + 2, some (sm (tk T (i + 1)).t))) := by show _ = _; unfold Df.opt; rw [if_pos h1, if_pos h2]
      have HSM : Hid (∀ w', Calls Tryd.prog 61 #[.agg #[.int .i64 (tk T (i + 1)).k, .string (tk T (i + 1)).t, .int .i64 (tk T (i + 1)).p]] w' fun e w2 => e = .returned (.int .i64 (sm (tk T (i + 1)).t)) ∧ Gr w' w2) := fun w' => rdSmall_any _ w' h2 (hG.size _)
      have e3 : ((tk T (i + 1)).k != 2) = false := by simpa using h2
      generalize opt T i wd n = OO at *
      generalize sm (tk T (i + 1)).t = SM at *
      generalize tk T i = x at *
      generalize tk T (i + 1) = y at *
      obtain ⟨xk, xt, xp⟩ := x
      obtain ⟨yk, yt, yp⟩ := y
      simp only at *
      subst h2
      clear h1 hT hG e1 e2 e3 hj1
      go_enter Tryd.func62, Tryd.ntmps62
      go_wp2_with fail
      refine (HI.out _).mono ?_
      rintro e w1 ⟨rfl, hg⟩
      have HG1 : Hid (Gr w w1) := hg
      replace d0 := hg.keep d0
      replace d1 := hg.keep d1
      replace d2 := hg.keep d2
      have hb1 : b < w1.heap.size := Nat.lt_of_lt_of_le hb hg.size
      clear hg c0 c1 c2
      go_wp2_with fail
      refine (HSM.out _).mono ?_
      rintro e w2 ⟨rfl, hg⟩
      have HG2 : Hid (Gr w w2) := HG1.out.trans hg
      clear hg
      go_wp2
      go_ret3
      exact ⟨by rw [HO.out]; rfl, HG2.out⟩
    · have HO : Hid (opt T i wd n = (i + 1, none)) := by show _ = _; unfold Df.opt; rw [if_pos h1, if_neg h2]
      have e3 : ((tk T (i + 1)).k != 2) = true := by simpa using h2
      generalize opt T i wd n = OO at *
      generalize tk T i = x at *
      generalize tk T (i + 1) = y at *
      obtain ⟨xk, xt, xp⟩ := x
      obtain ⟨yk, yt, yp⟩ := y
      simp only at *
      clear h1 hT hG h2 e1 e2 hj1
      go_enter Tryd.func62, Tryd.ntmps62
      go_wp2_with fail
      refine (HI.out _).mono ?_
      rintro e w1 ⟨rfl, hg⟩
      have HG1 : Hid (Gr w w1) := hg
      replace d0 := hg.keep d0
      replace d1 := hg.keep d1
      replace d2 := hg.keep d2
      have hb1 : b < w1.heap.size := Nat.lt_of_lt_of_le hb hg.size
      clear hg c0 c1 c2
      go_wp2
      go_ret3
      exact ⟨by rw [HO.out]; rfl, HG1.out⟩
  | false =>
    rw [h1] at HI
    have HO : Hid (opt T i wd n = (i, some n)) := by show _ = _; unfold Df.opt; rw [h1]; rfl
    generalize opt T i wd n = OO at *
    generalize tk T i = x at *
    obtain ⟨xk, xt, xp⟩ := x
    simp only at *
    clear h1 hT hG
    go_enter Tryd.func62, Tryd.ntmps62
    go_wp2_with fail
    refine (HI.out _).mono ?_
    rintro e w1 ⟨rfl, hg⟩
    have HG1 : Hid (Gr w w1) := hg
    clear hg c0 c1 c2
    go_wp2
    go_ret3
    exact ⟨by rw [HO.out]; rfl, HG1.out⟩

set_option maxHeartbeats 4000000 in
set_option maxRecDepth 100000 in
theorem refSyntax_any (T : List Tok) (ad : Option Addr) (cap : Nat) (i : Nat) (w : World) (hT : ToksAt w ad T) (hi : i < T.length) (_hn : T.length ≤ 5000) :
    Calls Tryd.prog 39 #[.slice ad T.length cap, .int .i64 (i : Int)] w fun e w' => e = .returned (.tuple #[.agg #[.string ⟨#[]⟩, .slice none 0 0], .int .i64 0, .agg #[.int .i64 81, .int .i64 (tk T i).p]]) ∧ Gr w w' := by
  obtain ⟨b, off, rfl, hb, c0, c1, c2⟩ := hT i hi
  rw [← Df.tk_get T i hi] at c0 c1 c2
  have HXX : Hid (∀ x : Tok, tk T i = x → (tk T i).p = x.p) := fun x e => by rw [e]
  generalize hx : tk T i = x at *
  have HX2 := Lib.hid hx
  obtain ⟨xk, xt, xp⟩ := x
  simp only at *
  clear hT hx
  go_enter Tryd.func39, Tryd.ntmps39
  go_wp2
  go_region
  go_wp2
  exact bodyPost_ret (v := .tuple #[.agg #[.string ⟨#[]⟩, .slice none 0 0], .int .i64 0, .agg #[.int .i64 81, .int .i64 xp]]) (by simp [results, Tryd.results39, go_sem, *]) rfl ⟨rfl, (by (repeat' (first | with_reducible exact Gr.refl _ | with_reducible refine Gr.set ?_ _ ?_ _ | with_reducible refine Gr.alloc ?_ | with_reducible refine Gr.drew ?_ | with_reducible refine Gr.trans ?_ (by assumption))) <;> (first | (simp; done) | (simp; omega) | omega))⟩
end Go.Proofs.YtdliljijgokpjaaDoor
namespace Go.Proofs.YtdliljijgokpjaaDoor
open Go.RowKit
open Lex (Tok valE valB)
open Df (Stp tk isT kw wk sm opt fin one Gd)

def OnR (w : World) (q : Nat × Option Stp) (e : Ending) (w' : World) : Prop :=
  ∃ s : Stp, e = .returned (.tuple #[.agg #[.int .i64 s.k, .string s.a, .int .i64 s.n, .int .i64 s.o, .string s.u, .int .i64 s.y, .int .i64 s.v], .int .i64 (q.1 : Int), .bool q.2.isSome]) ∧ (∀ s', q.2 = some s' → s = s') ∧ Gr w w'
theorem keep2 {a b : World} {p q : Addr} {x y : Value} (h : a.cell? p = some x ∧ a.cell? q = some y) (g : Gr a b) : b.cell? p = some x ∧ b.cell? q = some y := ⟨g.keep h.1, g.keep h.2⟩
theorem keep2s {a : World} {p q : Addr} {x y : Value} (h : a.cell? p = some x ∧ a.cell? q = some y) (r : Nat) (h1 : r ≠ p.block) (h2 : r ≠ q.block) (u v z : Value) : (((a.setCell ⟨r, 0, none⟩ u).setCell ⟨r, 1, none⟩ v).setCell ⟨r, 2, none⟩ z).cell? p = some x ∧ (((a.setCell ⟨r, 0, none⟩ u).setCell ⟨r, 1, none⟩ v).setCell ⟨r, 2, none⟩ z).cell? q = some y := by
  constructor
  · rw [World.cell?_setCell_far _ _ _ _ (by simpa using h1), World.cell?_setCell_far _ _ _ _ (by simpa using h1), World.cell?_setCell_far _ _ _ _ (by simpa using h1)]; exact h.1
  · rw [World.cell?_setCell_far _ _ _ _ (by simpa using h2), World.cell?_setCell_far _ _ _ _ (by simpa using h2), World.cell?_setCell_far _ _ _ _ (by simpa using h2)]; exact h.2


set_option maxHeartbeats 8000000 in
set_option maxRecDepth 100000 in
theorem refOne0 (T : List Tok) (ad : Option Addr) (cap : Nat) (i : Nat) (w : World) (hT : ToksAt w ad T) (_hG : Gd T) (hi : i < T.length) (_hn : T.length ≤ 5000) (h0 : ¬ (tk T i).k = 1) :
    Calls Tryd.prog 40 #[.slice ad T.length cap, .int .i64 (i : Int)] w fun e w' => OnR w (one T i) e w' := by
  have HA0 : Hid (AccAt ((w.alloc (.cells #[.int .i64 0, .string ⟨#[]⟩, .int .i64 0, .int .i64 0, .string ⟨#[]⟩, .int .i64 0, .int .i64 0] 47)).alloc (.cells #[.int .i64 0, .string ⟨#[]⟩, .int .i64 0, .int .i64 0, .string ⟨#[]⟩, .int .i64 0, .int .i64 0] 47)) w.heap.size (.int .i64 0) (.string ⟨#[]⟩) (.int .i64 0) (.int .i64 0) (.string ⟨#[]⟩) (.int .i64 0) (.int .i64 0)) := (AccAt.new w (.int .i64 0) (.string ⟨#[]⟩) (.int .i64 0) (.int .i64 0) (.string ⟨#[]⟩) (.int .i64 0) (.int .i64 0) 47 _ rfl).gr (Gr.refl _).alloc
  have HB0 : Hid (AccAt ((w.alloc (.cells #[.int .i64 0, .string ⟨#[]⟩, .int .i64 0, .int .i64 0, .string ⟨#[]⟩, .int .i64 0, .int .i64 0] 47)).alloc (.cells #[.int .i64 0, .string ⟨#[]⟩, .int .i64 0, .int .i64 0, .string ⟨#[]⟩, .int .i64 0, .int .i64 0] 47)) (w.heap.size + 1) (.int .i64 0) (.string ⟨#[]⟩) (.int .i64 0) (.int .i64 0) (.string ⟨#[]⟩) (.int .i64 0) (.int .i64 0)) := AccAt.new _ (.int .i64 0) (.string ⟨#[]⟩) (.int .i64 0) (.int .i64 0) (.string ⟨#[]⟩) (.int .i64 0) (.int .i64 0) 47 _ (by simp)
  have HK : Hid (∀ w', Calls Tryd.prog 60 #[.string (tk T i).t] w' fun e w2 => e = .returned (.int .i64 (kw (tk T i).t)) ∧ Gr w' w2) := fun w' => refKind_any _ w'
  obtain ⟨b, off, rfl, hb, c0, c1, c2⟩ := hT i hi
  rw [← Df.tk_get T i hi] at c0 c1 c2
  have HO : Hid (one T i = (i, none)) := by
    show _ = _
    unfold Df.one
    rw [if_neg (fun e => h0 ((Df.isT_iff _ _ _).1 e).1), if_neg (fun e => h0 e.1)]
  have e1 : ((tk T i).k != 1) = true := by simpa using h0
  generalize one T i = OO at *
  generalize tk T i = x at *
  obtain ⟨xk, xt, xp⟩ := x
  simp only at *
  clear h0 hT HK
  go_enter Tryd.func40, Tryd.ntmps40
  obtain ⟨a0, a1, a2, a3, a4, a5, a6⟩ := HA0.out.cells
  go_wp2
  refine bodyPost_ret (v := .tuple #[.agg #[.int .i64 0, .string ⟨#[]⟩, .int .i64 0, .int .i64 0, .string ⟨#[]⟩, .int .i64 0, .int .i64 0], .int .i64 (i : Int), .bool false]) (by simp [results, Tryd.results40, go_sem, *]) rfl ?_
  rw [HO.out]
  exact ⟨⟨0, ⟨#[]⟩, 0, 0, ⟨#[]⟩, 0, 0⟩, rfl, fun s h => (by cases h), (by (repeat' (first | with_reducible exact Gr.refl _ | with_reducible refine Gr.set ?_ _ ?_ _ | with_reducible refine Gr.alloc ?_ | with_reducible refine Gr.drew ?_ | with_reducible refine Gr.trans ?_ (by assumption))) <;> (first | (simp; done) | (simp; omega) | omega))⟩

set_option maxHeartbeats 8000000 in
set_option maxRecDepth 100000 in
theorem refOne1 (T : List Tok) (ad : Option Addr) (cap : Nat) (i : Nat) (w : World) (hT : ToksAt w ad T) (_hG : Gd T) (hi : i < T.length) (_hn : T.length ≤ 5000) (h0 : (tk T i).k = 1) (h1 : kw (tk T i).t = 0) (h2 : (tk T i).t ≠ Df.wAsk) :
    Calls Tryd.prog 40 #[.slice ad T.length cap, .int .i64 (i : Int)] w fun e w' => OnR w (one T i) e w' := by
  have HA0 : Hid (AccAt ((w.alloc (.cells #[.int .i64 0, .string ⟨#[]⟩, .int .i64 0, .int .i64 0, .string ⟨#[]⟩, .int .i64 0, .int .i64 0] 47)).alloc (.cells #[.int .i64 0, .string ⟨#[]⟩, .int .i64 0, .int .i64 0, .string ⟨#[]⟩, .int .i64 0, .int .i64 0] 47)) w.heap.size (.int .i64 0) (.string ⟨#[]⟩) (.int .i64 0) (.int .i64 0) (.string ⟨#[]⟩) (.int .i64 0) (.int .i64 0)) := (AccAt.new w (.int .i64 0) (.string ⟨#[]⟩) (.int .i64 0) (.int .i64 0) (.string ⟨#[]⟩) (.int .i64 0) (.int .i64 0) 47 _ rfl).gr (Gr.refl _).alloc
  have HB0 : Hid (AccAt ((w.alloc (.cells #[.int .i64 0, .string ⟨#[]⟩, .int .i64 0, .int .i64 0, .string ⟨#[]⟩, .int .i64 0, .int .i64 0] 47)).alloc (.cells #[.int .i64 0, .string ⟨#[]⟩, .int .i64 0, .int .i64 0, .string ⟨#[]⟩, .int .i64 0, .int .i64 0] 47)) (w.heap.size + 1) (.int .i64 0) (.string ⟨#[]⟩) (.int .i64 0) (.int .i64 0) (.string ⟨#[]⟩) (.int .i64 0) (.int .i64 0)) := AccAt.new _ (.int .i64 0) (.string ⟨#[]⟩) (.int .i64 0) (.int .i64 0) (.string ⟨#[]⟩) (.int .i64 0) (.int .i64 0) 47 _ (by simp)
  have HK : Hid (∀ w', Calls Tryd.prog 60 #[.string (tk T i).t] w' fun e w2 => e = .returned (.int .i64 (kw (tk T i).t)) ∧ Gr w' w2) := fun w' => refKind_any _ w'
  obtain ⟨b, off, rfl, hb, c0, c1, c2⟩ := hT i hi
  rw [← Df.tk_get T i hi] at c0 c1 c2
  have HO : Hid (one T i = (i, none)) := by
    show _ = _
    unfold Df.one
    rw [if_neg (fun e => h2 ((Df.isT_iff _ _ _).1 e).2), if_neg (fun e => e.2 h1)]
  have e1 : ((tk T i).k != 1) = false := by simpa using h0
  have ht := text_eq (tk T i).t [97, 115, 107]
  rw [decide_eq_false (show ¬ (tk T i).t = ⟨[97, 115, 107].toArray⟩ from h2)] at ht
  rw [h1] at HK
  generalize one T i = OO at *
  generalize tk T i = x at *
  obtain ⟨xk, xt, xp⟩ := x
  simp only at *
  clear h0 hT h1 h2
  go_enter Tryd.func40, Tryd.ntmps40
  go_wp2_with fail
  refine (HK.out _).mono ?_
  rintro e w1 ⟨rfl, hg⟩
  have HA1 := Lib.hid (HA0.out.gr hg)
  have HB1 := Lib.hid (HB0.out.gr hg)
  have hg1 : Gr w w1 := (Gr.refl _).alloc.alloc.trans hg
  have hb1 : b < w1.heap.size := Nat.lt_of_lt_of_le hb hg1.size
  replace c0 := hg1.keep c0
  replace c1 := hg1.keep c1
  replace c2 := hg1.keep c2
  obtain ⟨a0, a1, a2, a3, a4, a5, a6⟩ := HA1.out.cells
  obtain ⟨af0, af1, af2, af3, af4, af5, af6⟩ := HA1.out.frozens
  have al := HA1.out.lt
  obtain ⟨q0, q1, q2, q3, q4, q5, q6⟩ := HB1.out.cells
  have ql := HB1.out.lt
  clear hg
  go_wp2
  refine bodyPost_ret (v := .tuple #[.agg #[.int .i64 0, .string ⟨#[]⟩, .int .i64 0, .int .i64 0, .string ⟨#[]⟩, .int .i64 0, .int .i64 0], .int .i64 (i : Int), .bool false]) (by simp [results, Tryd.results40, go_sem, *]) rfl ?_
  rw [HO.out]
  exact ⟨⟨0, ⟨#[]⟩, 0, 0, ⟨#[]⟩, 0, 0⟩, rfl, fun s h => (by cases h), (by (repeat' (first | with_reducible exact Gr.refl _ | with_reducible refine Gr.set ?_ _ ?_ _ | with_reducible refine Gr.alloc ?_ | with_reducible refine Gr.drew ?_ | with_reducible refine Gr.trans ?_ (by assumption))) <;> (first | (simp; done) | (simp; omega) | omega))⟩

set_option maxHeartbeats 8000000 in
set_option maxRecDepth 100000 in
theorem refOneA1 (T : List Tok) (ad : Option Addr) (cap : Nat) (i : Nat) (w : World) (hT : ToksAt w ad T) (hG : Gd T) (hi : i < T.length) (hn : T.length ≤ 5000) (h0 : (tk T i).k = 1) (h2 : (tk T i).t = Df.wAsk) (h3 : ¬ (tk T (i + 1)).k = 2) :
    Calls Tryd.prog 40 #[.slice ad T.length cap, .int .i64 (i : Int)] w fun e w' => OnR w (one T i) e w' := by
  have HA0 : Hid (AccAt ((w.alloc (.cells #[.int .i64 0, .string ⟨#[]⟩, .int .i64 0, .int .i64 0, .string ⟨#[]⟩, .int .i64 0, .int .i64 0] 47)).alloc (.cells #[.int .i64 0, .string ⟨#[]⟩, .int .i64 0, .int .i64 0, .string ⟨#[]⟩, .int .i64 0, .int .i64 0] 47)) w.heap.size (.int .i64 0) (.string ⟨#[]⟩) (.int .i64 0) (.int .i64 0) (.string ⟨#[]⟩) (.int .i64 0) (.int .i64 0)) := (AccAt.new w (.int .i64 0) (.string ⟨#[]⟩) (.int .i64 0) (.int .i64 0) (.string ⟨#[]⟩) (.int .i64 0) (.int .i64 0) 47 _ rfl).gr (Gr.refl _).alloc
  have HB0 : Hid (AccAt ((w.alloc (.cells #[.int .i64 0, .string ⟨#[]⟩, .int .i64 0, .int .i64 0, .string ⟨#[]⟩, .int .i64 0, .int .i64 0] 47)).alloc (.cells #[.int .i64 0, .string ⟨#[]⟩, .int .i64 0, .int .i64 0, .string ⟨#[]⟩, .int .i64 0, .int .i64 0] 47)) (w.heap.size + 1) (.int .i64 0) (.string ⟨#[]⟩) (.int .i64 0) (.int .i64 0) (.string ⟨#[]⟩) (.int .i64 0) (.int .i64 0)) := AccAt.new _ (.int .i64 0) (.string ⟨#[]⟩) (.int .i64 0) (.int .i64 0) (.string ⟨#[]⟩) (.int .i64 0) (.int .i64 0) 47 _ (by simp)
  have HK : Hid (∀ w', Calls Tryd.prog 60 #[.string (tk T i).t] w' fun e w2 => e = .returned (.int .i64 (kw (tk T i).t)) ∧ Gr w' w2) := fun w' => refKind_any _ w'
  obtain ⟨b, off, rfl, hb, c0, c1, c2⟩ := hT i hi
  rw [← Df.tk_get T i hi] at c0 c1 c2
  have hn1 := hG.next (i := i) (by rw [h0]; decide)
  obtain ⟨b1', off1', e1', _, d0, d1, d2⟩ := hT (i + 1) hn1
  cases e1'
  rw [← Df.tk_get T (i + 1) hn1] at d0 d1 d2
  have HO : Hid (one T i = (i + 1, none)) := by
    show _ = _
    unfold Df.one
    rw [if_pos ((Df.isT_iff _ _ _).2 ⟨h0, h2⟩), if_neg h3]
  have e1 : ((tk T i).k != 1) = false := by simpa using h0
  rw [h2] at c1 HK
  rw [show kw Df.wAsk = 0 from Df.kw_ask] at HK
  unfold Df.wAsk at c1 HK
  have e3 : ((tk T (i + 1)).k != 2) = true := by simpa using h3
  generalize one T i = OO at *
  generalize tk T i = x at *
  obtain ⟨xk, xt, xp⟩ := x
  generalize tk T (i + 1) = y at *
  obtain ⟨yk, yt, yp⟩ := y
  simp only at *
  clear h0 hT hG h2 h3
  go_enter Tryd.func40, Tryd.ntmps40
  go_wp2_with fail
  refine (HK.out _).mono ?_
  rintro e w1 ⟨rfl, hg⟩
  have HA1 := Lib.hid (HA0.out.gr hg)
  have HB1 := Lib.hid (HB0.out.gr hg)
  have hg1 : Gr w w1 := (Gr.refl _).alloc.alloc.trans hg
  have hb1 : b < w1.heap.size := Nat.lt_of_lt_of_le hb hg1.size
  replace c0 := hg1.keep c0
  replace c1 := hg1.keep c1
  replace c2 := hg1.keep c2
  replace d0 := hg1.keep d0
  replace d1 := hg1.keep d1
  replace d2 := hg1.keep d2
  obtain ⟨a0, a1, a2, a3, a4, a5, a6⟩ := HA1.out.cells
  obtain ⟨af0, af1, af2, af3, af4, af5, af6⟩ := HA1.out.frozens
  have al := HA1.out.lt
  obtain ⟨q0, q1, q2, q3, q4, q5, q6⟩ := HB1.out.cells
  have ql := HB1.out.lt
  clear hg
  go_wp2
  refine bodyPost_ret (v := .tuple #[.agg #[.int .i64 0, .string ⟨#[]⟩, .int .i64 0, .int .i64 0, .string ⟨#[]⟩, .int .i64 0, .int .i64 0], .int .i64 ((i : Int) + 1), .bool false]) (by simp [results, Tryd.results40, go_sem, *]) rfl ?_
  rw [HO.out]
  exact ⟨⟨0, ⟨#[]⟩, 0, 0, ⟨#[]⟩, 0, 0⟩, rfl, fun s h => (by cases h), (by (repeat' (first | with_reducible exact Gr.refl _ | with_reducible refine Gr.set ?_ _ ?_ _ | with_reducible refine Gr.alloc ?_ | with_reducible refine Gr.drew ?_ | with_reducible refine Gr.trans ?_ (by assumption))) <;> (first | (simp; done) | (simp; omega) | omega))⟩

set_option maxHeartbeats 8000000 in
set_option maxRecDepth 100000 in
theorem refOneA2 (T : List Tok) (ad : Option Addr) (cap : Nat) (i : Nat) (w : World) (hT : ToksAt w ad T) (hG : Gd T) (hi : i < T.length) (hn : T.length ≤ 5000) (h0 : (tk T i).k = 1) (h2 : (tk T i).t = Df.wAsk) (h3 : (tk T (i + 1)).k = 2) (h4 : ¬ (tk T (i + 2)).k = 1) :
    Calls Tryd.prog 40 #[.slice ad T.length cap, .int .i64 (i : Int)] w fun e w' => OnR w (one T i) e w' := by
  have HA0 : Hid (AccAt ((w.alloc (.cells #[.int .i64 0, .string ⟨#[]⟩, .int .i64 0, .int .i64 0, .string ⟨#[]⟩, .int .i64 0, .int .i64 0] 47)).alloc (.cells #[.int .i64 0, .string ⟨#[]⟩, .int .i64 0, .int .i64 0, .string ⟨#[]⟩, .int .i64 0, .int .i64 0] 47)) w.heap.size (.int .i64 0) (.string ⟨#[]⟩) (.int .i64 0) (.int .i64 0) (.string ⟨#[]⟩) (.int .i64 0) (.int .i64 0)) := (AccAt.new w (.int .i64 0) (.string ⟨#[]⟩) (.int .i64 0) (.int .i64 0) (.string ⟨#[]⟩) (.int .i64 0) (.int .i64 0) 47 _ rfl).gr (Gr.refl _).alloc
  have HB0 : Hid (AccAt ((w.alloc (.cells #[.int .i64 0, .string ⟨#[]⟩, .int .i64 0, .int .i64 0, .string ⟨#[]⟩, .int .i64 0, .int .i64 0] 47)).alloc (.cells #[.int .i64 0, .string ⟨#[]⟩, .int .i64 0, .int .i64 0, .string ⟨#[]⟩, .int .i64 0, .int .i64 0] 47)) (w.heap.size + 1) (.int .i64 0) (.string ⟨#[]⟩) (.int .i64 0) (.int .i64 0) (.string ⟨#[]⟩) (.int .i64 0) (.int .i64 0)) := AccAt.new _ (.int .i64 0) (.string ⟨#[]⟩) (.int .i64 0) (.int .i64 0) (.string ⟨#[]⟩) (.int .i64 0) (.int .i64 0) 47 _ (by simp)
  have HK : Hid (∀ w', Calls Tryd.prog 60 #[.string (tk T i).t] w' fun e w2 => e = .returned (.int .i64 (kw (tk T i).t)) ∧ Gr w' w2) := fun w' => refKind_any _ w'
  obtain ⟨b, off, rfl, hb, c0, c1, c2⟩ := hT i hi
  rw [← Df.tk_get T i hi] at c0 c1 c2
  have hn1 := hG.next (i := i) (by rw [h0]; decide)
  have hn2 := hG.next (i := i + 1) (by rw [h3]; decide)
  obtain ⟨b1', off1', e1', _, d0, d1, d2⟩ := hT (i + 1) hn1
  cases e1'
  rw [← Df.tk_get T (i + 1) hn1] at d0 d1 d2
  obtain ⟨b2', off2', e2', _, f0, f1, f2⟩ := hT (i + 2) hn2
  cases e2'
  rw [← Df.tk_get T (i + 2) hn2] at f0 f1 f2
  have HO : Hid (one T i = (i + 2, none)) := by
    show _ = _
    unfold Df.one
    rw [if_pos ((Df.isT_iff _ _ _).2 ⟨h0, h2⟩), if_pos h3, if_neg h4]
  have e1 : ((tk T i).k != 1) = false := by simpa using h0
  rw [h2] at c1 HK
  rw [show kw Df.wAsk = 0 from Df.kw_ask] at HK
  unfold Df.wAsk at c1 HK
  have e3 : ((tk T (i + 1)).k != 2) = false := by simpa using h3
  have e4 : ((tk T (i + 2)).k != 1) = true := by simpa using h4
  generalize one T i = OO at *
  generalize tk T i = x at *
  obtain ⟨xk, xt, xp⟩ := x
  generalize tk T (i + 1) = y at *
  obtain ⟨yk, yt, yp⟩ := y
  generalize tk T (i + 2) = z at *
  obtain ⟨zk, zt, zp⟩ := z
  simp only at *
  clear h0 hT hG h2 h3 h4
  go_enter Tryd.func40, Tryd.ntmps40
  go_wp2_with fail
  refine (HK.out _).mono ?_
  rintro e w1 ⟨rfl, hg⟩
  have HA1 := Lib.hid (HA0.out.gr hg)
  have HB1 := Lib.hid (HB0.out.gr hg)
  have hg1 : Gr w w1 := (Gr.refl _).alloc.alloc.trans hg
  have hb1 : b < w1.heap.size := Nat.lt_of_lt_of_le hb hg1.size
  replace c0 := hg1.keep c0
  replace c1 := hg1.keep c1
  replace c2 := hg1.keep c2
  replace d0 := hg1.keep d0
  replace d1 := hg1.keep d1
  replace d2 := hg1.keep d2
  replace f0 := hg1.keep f0
  replace f1 := hg1.keep f1
  replace f2 := hg1.keep f2
  obtain ⟨a0, a1, a2, a3, a4, a5, a6⟩ := HA1.out.cells
  obtain ⟨af0, af1, af2, af3, af4, af5, af6⟩ := HA1.out.frozens
  have al := HA1.out.lt
  obtain ⟨q0, q1, q2, q3, q4, q5, q6⟩ := HB1.out.cells
  have ql := HB1.out.lt
  clear hg
  go_wp2
  refine bodyPost_ret (v := .tuple #[.agg #[.int .i64 0, .string ⟨#[]⟩, .int .i64 0, .int .i64 0, .string ⟨#[]⟩, .int .i64 0, .int .i64 0], .int .i64 ((i : Int) + 2), .bool false]) (by simp [results, Tryd.results40, go_sem, *]) rfl ?_
  rw [HO.out]
  exact ⟨⟨0, ⟨#[]⟩, 0, 0, ⟨#[]⟩, 0, 0⟩, rfl, fun s h => (by cases h), (by (repeat' (first | with_reducible exact Gr.refl _ | with_reducible refine Gr.set ?_ _ ?_ _ | with_reducible refine Gr.alloc ?_ | with_reducible refine Gr.drew ?_ | with_reducible refine Gr.trans ?_ (by assumption))) <;> (first | (simp; done) | (simp; omega) | omega))⟩

set_option maxHeartbeats 8000000 in
set_option maxRecDepth 100000 in
theorem refOneD1 (T : List Tok) (ad : Option Addr) (cap : Nat) (i : Nat) (w : World) (hT : ToksAt w ad T) (hG : Gd T) (hi : i < T.length) (hn : T.length ≤ 5000) (h0 : (tk T i).k = 1) (h1 : kw (tk T i).t ≠ 0) (h3 : ¬ (tk T (i + 1)).k = 1) :
    Calls Tryd.prog 40 #[.slice ad T.length cap, .int .i64 (i : Int)] w fun e w' => OnR w (one T i) e w' := by
  have HA0 : Hid (AccAt ((w.alloc (.cells #[.int .i64 0, .string ⟨#[]⟩, .int .i64 0, .int .i64 0, .string ⟨#[]⟩, .int .i64 0, .int .i64 0] 47)).alloc (.cells #[.int .i64 0, .string ⟨#[]⟩, .int .i64 0, .int .i64 0, .string ⟨#[]⟩, .int .i64 0, .int .i64 0] 47)) w.heap.size (.int .i64 0) (.string ⟨#[]⟩) (.int .i64 0) (.int .i64 0) (.string ⟨#[]⟩) (.int .i64 0) (.int .i64 0)) := (AccAt.new w (.int .i64 0) (.string ⟨#[]⟩) (.int .i64 0) (.int .i64 0) (.string ⟨#[]⟩) (.int .i64 0) (.int .i64 0) 47 _ rfl).gr (Gr.refl _).alloc
  have HB0 : Hid (AccAt ((w.alloc (.cells #[.int .i64 0, .string ⟨#[]⟩, .int .i64 0, .int .i64 0, .string ⟨#[]⟩, .int .i64 0, .int .i64 0] 47)).alloc (.cells #[.int .i64 0, .string ⟨#[]⟩, .int .i64 0, .int .i64 0, .string ⟨#[]⟩, .int .i64 0, .int .i64 0] 47)) (w.heap.size + 1) (.int .i64 0) (.string ⟨#[]⟩) (.int .i64 0) (.int .i64 0) (.string ⟨#[]⟩) (.int .i64 0) (.int .i64 0)) := AccAt.new _ (.int .i64 0) (.string ⟨#[]⟩) (.int .i64 0) (.int .i64 0) (.string ⟨#[]⟩) (.int .i64 0) (.int .i64 0) 47 _ (by simp)
  have HK : Hid (∀ w', Calls Tryd.prog 60 #[.string (tk T i).t] w' fun e w2 => e = .returned (.int .i64 (kw (tk T i).t)) ∧ Gr w' w2) := fun w' => refKind_any _ w'
  obtain ⟨b, off, rfl, hb, c0, c1, c2⟩ := hT i hi
  rw [← Df.tk_get T i hi] at c0 c1 c2
  have hn1 := hG.next (i := i) (by rw [h0]; decide)
  obtain ⟨b1', off1', e1', _, d0, d1, d2⟩ := hT (i + 1) hn1
  cases e1'
  rw [← Df.tk_get T (i + 1) hn1] at d0 d1 d2
  have HO : Hid (one T i = (i + 1, none)) := by
    show _ = _
    unfold Df.one
    rw [if_neg (fun e => h1 (by rw [((Df.isT_iff _ _ _).1 e).2]; exact Df.kw_ask)), if_pos ⟨h0, h1⟩, if_neg h3]
  have e1 : ((tk T i).k != 1) = false := by simpa using h0
  have ht := text_eq (tk T i).t [97, 115, 107]
  have hna : ¬ (tk T i).t = Df.wAsk := fun e => h1 (by rw [e]; exact Df.kw_ask)
  rw [decide_eq_false (show ¬ (tk T i).t = ⟨[97, 115, 107].toArray⟩ from hna)] at ht
  have e2 : (kw (tk T i).t == 0) = false := by simpa using h1
  have e3 : ((tk T (i + 1)).k != 1) = true := by simpa using h3
  generalize one T i = OO at *
  generalize kw (tk T i).t = KW at *
  generalize tk T i = x at *
  obtain ⟨xk, xt, xp⟩ := x
  generalize tk T (i + 1) = y at *
  obtain ⟨yk, yt, yp⟩ := y
  simp only at *
  clear h0 hT hG h1 h3 hna
  go_enter Tryd.func40, Tryd.ntmps40
  go_wp2_with fail
  refine (HK.out _).mono ?_
  rintro e w1 ⟨rfl, hg⟩
  have HA1 := Lib.hid (HA0.out.gr hg)
  have HB1 := Lib.hid (HB0.out.gr hg)
  have hg1 : Gr w w1 := (Gr.refl _).alloc.alloc.trans hg
  have hb1 : b < w1.heap.size := Nat.lt_of_lt_of_le hb hg1.size
  replace c0 := hg1.keep c0
  replace c1 := hg1.keep c1
  replace c2 := hg1.keep c2
  replace d0 := hg1.keep d0
  replace d1 := hg1.keep d1
  replace d2 := hg1.keep d2
  obtain ⟨a0, a1, a2, a3, a4, a5, a6⟩ := HA1.out.cells
  obtain ⟨af0, af1, af2, af3, af4, af5, af6⟩ := HA1.out.frozens
  have al := HA1.out.lt
  obtain ⟨q0, q1, q2, q3, q4, q5, q6⟩ := HB1.out.cells
  have ql := HB1.out.lt
  clear hg
  go_wp2
  refine bodyPost_ret (v := .tuple #[.agg #[.int .i64 0, .string ⟨#[]⟩, .int .i64 0, .int .i64 0, .string ⟨#[]⟩, .int .i64 0, .int .i64 0], .int .i64 ((i : Int) + 1), .bool false]) (by simp [results, Tryd.results40, go_sem, *]) rfl ?_
  rw [HO.out]
  exact ⟨⟨0, ⟨#[]⟩, 0, 0, ⟨#[]⟩, 0, 0⟩, rfl, fun s h => (by cases h), (by (repeat' (first | with_reducible exact Gr.refl _ | with_reducible refine Gr.set ?_ _ ?_ _ | with_reducible refine Gr.alloc ?_ | with_reducible refine Gr.drew ?_ | with_reducible refine Gr.trans ?_ (by assumption))) <;> (first | (simp; done) | (simp; omega) | omega))⟩

set_option maxHeartbeats 8000000 in
set_option maxRecDepth 100000 in
theorem refOneD2 (T : List Tok) (ad : Option Addr) (cap : Nat) (i : Nat) (w : World) (hT : ToksAt w ad T) (hG : Gd T) (hi : i < T.length) (hn : T.length ≤ 5000) (h0 : (tk T i).k = 1) (h1 : kw (tk T i).t ≠ 0) (h3 : (tk T (i + 1)).k = 1) (h4 : ¬ (tk T (i + 2)).k = 2) :
    Calls Tryd.prog 40 #[.slice ad T.length cap, .int .i64 (i : Int)] w fun e w' => OnR w (one T i) e w' := by
  have HA0 : Hid (AccAt ((w.alloc (.cells #[.int .i64 0, .string ⟨#[]⟩, .int .i64 0, .int .i64 0, .string ⟨#[]⟩, .int .i64 0, .int .i64 0] 47)).alloc (.cells #[.int .i64 0, .string ⟨#[]⟩, .int .i64 0, .int .i64 0, .string ⟨#[]⟩, .int .i64 0, .int .i64 0] 47)) w.heap.size (.int .i64 0) (.string ⟨#[]⟩) (.int .i64 0) (.int .i64 0) (.string ⟨#[]⟩) (.int .i64 0) (.int .i64 0)) := (AccAt.new w (.int .i64 0) (.string ⟨#[]⟩) (.int .i64 0) (.int .i64 0) (.string ⟨#[]⟩) (.int .i64 0) (.int .i64 0) 47 _ rfl).gr (Gr.refl _).alloc
  have HB0 : Hid (AccAt ((w.alloc (.cells #[.int .i64 0, .string ⟨#[]⟩, .int .i64 0, .int .i64 0, .string ⟨#[]⟩, .int .i64 0, .int .i64 0] 47)).alloc (.cells #[.int .i64 0, .string ⟨#[]⟩, .int .i64 0, .int .i64 0, .string ⟨#[]⟩, .int .i64 0, .int .i64 0] 47)) (w.heap.size + 1) (.int .i64 0) (.string ⟨#[]⟩) (.int .i64 0) (.int .i64 0) (.string ⟨#[]⟩) (.int .i64 0) (.int .i64 0)) := AccAt.new _ (.int .i64 0) (.string ⟨#[]⟩) (.int .i64 0) (.int .i64 0) (.string ⟨#[]⟩) (.int .i64 0) (.int .i64 0) 47 _ (by simp)
  have HK : Hid (∀ w', Calls Tryd.prog 60 #[.string (tk T i).t] w' fun e w2 => e = .returned (.int .i64 (kw (tk T i).t)) ∧ Gr w' w2) := fun w' => refKind_any _ w'
  obtain ⟨b, off, rfl, hb, c0, c1, c2⟩ := hT i hi
  rw [← Df.tk_get T i hi] at c0 c1 c2
  have hn1 := hG.next (i := i) (by rw [h0]; decide)
  have hn2 := hG.next (i := i + 1) (by rw [h3]; decide)
  obtain ⟨b1', off1', e1', _, d0, d1, d2⟩ := hT (i + 1) hn1
  cases e1'
  rw [← Df.tk_get T (i + 1) hn1] at d0 d1 d2
  obtain ⟨b2', off2', e2', _, f0, f1, f2⟩ := hT (i + 2) hn2
  cases e2'
  rw [← Df.tk_get T (i + 2) hn2] at f0 f1 f2
  have HO : Hid (one T i = (i + 2, none)) := by
    show _ = _
    unfold Df.one
    rw [if_neg (fun e => h1 (by rw [((Df.isT_iff _ _ _).1 e).2]; exact Df.kw_ask)), if_pos ⟨h0, h1⟩, if_pos h3, if_neg h4]
  have e1 : ((tk T i).k != 1) = false := by simpa using h0
  have ht := text_eq (tk T i).t [97, 115, 107]
  have hna : ¬ (tk T i).t = Df.wAsk := fun e => h1 (by rw [e]; exact Df.kw_ask)
  rw [decide_eq_false (show ¬ (tk T i).t = ⟨[97, 115, 107].toArray⟩ from hna)] at ht
  have e2 : (kw (tk T i).t == 0) = false := by simpa using h1
  have e3 : ((tk T (i + 1)).k != 1) = false := by simpa using h3
  have e4 : ((tk T (i + 2)).k != 2) = true := by simpa using h4
  generalize one T i = OO at *
  generalize kw (tk T i).t = KW at *
  generalize tk T i = x at *
  obtain ⟨xk, xt, xp⟩ := x
  generalize tk T (i + 1) = y at *
  obtain ⟨yk, yt, yp⟩ := y
  generalize tk T (i + 2) = z at *
  obtain ⟨zk, zt, zp⟩ := z
  simp only at *
  clear h0 hT hG h1 h3 h4 hna
  go_enter Tryd.func40, Tryd.ntmps40
  go_wp2_with fail
  refine (HK.out _).mono ?_
  rintro e w1 ⟨rfl, hg⟩
  have HA1 := Lib.hid (HA0.out.gr hg)
  have HB1 := Lib.hid (HB0.out.gr hg)
  have hg1 : Gr w w1 := (Gr.refl _).alloc.alloc.trans hg
  have hb1 : b < w1.heap.size := Nat.lt_of_lt_of_le hb hg1.size
  replace c0 := hg1.keep c0
  replace c1 := hg1.keep c1
  replace c2 := hg1.keep c2
  replace d0 := hg1.keep d0
  replace d1 := hg1.keep d1
  replace d2 := hg1.keep d2
  replace f0 := hg1.keep f0
  replace f1 := hg1.keep f1
  replace f2 := hg1.keep f2
  obtain ⟨a0, a1, a2, a3, a4, a5, a6⟩ := HA1.out.cells
  obtain ⟨af0, af1, af2, af3, af4, af5, af6⟩ := HA1.out.frozens
  have al := HA1.out.lt
  obtain ⟨q0, q1, q2, q3, q4, q5, q6⟩ := HB1.out.cells
  have ql := HB1.out.lt
  clear hg
  go_wp2
  refine bodyPost_ret (v := .tuple #[.agg #[.int .i64 0, .string ⟨#[]⟩, .int .i64 0, .int .i64 0, .string ⟨#[]⟩, .int .i64 0, .int .i64 0], .int .i64 ((i : Int) + 2), .bool false]) (by simp [results, Tryd.results40, go_sem, *]) rfl ?_
  rw [HO.out]
  exact ⟨⟨0, ⟨#[]⟩, 0, 0, ⟨#[]⟩, 0, 0⟩, rfl, fun s h => (by cases h), (by (repeat' (first | with_reducible exact Gr.refl _ | with_reducible refine Gr.set ?_ _ ?_ _ | with_reducible refine Gr.alloc ?_ | with_reducible refine Gr.drew ?_ | with_reducible refine Gr.trans ?_ (by assumption))) <;> (first | (simp; done) | (simp; omega) | omega))⟩

set_option maxHeartbeats 8000000 in
set_option maxRecDepth 100000 in
theorem refOneA3 (T : List Tok) (ad : Option Addr) (cap : Nat) (i : Nat) (w : World) (hT : ToksAt w ad T) (hG : Gd T) (hi : i < T.length) (hn : T.length ≤ 5000) (h0 : (tk T i).k = 1) (h2 : (tk T i).t = Df.wAsk) (h3 : (tk T (i + 1)).k = 2) (h4 : (tk T (i + 2)).k = 1) :
    Calls Tryd.prog 40 #[.slice ad T.length cap, .int .i64 (i : Int)] w fun e w' => OnR w (one T i) e w' := by
  have HA0 : Hid (AccAt ((w.alloc (.cells #[.int .i64 0, .string ⟨#[]⟩, .int .i64 0, .int .i64 0, .string ⟨#[]⟩, .int .i64 0, .int .i64 0] 47)).alloc (.cells #[.int .i64 0, .string ⟨#[]⟩, .int .i64 0, .int .i64 0, .string ⟨#[]⟩, .int .i64 0, .int .i64 0] 47)) w.heap.size (.int .i64 0) (.string ⟨#[]⟩) (.int .i64 0) (.int .i64 0) (.string ⟨#[]⟩) (.int .i64 0) (.int .i64 0)) := (AccAt.new w (.int .i64 0) (.string ⟨#[]⟩) (.int .i64 0) (.int .i64 0) (.string ⟨#[]⟩) (.int .i64 0) (.int .i64 0) 47 _ rfl).gr (Gr.refl _).alloc
  have HB0 : Hid (AccAt ((w.alloc (.cells #[.int .i64 0, .string ⟨#[]⟩, .int .i64 0, .int .i64 0, .string ⟨#[]⟩, .int .i64 0, .int .i64 0] 47)).alloc (.cells #[.int .i64 0, .string ⟨#[]⟩, .int .i64 0, .int .i64 0, .string ⟨#[]⟩, .int .i64 0, .int .i64 0] 47)) (w.heap.size + 1) (.int .i64 0) (.string ⟨#[]⟩) (.int .i64 0) (.int .i64 0) (.string ⟨#[]⟩) (.int .i64 0) (.int .i64 0)) := AccAt.new _ (.int .i64 0) (.string ⟨#[]⟩) (.int .i64 0) (.int .i64 0) (.string ⟨#[]⟩) (.int .i64 0) (.int .i64 0) 47 _ (by simp)
  have HK : Hid (∀ w', Calls Tryd.prog 60 #[.string (tk T i).t] w' fun e w2 => e = .returned (.int .i64 (kw (tk T i).t)) ∧ Gr w' w2) := fun w' => refKind_any _ w'
  obtain ⟨b, off, rfl, hb, c0, c1, c2⟩ := hT i hi
  rw [← Df.tk_get T i hi] at c0 c1 c2
  have hn1 := hG.next (i := i) (by rw [h0]; decide)
  have hn2 := hG.next (i := i + 1) (by rw [h3]; decide)
  have hn3 := hG.next (i := i + 2) (by rw [h4]; decide)
  obtain ⟨b1', off1', e1', _, d0, d1, d2⟩ := hT (i + 1) hn1
  cases e1'
  rw [← Df.tk_get T (i + 1) hn1] at d0 d1 d2
  obtain ⟨b2', off2', e2', _, f0, f1, f2⟩ := hT (i + 2) hn2
  cases e2'
  rw [← Df.tk_get T (i + 2) hn2] at f0 f1 f2
  have HO0 : one T i = fin T (opt T (i + 3) Df.wWait 20) (fun n => ⟨0, ⟨#[]⟩, 0, sm (tk T (i + 1)).t, (tk T (i + 2)).t, 0, n⟩) := by
    unfold Df.one
    rw [if_pos ((Df.isT_iff _ _ _).2 ⟨h0, h2⟩), if_pos h3, if_pos h4]
  have hol := Df.opt_le hG (i + 3) Df.wWait 20 hn3
  have HM : Hid (∀ w', Gr w w' → Calls Tryd.prog 62 #[.slice (some ⟨b, off, none⟩) T.length cap, .int .i64 ((i : Int) + 3), .string ⟨#[119, 97, 105, 116]⟩, .int .i64 20] w' fun e w2 => e = .returned (.tuple #[.int .i64 (optI (opt T (i + 3) Df.wWait 20).2), .int .i64 ((opt T (i + 3) Df.wWait 20).1 : Int), .bool (opt T (i + 3) Df.wWait 20).2.isSome]) ∧ Gr w' w2) := fun w' g => refMaybe_any T (some ⟨b, off, none⟩) cap (i + 3) Df.wWait 20 w' (hT.gr g) hG hn3 hn
  have HI : Hid (∀ w', Calls Tryd.prog 38 #[.agg #[.int .i64 (tk T (opt T (i + 3) Df.wWait 20).1).k, .string (tk T (opt T (i + 3) Df.wWait 20).1).t, .int .i64 (tk T (opt T (i + 3) Df.wWait 20).1).p], .int .i64 3, .string ⟨#[59]⟩] w' fun e w2 => e = .returned (.bool (isT (tk T (opt T (i + 3) Df.wWait 20).1) 3 Df.gSemi)) ∧ Gr w' w2) := fun w' => refIs_any _ 3 Df.gSemi w'
  have HFI : Hid (fin T (opt T (i + 3) Df.wWait 20) (fun n => ⟨0, ⟨#[]⟩, 0, sm (tk T (i + 1)).t, (tk T (i + 2)).t, 0, n⟩) = match (opt T (i + 3) Df.wWait 20).2 with
    | none => ((opt T (i + 3) Df.wWait 20).1, none)
    | some n => if isT (tk T (opt T (i + 3) Df.wWait 20).1) 3 Df.gSemi = true then ((opt T (i + 3) Df.wWait 20).1 + 1, some ((fun n => ⟨0, ⟨#[]⟩, 0, sm (tk T (i + 1)).t, (tk T (i + 2)).t, 0, n⟩) n)) else ((opt T (i + 3) Df.wWait 20).1, none)) := rfl
  rw [← HO0] at HFI
  obtain ⟨bm', offm', em', _, g0, g1, g2⟩ := hT (opt T (i + 3) Df.wWait 20).1 hol.2
  cases em'
  rw [← Df.tk_get T _ hol.2] at g0 g1 g2
  have hjl := hol.2
  generalize opt T (i + 3) Df.wWait 20 = OP at *
  obtain ⟨jm, om⟩ := OP
  simp only at *
  generalize isT (tk T jm) 3 Df.gSemi = SB at *
  generalize tk T jm = v at *
  obtain ⟨vk, vt, vp⟩ := v
  have e1 : ((tk T i).k != 1) = false := by simpa using h0
  rw [h2] at c1 HK
  rw [show kw Df.wAsk = 0 from Df.kw_ask] at HK
  unfold Df.wAsk at c1 HK
  have e3 : ((tk T (i + 1)).k != 2) = false := by simpa using h3
  have e4 : ((tk T (i + 2)).k != 1) = false := by simpa using h4
  have HS : Hid (∀ w', Calls Tryd.prog 61 #[.agg #[.int .i64 (tk T (i + 1)).k, .string (tk T (i + 1)).t, .int .i64 (tk T (i + 1)).p]] w' fun e w2 => e = .returned (.int .i64 (sm (tk T (i + 1)).t)) ∧ Gr w' w2) := fun w' => rdSmall_any _ w' h3 (hG.size _)
  generalize one T i = OO at *
  generalize sm (tk T (i + 1)).t = SM at *
  generalize tk T i = x at *
  obtain ⟨xk, xt, xp⟩ := x
  generalize tk T (i + 1) = y at *
  obtain ⟨yk, yt, yp⟩ := y
  generalize tk T (i + 2) = z at *
  obtain ⟨zk, zt, zp⟩ := z
  simp only at *
  have HN : Hid (w.heap.size + 1 ≠ b ∧ w.heap.size ≠ b) := ⟨by omega, by omega⟩
  clear h0 hT hG HO0 hol h2 h3 h4
  cases om with
  | none =>
    have HO : Hid (OO = (jm, none)) := HFI.out
    clear HFI
    simp only [optI, Option.isSome_none] at HM
    go_enter Tryd.func40, Tryd.ntmps40
    go_wp2_with fail
    refine (HK.out _).mono ?_
    rintro e w1 ⟨rfl, hg⟩
    have HA1 := Lib.hid (HA0.out.gr hg)
    have HB1 := Lib.hid (HB0.out.gr hg)
    have hg1 : Gr w w1 := (Gr.refl _).alloc.alloc.trans hg
    have hb1 : b < w1.heap.size := Nat.lt_of_lt_of_le hb hg1.size
    replace c0 := hg1.keep c0
    replace c1 := hg1.keep c1
    replace c2 := hg1.keep c2
    replace d0 := hg1.keep d0
    replace d1 := hg1.keep d1
    replace d2 := hg1.keep d2
    replace f0 := hg1.keep f0
    replace f1 := hg1.keep f1
    replace f2 := hg1.keep f2
    replace g0 := hg1.keep g0
    replace g1 := hg1.keep g1
    replace g2 := hg1.keep g2
    clear hg
    go_wp2_with fail
    refine (HS.out _).mono ?_
    rintro e w2 ⟨rfl, hg⟩
    have hg2 : Gr w w2 := hg1.trans hg
    have HB2a := HB1.out.gr hg
    have HA2a := HA1.out.gr hg
    replace f0 := hg.keep f0
    replace f1 := hg.keep f1
    replace f2 := hg.keep f2
    replace g0 := hg.keep g0
    replace g1 := hg.keep g1
    replace g2 := hg.keep g2
    have hb2 : b < w2.heap.size := Nat.lt_of_lt_of_le hb hg2.size
    have HB2 := Lib.hid ((HB2a.s3 (.int .i64 SM)).s4 (.string zt))
    have HA2 := Lib.hid ((HA2a.setFar ⟨w.heap.size + 1, 3, none⟩ (.int .i64 SM) (by simp)).setFar ⟨w.heap.size + 1, 4, none⟩ (.string zt) (by simp))
    obtain ⟨q0, q1, q2, q3, q4, q5, q6⟩ := HB2a.cells
    obtain ⟨p0, p1, p2, p3, p4, p5, p6⟩ := HB2a.frozens
    have ql := HB2a.lt
    have nb1 := HN.out.1
    have nb2 : ¬ b = w.heap.size + 1 := fun e => nb1 e.symm
    clear hg HB2a HA2a hg1 c0 c1 c2 d0 d1 d2
    have HGS : Hid (Gr w ((w2.setCell ⟨w.heap.size + 1, 3, none⟩ (.int .i64 SM)).setCell ⟨w.heap.size + 1, 4, none⟩ (.string zt))) := ((hg2.set ⟨w.heap.size + 1, 3, none⟩ (by simp) (.int .i64 SM)).set ⟨w.heap.size + 1, 4, none⟩ (by simp) (.string zt))
    have g0s : ((w2.setCell ⟨w.heap.size + 1, 3, none⟩ (.int .i64 SM)).setCell ⟨w.heap.size + 1, 4, none⟩ (.string zt)).cell? ⟨b, off + jm * 3, none⟩ = _ := ((World.cell?_setCell_far _ _ _ _ (by simpa using nb1)).trans ((World.cell?_setCell_far _ _ _ _ (by simpa using nb1)).trans g0))
    have g1s : ((w2.setCell ⟨w.heap.size + 1, 3, none⟩ (.int .i64 SM)).setCell ⟨w.heap.size + 1, 4, none⟩ (.string zt)).cell? ⟨b, off + jm * 3 + 1, none⟩ = _ := ((World.cell?_setCell_far _ _ _ _ (by simpa using nb1)).trans ((World.cell?_setCell_far _ _ _ _ (by simpa using nb1)).trans g1))
    have g2s : ((w2.setCell ⟨w.heap.size + 1, 3, none⟩ (.int .i64 SM)).setCell ⟨w.heap.size + 1, 4, none⟩ (.string zt)).cell? ⟨b, off + jm * 3 + 2, none⟩ = _ := ((World.cell?_setCell_far _ _ _ _ (by simpa using nb1)).trans ((World.cell?_setCell_far _ _ _ _ (by simpa using nb1)).trans g2))
    have hbs : b < ((w2.setCell ⟨w.heap.size + 1, 3, none⟩ (.int .i64 SM)).setCell ⟨w.heap.size + 1, 4, none⟩ (.string zt)).heap.size := by simpa using hb2
    clear g0 g1 g2
    go_wp2_with fail
    refine (HM.out _ HGS.out).mono ?_
    rintro e w5 ⟨rfl, hg⟩
    have hg5 : Gr w w5 := HGS.out.trans hg
    have HB5a := HB2.out.gr hg
    have HA5a := HA2.out.gr hg
    replace g0s := hg.keep g0s
    replace g1s := hg.keep g1s
    replace g2s := hg.keep g2s
    have hb5 : b < w5.heap.size := Nat.lt_of_lt_of_le hbs hg.size
    have HB5 := Lib.hid (HB5a.s6 (.int .i64 0))
    have HA5 := Lib.hid (HA5a.setFar ⟨w.heap.size + 1, 6, none⟩ (.int .i64 0) (by simp))
    obtain ⟨r0, r1, r2, r3, r4, r5, r6⟩ := HB5a.cells
    obtain ⟨k0, k1, k2, k3, k4, k5, k6⟩ := HB5a.frozens
    have rl := HB5a.lt
    obtain ⟨a0, a1, a2, a3, a4, a5, a6⟩ := HA5a.cells
    obtain ⟨af0, af1, af2, af3, af4, af5, af6⟩ := HA5a.frozens
    have al := HA5a.lt
    clear hg HB5a HA5a
    go_wp2
    refine bodyPost_ret (v := .tuple #[.agg #[.int .i64 0, .string ⟨#[]⟩, .int .i64 0, .int .i64 SM, .string zt, .int .i64 0, .int .i64 0], .int .i64 (jm : Int), .bool false]) (by simp [results, Tryd.results40, go_sem, *]) rfl ?_
    rw [HO.out]
    exact ⟨⟨0, ⟨#[]⟩, 0, SM, zt, 0, 0⟩, rfl, fun s h => (by cases h), (by (repeat' (first | with_reducible exact Gr.refl _ | with_reducible refine Gr.set ?_ _ ?_ _ | with_reducible refine Gr.alloc ?_ | with_reducible refine Gr.drew ?_ | with_reducible refine Gr.trans ?_ (by assumption))) <;> (first | (simp; done) | (simp; omega) | omega))⟩
  | some n =>
    simp only [optI, Option.isSome_some] at HM
    cases SB with
    | true =>
      have HO : Hid (OO = (jm + 1, some ⟨0, ⟨#[]⟩, 0, SM, zt, 0, n⟩)) := HFI.out
      clear HFI
      go_enter Tryd.func40, Tryd.ntmps40
      go_wp2_with fail
      refine (HK.out _).mono ?_
      rintro e w1 ⟨rfl, hg⟩
      have HA1 := Lib.hid (HA0.out.gr hg)
      have HB1 := Lib.hid (HB0.out.gr hg)
      have hg1 : Gr w w1 := (Gr.refl _).alloc.alloc.trans hg
      have hb1 : b < w1.heap.size := Nat.lt_of_lt_of_le hb hg1.size
      replace c0 := hg1.keep c0
      replace c1 := hg1.keep c1
      replace c2 := hg1.keep c2
      replace d0 := hg1.keep d0
      replace d1 := hg1.keep d1
      replace d2 := hg1.keep d2
      replace f0 := hg1.keep f0
      replace f1 := hg1.keep f1
      replace f2 := hg1.keep f2
      replace g0 := hg1.keep g0
      replace g1 := hg1.keep g1
      replace g2 := hg1.keep g2
      clear hg
      go_wp2_with fail
      refine (HS.out _).mono ?_
      rintro e w2 ⟨rfl, hg⟩
      have hg2 : Gr w w2 := hg1.trans hg
      have HB2a := HB1.out.gr hg
      have HA2a := HA1.out.gr hg
      replace f0 := hg.keep f0
      replace f1 := hg.keep f1
      replace f2 := hg.keep f2
      replace g0 := hg.keep g0
      replace g1 := hg.keep g1
      replace g2 := hg.keep g2
      have hb2 : b < w2.heap.size := Nat.lt_of_lt_of_le hb hg2.size
      have HB2 := Lib.hid ((HB2a.s3 (.int .i64 SM)).s4 (.string zt))
      have HA2 := Lib.hid ((HA2a.setFar ⟨w.heap.size + 1, 3, none⟩ (.int .i64 SM) (by simp)).setFar ⟨w.heap.size + 1, 4, none⟩ (.string zt) (by simp))
      obtain ⟨q0, q1, q2, q3, q4, q5, q6⟩ := HB2a.cells
      obtain ⟨p0, p1, p2, p3, p4, p5, p6⟩ := HB2a.frozens
      have ql := HB2a.lt
      have nb1 := HN.out.1
      have nb2 : ¬ b = w.heap.size + 1 := fun e => nb1 e.symm
      clear hg HB2a HA2a hg1 c0 c1 c2 d0 d1 d2
      have HGS : Hid (Gr w ((w2.setCell ⟨w.heap.size + 1, 3, none⟩ (.int .i64 SM)).setCell ⟨w.heap.size + 1, 4, none⟩ (.string zt))) := ((hg2.set ⟨w.heap.size + 1, 3, none⟩ (by simp) (.int .i64 SM)).set ⟨w.heap.size + 1, 4, none⟩ (by simp) (.string zt))
      have g0s : ((w2.setCell ⟨w.heap.size + 1, 3, none⟩ (.int .i64 SM)).setCell ⟨w.heap.size + 1, 4, none⟩ (.string zt)).cell? ⟨b, off + jm * 3, none⟩ = _ := ((World.cell?_setCell_far _ _ _ _ (by simpa using nb1)).trans ((World.cell?_setCell_far _ _ _ _ (by simpa using nb1)).trans g0))
      have g1s : ((w2.setCell ⟨w.heap.size + 1, 3, none⟩ (.int .i64 SM)).setCell ⟨w.heap.size + 1, 4, none⟩ (.string zt)).cell? ⟨b, off + jm * 3 + 1, none⟩ = _ := ((World.cell?_setCell_far _ _ _ _ (by simpa using nb1)).trans ((World.cell?_setCell_far _ _ _ _ (by simpa using nb1)).trans g1))
      have g2s : ((w2.setCell ⟨w.heap.size + 1, 3, none⟩ (.int .i64 SM)).setCell ⟨w.heap.size + 1, 4, none⟩ (.string zt)).cell? ⟨b, off + jm * 3 + 2, none⟩ = _ := ((World.cell?_setCell_far _ _ _ _ (by simpa using nb1)).trans ((World.cell?_setCell_far _ _ _ _ (by simpa using nb1)).trans g2))
      have hbs : b < ((w2.setCell ⟨w.heap.size + 1, 3, none⟩ (.int .i64 SM)).setCell ⟨w.heap.size + 1, 4, none⟩ (.string zt)).heap.size := by simpa using hb2
      clear g0 g1 g2
      go_wp2_with fail
      refine (HM.out _ HGS.out).mono ?_
      rintro e w5 ⟨rfl, hg⟩
      have hg5 : Gr w w5 := HGS.out.trans hg
      have HB5a := HB2.out.gr hg
      have HA5a := HA2.out.gr hg
      replace g0s := hg.keep g0s
      replace g1s := hg.keep g1s
      replace g2s := hg.keep g2s
      have hb5 : b < w5.heap.size := Nat.lt_of_lt_of_le hbs hg.size
      have HB5 := Lib.hid (HB5a.s6 (.int .i64 n))
      have HA5 := Lib.hid (HA5a.setFar ⟨w.heap.size + 1, 6, none⟩ (.int .i64 n) (by simp))
      obtain ⟨r0, r1, r2, r3, r4, r5, r6⟩ := HB5a.cells
      obtain ⟨k0, k1, k2, k3, k4, k5, k6⟩ := HB5a.frozens
      have rl := HB5a.lt
      clear hg HB5a HA5a
      go_wp2_with fail
      refine (HI.out _).mono ?_
      rintro e w6 ⟨rfl, hg⟩
      have hg6 : Gr w w6 := (hg5.set ⟨w.heap.size + 1, 6, none⟩ (by simp) (.int .i64 n)).trans hg
      obtain ⟨s0, s1, s2, s3, s4, s5, s6⟩ := (HB5.out.gr hg).cells
      have sl := (HB5.out.gr hg).lt
      obtain ⟨a0, a1, a2, a3, a4, a5, a6⟩ := (HA5.out.gr hg).cells
      obtain ⟨af0, af1, af2, af3, af4, af5, af6⟩ := (HA5.out.gr hg).frozens
      have al := (HA5.out.gr hg).lt
      clear hg hg5 r0 r1 r2 r3 r4 r5 r6 k0 k1 k2 k3 k4 k5 k6 rl
      go_wp2
      refine bodyPost_ret (v := .tuple #[.agg #[.int .i64 0, .string ⟨#[]⟩, .int .i64 0, .int .i64 SM, .string zt, .int .i64 0, .int .i64 n], .int .i64 ((jm : Int) + 1), .bool true]) (by simp [results, Tryd.results40, go_sem, *]) rfl ?_
      rw [HO.out]
      exact ⟨⟨0, ⟨#[]⟩, 0, SM, zt, 0, n⟩, rfl, fun s h => Option.some.inj h, (by (repeat' (first | with_reducible exact Gr.refl _ | with_reducible refine Gr.set ?_ _ ?_ _ | with_reducible refine Gr.alloc ?_ | with_reducible refine Gr.drew ?_ | with_reducible refine Gr.trans ?_ (by assumption))) <;> (first | (simp; done) | (simp; omega) | omega))⟩
    | false =>
      have HO : Hid (OO = (jm, none)) := HFI.out
      clear HFI
      go_enter Tryd.func40, Tryd.ntmps40
      go_wp2_with fail
      refine (HK.out _).mono ?_
      rintro e w1 ⟨rfl, hg⟩
      have HA1 := Lib.hid (HA0.out.gr hg)
      have HB1 := Lib.hid (HB0.out.gr hg)
      have hg1 : Gr w w1 := (Gr.refl _).alloc.alloc.trans hg
      have hb1 : b < w1.heap.size := Nat.lt_of_lt_of_le hb hg1.size
      replace c0 := hg1.keep c0
      replace c1 := hg1.keep c1
      replace c2 := hg1.keep c2
      replace d0 := hg1.keep d0
      replace d1 := hg1.keep d1
      replace d2 := hg1.keep d2
      replace f0 := hg1.keep f0
      replace f1 := hg1.keep f1
      replace f2 := hg1.keep f2
      replace g0 := hg1.keep g0
      replace g1 := hg1.keep g1
      replace g2 := hg1.keep g2
      clear hg
      go_wp2_with fail
      refine (HS.out _).mono ?_
      rintro e w2 ⟨rfl, hg⟩
      have hg2 : Gr w w2 := hg1.trans hg
      have HB2a := HB1.out.gr hg
      have HA2a := HA1.out.gr hg
      replace f0 := hg.keep f0
      replace f1 := hg.keep f1
      replace f2 := hg.keep f2
      replace g0 := hg.keep g0
      replace g1 := hg.keep g1
      replace g2 := hg.keep g2
      have hb2 : b < w2.heap.size := Nat.lt_of_lt_of_le hb hg2.size
      have HB2 := Lib.hid ((HB2a.s3 (.int .i64 SM)).s4 (.string zt))
      have HA2 := Lib.hid ((HA2a.setFar ⟨w.heap.size + 1, 3, none⟩ (.int .i64 SM) (by simp)).setFar ⟨w.heap.size + 1, 4, none⟩ (.string zt) (by simp))
      obtain ⟨q0, q1, q2, q3, q4, q5, q6⟩ := HB2a.cells
      obtain ⟨p0, p1, p2, p3, p4, p5, p6⟩ := HB2a.frozens
      have ql := HB2a.lt
      have nb1 := HN.out.1
      have nb2 : ¬ b = w.heap.size + 1 := fun e => nb1 e.symm
      clear hg HB2a HA2a hg1 c0 c1 c2 d0 d1 d2
      have HGS : Hid (Gr w ((w2.setCell ⟨w.heap.size + 1, 3, none⟩ (.int .i64 SM)).setCell ⟨w.heap.size + 1, 4, none⟩ (.string zt))) := ((hg2.set ⟨w.heap.size + 1, 3, none⟩ (by simp) (.int .i64 SM)).set ⟨w.heap.size + 1, 4, none⟩ (by simp) (.string zt))
      have g0s : ((w2.setCell ⟨w.heap.size + 1, 3, none⟩ (.int .i64 SM)).setCell ⟨w.heap.size + 1, 4, none⟩ (.string zt)).cell? ⟨b, off + jm * 3, none⟩ = _ := ((World.cell?_setCell_far _ _ _ _ (by simpa using nb1)).trans ((World.cell?_setCell_far _ _ _ _ (by simpa using nb1)).trans g0))
      have g1s : ((w2.setCell ⟨w.heap.size + 1, 3, none⟩ (.int .i64 SM)).setCell ⟨w.heap.size + 1, 4, none⟩ (.string zt)).cell? ⟨b, off + jm * 3 + 1, none⟩ = _ := ((World.cell?_setCell_far _ _ _ _ (by simpa using nb1)).trans ((World.cell?_setCell_far _ _ _ _ (by simpa using nb1)).trans g1))
      have g2s : ((w2.setCell ⟨w.heap.size + 1, 3, none⟩ (.int .i64 SM)).setCell ⟨w.heap.size + 1, 4, none⟩ (.string zt)).cell? ⟨b, off + jm * 3 + 2, none⟩ = _ := ((World.cell?_setCell_far _ _ _ _ (by simpa using nb1)).trans ((World.cell?_setCell_far _ _ _ _ (by simpa using nb1)).trans g2))
      have hbs : b < ((w2.setCell ⟨w.heap.size + 1, 3, none⟩ (.int .i64 SM)).setCell ⟨w.heap.size + 1, 4, none⟩ (.string zt)).heap.size := by simpa using hb2
      clear g0 g1 g2
      go_wp2_with fail
      refine (HM.out _ HGS.out).mono ?_
      rintro e w5 ⟨rfl, hg⟩
      have hg5 : Gr w w5 := HGS.out.trans hg
      have HB5a := HB2.out.gr hg
      have HA5a := HA2.out.gr hg
      replace g0s := hg.keep g0s
      replace g1s := hg.keep g1s
      replace g2s := hg.keep g2s
      have hb5 : b < w5.heap.size := Nat.lt_of_lt_of_le hbs hg.size
      have HB5 := Lib.hid (HB5a.s6 (.int .i64 n))
      have HA5 := Lib.hid (HA5a.setFar ⟨w.heap.size + 1, 6, none⟩ (.int .i64 n) (by simp))
      obtain ⟨r0, r1, r2, r3, r4, r5, r6⟩ := HB5a.cells
      obtain ⟨k0, k1, k2, k3, k4, k5, k6⟩ := HB5a.frozens
      have rl := HB5a.lt
      clear hg HB5a HA5a
      go_wp2_with fail
      refine (HI.out _).mono ?_
      rintro e w6 ⟨rfl, hg⟩
      have hg6 : Gr w w6 := (hg5.set ⟨w.heap.size + 1, 6, none⟩ (by simp) (.int .i64 n)).trans hg
      obtain ⟨s0, s1, s2, s3, s4, s5, s6⟩ := (HB5.out.gr hg).cells
      have sl := (HB5.out.gr hg).lt
      obtain ⟨a0, a1, a2, a3, a4, a5, a6⟩ := (HA5.out.gr hg).cells
      obtain ⟨af0, af1, af2, af3, af4, af5, af6⟩ := (HA5.out.gr hg).frozens
      have al := (HA5.out.gr hg).lt
      clear hg hg5 r0 r1 r2 r3 r4 r5 r6 k0 k1 k2 k3 k4 k5 k6 rl
      go_wp2
      refine bodyPost_ret (v := .tuple #[.agg #[.int .i64 0, .string ⟨#[]⟩, .int .i64 0, .int .i64 SM, .string zt, .int .i64 0, .int .i64 n], .int .i64 (jm : Int), .bool false]) (by simp [results, Tryd.results40, go_sem, *]) rfl ?_
      rw [HO.out]
      exact ⟨⟨0, ⟨#[]⟩, 0, SM, zt, 0, n⟩, rfl, fun s h => (by cases h), (by (repeat' (first | with_reducible exact Gr.refl _ | with_reducible refine Gr.set ?_ _ ?_ _ | with_reducible refine Gr.alloc ?_ | with_reducible refine Gr.drew ?_ | with_reducible refine Gr.trans ?_ (by assumption))) <;> (first | (simp; done) | (simp; omega) | omega))⟩

set_option maxHeartbeats 8000000 in
set_option maxRecDepth 100000 in
theorem refOneD3 (T : List Tok) (ad : Option Addr) (cap : Nat) (i : Nat) (w : World) (hT : ToksAt w ad T) (hG : Gd T) (hi : i < T.length) (hn : T.length ≤ 5000) (h0 : (tk T i).k = 1) (h1 : kw (tk T i).t ≠ 0) (h3 : (tk T (i + 1)).k = 1) (h4 : (tk T (i + 2)).k = 2) :
    Calls Tryd.prog 40 #[.slice ad T.length cap, .int .i64 (i : Int)] w fun e w' => OnR w (one T i) e w' := by
  have HA0 : Hid (AccAt ((w.alloc (.cells #[.int .i64 0, .string ⟨#[]⟩, .int .i64 0, .int .i64 0, .string ⟨#[]⟩, .int .i64 0, .int .i64 0] 47)).alloc (.cells #[.int .i64 0, .string ⟨#[]⟩, .int .i64 0, .int .i64 0, .string ⟨#[]⟩, .int .i64 0, .int .i64 0] 47)) w.heap.size (.int .i64 0) (.string ⟨#[]⟩) (.int .i64 0) (.int .i64 0) (.string ⟨#[]⟩) (.int .i64 0) (.int .i64 0)) := (AccAt.new w (.int .i64 0) (.string ⟨#[]⟩) (.int .i64 0) (.int .i64 0) (.string ⟨#[]⟩) (.int .i64 0) (.int .i64 0) 47 _ rfl).gr (Gr.refl _).alloc
  have HB0 : Hid (AccAt ((w.alloc (.cells #[.int .i64 0, .string ⟨#[]⟩, .int .i64 0, .int .i64 0, .string ⟨#[]⟩, .int .i64 0, .int .i64 0] 47)).alloc (.cells #[.int .i64 0, .string ⟨#[]⟩, .int .i64 0, .int .i64 0, .string ⟨#[]⟩, .int .i64 0, .int .i64 0] 47)) (w.heap.size + 1) (.int .i64 0) (.string ⟨#[]⟩) (.int .i64 0) (.int .i64 0) (.string ⟨#[]⟩) (.int .i64 0) (.int .i64 0)) := AccAt.new _ (.int .i64 0) (.string ⟨#[]⟩) (.int .i64 0) (.int .i64 0) (.string ⟨#[]⟩) (.int .i64 0) (.int .i64 0) 47 _ (by simp)
  have HK : Hid (∀ w', Calls Tryd.prog 60 #[.string (tk T i).t] w' fun e w2 => e = .returned (.int .i64 (kw (tk T i).t)) ∧ Gr w' w2) := fun w' => refKind_any _ w'
  obtain ⟨b, off, rfl, hb, c0, c1, c2⟩ := hT i hi
  rw [← Df.tk_get T i hi] at c0 c1 c2
  have hn1 := hG.next (i := i) (by rw [h0]; decide)
  have hn2 := hG.next (i := i + 1) (by rw [h3]; decide)
  have hn3 := hG.next (i := i + 2) (by rw [h4]; decide)
  obtain ⟨b1', off1', e1', _, d0, d1, d2⟩ := hT (i + 1) hn1
  cases e1'
  rw [← Df.tk_get T (i + 1) hn1] at d0 d1 d2
  obtain ⟨b2', off2', e2', _, f0, f1, f2⟩ := hT (i + 2) hn2
  cases e2'
  rw [← Df.tk_get T (i + 2) hn2] at f0 f1 f2
  have HO0 : one T i = fin T (opt T (i + 3) Df.wTries 1) (fun n => ⟨kw (tk T i).t, (tk T (i + 1)).t, valE 2 (tk T (i + 2)).t, 0, ⟨#[]⟩, n, 0⟩) := by
    unfold Df.one
    rw [if_neg (fun e => h1 (by rw [((Df.isT_iff _ _ _).1 e).2]; exact Df.kw_ask)), if_pos ⟨h0, h1⟩, if_pos h3, if_pos h4]
  have hol := Df.opt_le hG (i + 3) Df.wTries 1 hn3
  have HM : Hid (∀ w', Gr w w' → Calls Tryd.prog 62 #[.slice (some ⟨b, off, none⟩) T.length cap, .int .i64 ((i : Int) + 3), .string ⟨#[116, 114, 105, 101, 115]⟩, .int .i64 1] w' fun e w2 => e = .returned (.tuple #[.int .i64 (optI (opt T (i + 3) Df.wTries 1).2), .int .i64 ((opt T (i + 3) Df.wTries 1).1 : Int), .bool (opt T (i + 3) Df.wTries 1).2.isSome]) ∧ Gr w' w2) := fun w' g => refMaybe_any T (some ⟨b, off, none⟩) cap (i + 3) Df.wTries 1 w' (hT.gr g) hG hn3 hn
  have HI : Hid (∀ w', Calls Tryd.prog 38 #[.agg #[.int .i64 (tk T (opt T (i + 3) Df.wTries 1).1).k, .string (tk T (opt T (i + 3) Df.wTries 1).1).t, .int .i64 (tk T (opt T (i + 3) Df.wTries 1).1).p], .int .i64 3, .string ⟨#[59]⟩] w' fun e w2 => e = .returned (.bool (isT (tk T (opt T (i + 3) Df.wTries 1).1) 3 Df.gSemi)) ∧ Gr w' w2) := fun w' => refIs_any _ 3 Df.gSemi w'
  have HFI : Hid (fin T (opt T (i + 3) Df.wTries 1) (fun n => ⟨kw (tk T i).t, (tk T (i + 1)).t, valE 2 (tk T (i + 2)).t, 0, ⟨#[]⟩, n, 0⟩) = match (opt T (i + 3) Df.wTries 1).2 with
    | none => ((opt T (i + 3) Df.wTries 1).1, none)
    | some n => if isT (tk T (opt T (i + 3) Df.wTries 1).1) 3 Df.gSemi = true then ((opt T (i + 3) Df.wTries 1).1 + 1, some ((fun n => ⟨kw (tk T i).t, (tk T (i + 1)).t, valE 2 (tk T (i + 2)).t, 0, ⟨#[]⟩, n, 0⟩) n)) else ((opt T (i + 3) Df.wTries 1).1, none)) := rfl
  rw [← HO0] at HFI
  obtain ⟨bm', offm', em', _, g0, g1, g2⟩ := hT (opt T (i + 3) Df.wTries 1).1 hol.2
  cases em'
  rw [← Df.tk_get T _ hol.2] at g0 g1 g2
  have hjl := hol.2
  generalize opt T (i + 3) Df.wTries 1 = OP at *
  obtain ⟨jm, om⟩ := OP
  simp only at *
  generalize isT (tk T jm) 3 Df.gSemi = SB at *
  generalize tk T jm = v at *
  obtain ⟨vk, vt, vp⟩ := v
  have e1 : ((tk T i).k != 1) = false := by simpa using h0
  have ht := text_eq (tk T i).t [97, 115, 107]
  have hna : ¬ (tk T i).t = Df.wAsk := fun e => h1 (by rw [e]; exact Df.kw_ask)
  rw [decide_eq_false (show ¬ (tk T i).t = ⟨[97, 115, 107].toArray⟩ from hna)] at ht
  have e2 : (kw (tk T i).t == 0) = false := by simpa using h1
  have e3 : ((tk T (i + 1)).k != 1) = false := by simpa using h3
  have e4 : ((tk T (i + 2)).k != 2) = false := by simpa using h4
  have HS : Hid (∀ w', Calls Tryd.prog 63 #[.agg #[.int .i64 (tk T (i + 2)).k, .string (tk T (i + 2)).t, .int .i64 (tk T (i + 2)).p]] w' fun e w2 => e = .returned (.tuple #[.int .i64 (valE 2 (tk T (i + 2)).t), .bool (valB (tk T (i + 2)).k (tk T (i + 2)).t)]) ∧ Gr w' w2) := fun w' => by
    have := refValue_any (tk T (i + 2)).k (tk T (i + 2)).t (tk T (i + 2)).p w' (by have := hG.size (i + 2); omega)
    rw [show valE (tk T (i + 2)).k (tk T (i + 2)).t = valE 2 (tk T (i + 2)).t by rw [h4]] at this
    exact this
  generalize one T i = OO at *
  generalize valE 2 (tk T (i + 2)).t = VE at *
  generalize valB (tk T (i + 2)).k (tk T (i + 2)).t = VB at *
  generalize kw (tk T i).t = KW at *
  generalize tk T i = x at *
  obtain ⟨xk, xt, xp⟩ := x
  generalize tk T (i + 1) = y at *
  obtain ⟨yk, yt, yp⟩ := y
  generalize tk T (i + 2) = z at *
  obtain ⟨zk, zt, zp⟩ := z
  simp only at *
  have HN : Hid (w.heap.size + 1 ≠ b ∧ w.heap.size ≠ b) := ⟨by omega, by omega⟩
  clear h0 hT hG HO0 hol h1 h3 h4 hna
  cases om with
  | none =>
    have HO : Hid (OO = (jm, none)) := HFI.out
    clear HFI
    simp only [optI, Option.isSome_none] at HM
    go_enter Tryd.func40, Tryd.ntmps40
    go_wp2_with fail
    refine (HK.out _).mono ?_
    rintro e w1 ⟨rfl, hg⟩
    have HA1 := Lib.hid (HA0.out.gr hg)
    have HB1 := Lib.hid (HB0.out.gr hg)
    have hg1 : Gr w w1 := (Gr.refl _).alloc.alloc.trans hg
    have hb1 : b < w1.heap.size := Nat.lt_of_lt_of_le hb hg1.size
    replace c0 := hg1.keep c0
    replace c1 := hg1.keep c1
    replace c2 := hg1.keep c2
    replace d0 := hg1.keep d0
    replace d1 := hg1.keep d1
    replace d2 := hg1.keep d2
    replace f0 := hg1.keep f0
    replace f1 := hg1.keep f1
    replace f2 := hg1.keep f2
    replace g0 := hg1.keep g0
    replace g1 := hg1.keep g1
    replace g2 := hg1.keep g2
    clear hg
    go_wp2_with fail
    refine (HS.out _).mono ?_
    rintro e w2 ⟨rfl, hg⟩
    have hg2 : Gr w w2 := hg1.trans hg
    have HB2 := Lib.hid (HB1.out.gr hg)
    have HA2 := Lib.hid (HA1.out.gr hg)
    replace c0 := hg.keep c0
    replace c1 := hg.keep c1
    replace c2 := hg.keep c2
    replace d0 := hg.keep d0
    replace d1 := hg.keep d1
    replace d2 := hg.keep d2
    replace f0 := hg.keep f0
    replace f1 := hg.keep f1
    replace f2 := hg.keep f2
    replace g0 := hg.keep g0
    replace g1 := hg.keep g1
    replace g2 := hg.keep g2
    have hb2 : b < w2.heap.size := Nat.lt_of_lt_of_le hb hg2.size
    have nb1 := HN.out.1
    have nb2 : ¬ b = w.heap.size + 1 := fun e => nb1 e.symm
    clear hg hg1
    obtain ⟨j1, hj1⟩ : ∃ j1, j1 = i + 1 := ⟨_, rfl⟩
    have hk : w2.cell? ⟨b, off + i * 3 + 1, none⟩ = some (.string xt) ∧ w2.cell? ⟨b, off + j1 * 3 + 1, none⟩ = some (.string yt) := ⟨c1, by rw [hj1]; exact d1⟩
    have hw1 : IntKind.i64.wrap ((i : Int) + 1) = (j1 : Int) := by rw [IntKind.wrap_i64]; omega
    have hlj : (j1 : Int) < (T.length : Int) := by omega
    clear hj1
    go_upto_region 22 with fail
    refine wp_region_held_drew (S := (fun w' => w'.cell? ⟨b, off + i * 3 + 1, none⟩ = some (.string xt) ∧ w'.cell? ⟨b, off + j1 * 3 + 1, none⟩ = some (.string yt))) (by kernel_rfl) (by first | with_reducible exact keep2s hk3 _ nb1 nb1 _ _ _ | with_reducible exact keep2 hk (by (repeat' (first | with_reducible exact Gr.refl _ | with_reducible refine Gr.set ?_ _ ?_ _ | with_reducible refine Gr.alloc ?_ | with_reducible refine Gr.drew ?_ | with_reducible refine Gr.trans ?_ (by assumption))) <;> (first | (simp; done) | (simp; omega) | omega))) (fun hHeld => ?_)
    refine take_yes 0 113 (v := ?_) rfl rfl (by kernel_rfl) (by kernel_rfl) (by kernel_rfl) (fun _ _ _ h => h) (by rfl) ?_ hHeld ?_
    rotate_left
    · (intro w hSw; (try dsimp only at hSw); go_simp; try with_reducible rfl)
    simp only [Act.put, List.setIfInBounds_toArray, List.set_cons_zero, List.set_cons_succ]
    refine take_yes 1 114 (v := ?_) rfl rfl (by kernel_rfl) (by kernel_rfl) (by kernel_rfl) (fun _ _ _ h => h) (by rfl) ?_ hHeld ?_
    rotate_left
    · (intro w hSw; (try dsimp only at hSw); go_simp; try with_reducible rfl)
    simp only [Act.put, List.setIfInBounds_toArray, List.set_cons_zero, List.set_cons_succ]
    refine take_yes 2 115 (v := ?_) rfl rfl (by kernel_rfl) (by kernel_rfl) (by kernel_rfl) (fun _ _ _ h => h) (by rfl) ?_ hHeld ?_
    rotate_left
    · (intro w hSw; (try dsimp only at hSw); go_simp; try with_reducible rfl)
    simp only [Act.put, List.setIfInBounds_toArray, List.set_cons_zero, List.set_cons_succ]
    refine take_yes 3 116 (v := ?_) rfl rfl (by kernel_rfl) (by kernel_rfl) (by kernel_rfl) (fun _ _ _ h => h) (by rfl) ?_ hHeld ?_
    rotate_left
    · (intro w hSw; (try dsimp only at hSw); go_simp; try with_reducible rfl)
    simp only [Act.put, List.setIfInBounds_toArray, List.set_cons_zero, List.set_cons_succ]
    refine take_yes 4 117 (v := ?_) rfl rfl (by kernel_rfl) (by kernel_rfl) (by kernel_rfl) (fun _ _ _ h => h) (by rfl) ?_ hHeld ?_
    rotate_left
    · (intro w hSw; (try dsimp only at hSw); go_simp; try with_reducible rfl)
    simp only [Act.put, List.setIfInBounds_toArray, List.set_cons_zero, List.set_cons_succ]
    refine take_yes 6 119 (v := ?_) rfl rfl (by kernel_rfl) (by kernel_rfl) (by kernel_rfl) (fun _ _ _ h => h) (by rfl) ?_ hHeld ?_
    rotate_left
    · (intro w hSw; (try dsimp only at hSw); go_simp; try with_reducible rfl)
    simp only [Act.put, List.setIfInBounds_toArray, List.set_cons_zero, List.set_cons_succ]
    refine take_yes 7 120 (v := ?_) rfl rfl (by kernel_rfl) (by kernel_rfl) (by kernel_rfl) (fun _ _ _ h => h) (by rfl) ?_ hHeld ?_
    rotate_left
    · (intro w hSw; (try dsimp only at hSw); go_simp; try with_reducible rfl)
    simp only [Act.put, List.setIfInBounds_toArray, List.set_cons_zero, List.set_cons_succ]
    refine take_yes 8 121 (v := ?_) rfl rfl (by kernel_rfl) (by kernel_rfl) (by kernel_rfl) (fun _ _ _ h => h) (by rfl) ?_ hHeld ?_
    rotate_left
    · (intro w hSw; (try dsimp only at hSw); go_simp; try with_reducible rfl)
    simp only [Act.put, List.setIfInBounds_toArray, List.set_cons_zero, List.set_cons_succ]
    refine take_yes 9 122 (v := ?_) rfl rfl (by kernel_rfl) (by kernel_rfl) (by kernel_rfl) (fun _ _ _ h => h) (by rfl) ?_ hHeld ?_
    rotate_left
    · (intro w hSw; (try dsimp only at hSw); go_simp; try with_reducible rfl)
    simp only [Act.put, List.setIfInBounds_toArray, List.set_cons_zero, List.set_cons_succ]
    refine take_yes 10 123 (v := ?_) rfl rfl (by kernel_rfl) (by kernel_rfl) (by kernel_rfl) (fun _ _ _ h => h) (by rfl) ?_ hHeld ?_
    rotate_left
    · (intro w hSw; (try dsimp only at hSw); go_simp; try with_reducible rfl)
    simp only [Act.put, List.setIfInBounds_toArray, List.set_cons_zero, List.set_cons_succ]
    refine take_yes 11 124 (v := ?_) rfl rfl (by kernel_rfl) (by kernel_rfl) (by kernel_rfl) (fun _ _ _ h => h) (by rfl) ?_ hHeld ?_
    rotate_left
    · (intro w hSw; (try dsimp only at hSw); go_simp; try with_reducible rfl)
    simp only [Act.put, List.setIfInBounds_toArray, List.set_cons_zero, List.set_cons_succ]
    refine take_yes 12 125 (v := ?_) rfl rfl (by kernel_rfl) (by kernel_rfl) (by kernel_rfl) (fun _ _ _ h => h) (by rfl) ?_ hHeld ?_
    rotate_left
    · (intro w hSw; (try dsimp only at hSw); go_simp; try with_reducible rfl)
    simp only [Act.put, List.setIfInBounds_toArray, List.set_cons_zero, List.set_cons_succ]
    refine wpAnyH_ready (rs := [5]) (by kernel_rfl) (by simp) (AllReadyH.cons rfl (fun K hK => ?_) AllReadyH.nil)
    go_simp
    refine (HK.out _).mono ?_; rintro e w3 ⟨rfl, hgk⟩
    (try go_wp2_with fail)
    refine hK.out _ _ (by first | with_reducible exact keep2s hk3 _ nb1 nb1 _ _ _ | with_reducible exact keep2 hk (by (repeat' (first | with_reducible exact Gr.refl _ | with_reducible refine Gr.set ?_ _ ?_ _ | with_reducible refine Gr.alloc ?_ | with_reducible refine Gr.drew ?_ | with_reducible refine Gr.trans ?_ (by assumption))) <;> (first | (simp; done) | (simp; omega) | omega))) (fun hHeldN => ?_)
    clear hHeld hK K
    have hHeld := hHeldN
    clear hHeldN
    refine take_yes 13 126 (v := ?_) rfl rfl (by kernel_rfl) (by kernel_rfl) (by kernel_rfl) (fun _ _ _ h => h) (by rfl) ?_ hHeld ?_
    rotate_left
    · (intro w hSw; (try dsimp only at hSw); go_simp; try with_reducible rfl)
    simp only [Act.put, List.setIfInBounds_toArray, List.set_cons_zero, List.set_cons_succ]
    refine take_yes 14 127 (v := ?_) rfl rfl (by kernel_rfl) (by kernel_rfl) (by kernel_rfl) (fun _ _ _ h => h) (by rfl) ?_ hHeld ?_
    rotate_left
    · (intro w hSw; (try dsimp only at hSw); go_simp; try with_reducible rfl)
    simp only [Act.put, List.setIfInBounds_toArray, List.set_cons_zero, List.set_cons_succ]
    have hg3 : Gr w2 w3 := (Gr.refl _).drew.trans hgk
    have hk3 := keep2 hk hg3
    have HB3a := HB2.out.gr hg3
    have HA3a := HA2.out.gr hg3
    obtain ⟨q0, q1, q2, q3, q4, q5, q6⟩ := HB3a.cells
    obtain ⟨p0, p1, p2, p3, p4, p5, p6⟩ := HB3a.frozens
    have ql := HB3a.lt
    refine wpAnyH_ready (rs := [15]) (by kernel_rfl) (by simp) (AllReadyH.cons rfl (fun K hK => ?_) AllReadyH.nil)
    go_simp
    refine hK.out _ _ (by first | with_reducible exact keep2s hk3 _ nb1 nb1 _ _ _ | with_reducible exact keep2 hk (by (repeat' (first | with_reducible exact Gr.refl _ | with_reducible refine Gr.set ?_ _ ?_ _ | with_reducible refine Gr.alloc ?_ | with_reducible refine Gr.drew ?_ | with_reducible refine Gr.trans ?_ (by assumption))) <;> (first | (simp; done) | (simp; omega) | omega))) (fun hHeldN => ?_)
    clear hHeld hK K
    have hHeld := hHeldN
    clear hHeldN
    refine wpAnyH_done (by kernel_rfl) ?_ _
    replace g0 := hg3.keep g0
    replace g1 := hg3.keep g1
    replace g2 := hg3.keep g2
    have hb3 : b < w3.heap.size := Nat.lt_of_lt_of_le hb2 hg3.size
    have hg4 : Gr w w3 := hg2.trans hg3
    have HB4 := Lib.hid (((HB3a.s0 (.int .i64 KW)).s1 (.string yt)).s2 (.int .i64 VE))
    have HA4 := Lib.hid (((HA3a.setFar ⟨w.heap.size + 1, 0, none⟩ (.int .i64 KW) (by simp)).setFar ⟨w.heap.size + 1, 1, none⟩ (.string yt) (by simp)).setFar ⟨w.heap.size + 1, 2, none⟩ (.int .i64 VE) (by simp))
    clear hgk HB3a HA3a hk hk3 c0 c1 c2 d0 d1 d2 f0 f1 f2 HA2 HB2 hHeld
    have HAf := HA4
    have HBf := HB4
    have HGS : Hid (Gr w (((w3.setCell ⟨w.heap.size + 1, 0, none⟩ (.int .i64 KW)).setCell ⟨w.heap.size + 1, 1, none⟩ (.string yt)).setCell ⟨w.heap.size + 1, 2, none⟩ (.int .i64 VE))) := (((hg4.set ⟨w.heap.size + 1, 0, none⟩ (by simp) (.int .i64 KW)).set ⟨w.heap.size + 1, 1, none⟩ (by simp) (.string yt)).set ⟨w.heap.size + 1, 2, none⟩ (by simp) (.int .i64 VE))
    have g0s : (((w3.setCell ⟨w.heap.size + 1, 0, none⟩ (.int .i64 KW)).setCell ⟨w.heap.size + 1, 1, none⟩ (.string yt)).setCell ⟨w.heap.size + 1, 2, none⟩ (.int .i64 VE)).cell? ⟨b, off + jm * 3, none⟩ = _ := ((World.cell?_setCell_far _ _ _ _ (by simpa using nb1)).trans ((World.cell?_setCell_far _ _ _ _ (by simpa using nb1)).trans ((World.cell?_setCell_far _ _ _ _ (by simpa using nb1)).trans g0)))
    have g1s : (((w3.setCell ⟨w.heap.size + 1, 0, none⟩ (.int .i64 KW)).setCell ⟨w.heap.size + 1, 1, none⟩ (.string yt)).setCell ⟨w.heap.size + 1, 2, none⟩ (.int .i64 VE)).cell? ⟨b, off + jm * 3 + 1, none⟩ = _ := ((World.cell?_setCell_far _ _ _ _ (by simpa using nb1)).trans ((World.cell?_setCell_far _ _ _ _ (by simpa using nb1)).trans ((World.cell?_setCell_far _ _ _ _ (by simpa using nb1)).trans g1)))
    have g2s : (((w3.setCell ⟨w.heap.size + 1, 0, none⟩ (.int .i64 KW)).setCell ⟨w.heap.size + 1, 1, none⟩ (.string yt)).setCell ⟨w.heap.size + 1, 2, none⟩ (.int .i64 VE)).cell? ⟨b, off + jm * 3 + 2, none⟩ = _ := ((World.cell?_setCell_far _ _ _ _ (by simpa using nb1)).trans ((World.cell?_setCell_far _ _ _ _ (by simpa using nb1)).trans ((World.cell?_setCell_far _ _ _ _ (by simpa using nb1)).trans g2)))
    have hbs : b < (((w3.setCell ⟨w.heap.size + 1, 0, none⟩ (.int .i64 KW)).setCell ⟨w.heap.size + 1, 1, none⟩ (.string yt)).setCell ⟨w.heap.size + 1, 2, none⟩ (.int .i64 VE)).heap.size := by simpa using hb3
    clear g0 g1 g2
    go_wp2_with fail
    refine (HM.out _ HGS.out).mono ?_
    rintro e w5 ⟨rfl, hg⟩
    have hg5 : Gr w w5 := HGS.out.trans hg
    have HB5a := HBf.out.gr hg
    have HA5a := HAf.out.gr hg
    replace g0s := hg.keep g0s
    replace g1s := hg.keep g1s
    replace g2s := hg.keep g2s
    have hb5 : b < w5.heap.size := Nat.lt_of_lt_of_le hbs hg.size
    have HB5 := Lib.hid (HB5a.s5 (.int .i64 0))
    have HA5 := Lib.hid (HA5a.setFar ⟨w.heap.size + 1, 5, none⟩ (.int .i64 0) (by simp))
    obtain ⟨r0, r1, r2, r3, r4, r5, r6⟩ := HB5a.cells
    obtain ⟨k0, k1, k2, k3, k4, k5, k6⟩ := HB5a.frozens
    have rl := HB5a.lt
    obtain ⟨a0, a1, a2, a3, a4, a5, a6⟩ := HA5a.cells
    obtain ⟨af0, af1, af2, af3, af4, af5, af6⟩ := HA5a.frozens
    have al := HA5a.lt
    clear hg HB5a HA5a
    go_wp2
    refine bodyPost_ret (v := .tuple #[.agg #[.int .i64 KW, .string yt, .int .i64 VE, .int .i64 0, .string ⟨#[]⟩, .int .i64 0, .int .i64 0], .int .i64 (jm : Int), .bool false]) (by simp [results, Tryd.results40, go_sem, *]) rfl ?_
    rw [HO.out]
    exact ⟨⟨KW, yt, VE, 0, ⟨#[]⟩, 0, 0⟩, rfl, fun s h => (by cases h), (by (repeat' (first | with_reducible exact Gr.refl _ | with_reducible refine Gr.set ?_ _ ?_ _ | with_reducible refine Gr.alloc ?_ | with_reducible refine Gr.drew ?_ | with_reducible refine Gr.trans ?_ (by assumption))) <;> (first | (simp; done) | (simp; omega) | omega))⟩
  | some n =>
    simp only [optI, Option.isSome_some] at HM
    cases SB with
    | true =>
      have HO : Hid (OO = (jm + 1, some ⟨KW, yt, VE, 0, ⟨#[]⟩, n, 0⟩)) := HFI.out
      clear HFI
      go_enter Tryd.func40, Tryd.ntmps40
      go_wp2_with fail
      refine (HK.out _).mono ?_
      rintro e w1 ⟨rfl, hg⟩
      have HA1 := Lib.hid (HA0.out.gr hg)
      have HB1 := Lib.hid (HB0.out.gr hg)
      have hg1 : Gr w w1 := (Gr.refl _).alloc.alloc.trans hg
      have hb1 : b < w1.heap.size := Nat.lt_of_lt_of_le hb hg1.size
      replace c0 := hg1.keep c0
      replace c1 := hg1.keep c1
      replace c2 := hg1.keep c2
      replace d0 := hg1.keep d0
      replace d1 := hg1.keep d1
      replace d2 := hg1.keep d2
      replace f0 := hg1.keep f0
      replace f1 := hg1.keep f1
      replace f2 := hg1.keep f2
      replace g0 := hg1.keep g0
      replace g1 := hg1.keep g1
      replace g2 := hg1.keep g2
      clear hg
      go_wp2_with fail
      refine (HS.out _).mono ?_
      rintro e w2 ⟨rfl, hg⟩
      have hg2 : Gr w w2 := hg1.trans hg
      have HB2 := Lib.hid (HB1.out.gr hg)
      have HA2 := Lib.hid (HA1.out.gr hg)
      replace c0 := hg.keep c0
      replace c1 := hg.keep c1
      replace c2 := hg.keep c2
      replace d0 := hg.keep d0
      replace d1 := hg.keep d1
      replace d2 := hg.keep d2
      replace f0 := hg.keep f0
      replace f1 := hg.keep f1
      replace f2 := hg.keep f2
      replace g0 := hg.keep g0
      replace g1 := hg.keep g1
      replace g2 := hg.keep g2
      have hb2 : b < w2.heap.size := Nat.lt_of_lt_of_le hb hg2.size
      have nb1 := HN.out.1
      have nb2 : ¬ b = w.heap.size + 1 := fun e => nb1 e.symm
      clear hg hg1
      obtain ⟨j1, hj1⟩ : ∃ j1, j1 = i + 1 := ⟨_, rfl⟩
      have hk : w2.cell? ⟨b, off + i * 3 + 1, none⟩ = some (.string xt) ∧ w2.cell? ⟨b, off + j1 * 3 + 1, none⟩ = some (.string yt) := ⟨c1, by rw [hj1]; exact d1⟩
      have hw1 : IntKind.i64.wrap ((i : Int) + 1) = (j1 : Int) := by rw [IntKind.wrap_i64]; omega
      have hlj : (j1 : Int) < (T.length : Int) := by omega
      clear hj1
      go_upto_region 22 with fail
      refine wp_region_held_drew (S := (fun w' => w'.cell? ⟨b, off + i * 3 + 1, none⟩ = some (.string xt) ∧ w'.cell? ⟨b, off + j1 * 3 + 1, none⟩ = some (.string yt))) (by kernel_rfl) (by first | with_reducible exact keep2s hk3 _ nb1 nb1 _ _ _ | with_reducible exact keep2 hk (by (repeat' (first | with_reducible exact Gr.refl _ | with_reducible refine Gr.set ?_ _ ?_ _ | with_reducible refine Gr.alloc ?_ | with_reducible refine Gr.drew ?_ | with_reducible refine Gr.trans ?_ (by assumption))) <;> (first | (simp; done) | (simp; omega) | omega))) (fun hHeld => ?_)
      refine take_yes 0 113 (v := ?_) rfl rfl (by kernel_rfl) (by kernel_rfl) (by kernel_rfl) (fun _ _ _ h => h) (by rfl) ?_ hHeld ?_
      rotate_left
      · (intro w hSw; (try dsimp only at hSw); go_simp; try with_reducible rfl)
      simp only [Act.put, List.setIfInBounds_toArray, List.set_cons_zero, List.set_cons_succ]
      refine take_yes 1 114 (v := ?_) rfl rfl (by kernel_rfl) (by kernel_rfl) (by kernel_rfl) (fun _ _ _ h => h) (by rfl) ?_ hHeld ?_
      rotate_left
      · (intro w hSw; (try dsimp only at hSw); go_simp; try with_reducible rfl)
      simp only [Act.put, List.setIfInBounds_toArray, List.set_cons_zero, List.set_cons_succ]
      refine take_yes 2 115 (v := ?_) rfl rfl (by kernel_rfl) (by kernel_rfl) (by kernel_rfl) (fun _ _ _ h => h) (by rfl) ?_ hHeld ?_
      rotate_left
      · (intro w hSw; (try dsimp only at hSw); go_simp; try with_reducible rfl)
      simp only [Act.put, List.setIfInBounds_toArray, List.set_cons_zero, List.set_cons_succ]
      refine take_yes 3 116 (v := ?_) rfl rfl (by kernel_rfl) (by kernel_rfl) (by kernel_rfl) (fun _ _ _ h => h) (by rfl) ?_ hHeld ?_
      rotate_left
      · (intro w hSw; (try dsimp only at hSw); go_simp; try with_reducible rfl)
      simp only [Act.put, List.setIfInBounds_toArray, List.set_cons_zero, List.set_cons_succ]
      refine take_yes 4 117 (v := ?_) rfl rfl (by kernel_rfl) (by kernel_rfl) (by kernel_rfl) (fun _ _ _ h => h) (by rfl) ?_ hHeld ?_
      rotate_left
      · (intro w hSw; (try dsimp only at hSw); go_simp; try with_reducible rfl)
      simp only [Act.put, List.setIfInBounds_toArray, List.set_cons_zero, List.set_cons_succ]
      refine take_yes 6 119 (v := ?_) rfl rfl (by kernel_rfl) (by kernel_rfl) (by kernel_rfl) (fun _ _ _ h => h) (by rfl) ?_ hHeld ?_
      rotate_left
      · (intro w hSw; (try dsimp only at hSw); go_simp; try with_reducible rfl)
      simp only [Act.put, List.setIfInBounds_toArray, List.set_cons_zero, List.set_cons_succ]
      refine take_yes 7 120 (v := ?_) rfl rfl (by kernel_rfl) (by kernel_rfl) (by kernel_rfl) (fun _ _ _ h => h) (by rfl) ?_ hHeld ?_
      rotate_left
      · (intro w hSw; (try dsimp only at hSw); go_simp; try with_reducible rfl)
      simp only [Act.put, List.setIfInBounds_toArray, List.set_cons_zero, List.set_cons_succ]
      refine take_yes 8 121 (v := ?_) rfl rfl (by kernel_rfl) (by kernel_rfl) (by kernel_rfl) (fun _ _ _ h => h) (by rfl) ?_ hHeld ?_
      rotate_left
      · (intro w hSw; (try dsimp only at hSw); go_simp; try with_reducible rfl)
      simp only [Act.put, List.setIfInBounds_toArray, List.set_cons_zero, List.set_cons_succ]
      refine take_yes 9 122 (v := ?_) rfl rfl (by kernel_rfl) (by kernel_rfl) (by kernel_rfl) (fun _ _ _ h => h) (by rfl) ?_ hHeld ?_
      rotate_left
      · (intro w hSw; (try dsimp only at hSw); go_simp; try with_reducible rfl)
      simp only [Act.put, List.setIfInBounds_toArray, List.set_cons_zero, List.set_cons_succ]
      refine take_yes 10 123 (v := ?_) rfl rfl (by kernel_rfl) (by kernel_rfl) (by kernel_rfl) (fun _ _ _ h => h) (by rfl) ?_ hHeld ?_
      rotate_left
      · (intro w hSw; (try dsimp only at hSw); go_simp; try with_reducible rfl)
      simp only [Act.put, List.setIfInBounds_toArray, List.set_cons_zero, List.set_cons_succ]
      refine take_yes 11 124 (v := ?_) rfl rfl (by kernel_rfl) (by kernel_rfl) (by kernel_rfl) (fun _ _ _ h => h) (by rfl) ?_ hHeld ?_
      rotate_left
      · (intro w hSw; (try dsimp only at hSw); go_simp; try with_reducible rfl)
      simp only [Act.put, List.setIfInBounds_toArray, List.set_cons_zero, List.set_cons_succ]
      refine take_yes 12 125 (v := ?_) rfl rfl (by kernel_rfl) (by kernel_rfl) (by kernel_rfl) (fun _ _ _ h => h) (by rfl) ?_ hHeld ?_
      rotate_left
      · (intro w hSw; (try dsimp only at hSw); go_simp; try with_reducible rfl)
      simp only [Act.put, List.setIfInBounds_toArray, List.set_cons_zero, List.set_cons_succ]
      refine wpAnyH_ready (rs := [5]) (by kernel_rfl) (by simp) (AllReadyH.cons rfl (fun K hK => ?_) AllReadyH.nil)
      go_simp
      refine (HK.out _).mono ?_; rintro e w3 ⟨rfl, hgk⟩
      (try go_wp2_with fail)
      refine hK.out _ _ (by first | with_reducible exact keep2s hk3 _ nb1 nb1 _ _ _ | with_reducible exact keep2 hk (by (repeat' (first | with_reducible exact Gr.refl _ | with_reducible refine Gr.set ?_ _ ?_ _ | with_reducible refine Gr.alloc ?_ | with_reducible refine Gr.drew ?_ | with_reducible refine Gr.trans ?_ (by assumption))) <;> (first | (simp; done) | (simp; omega) | omega))) (fun hHeldN => ?_)
      clear hHeld hK K
      have hHeld := hHeldN
      clear hHeldN
      refine take_yes 13 126 (v := ?_) rfl rfl (by kernel_rfl) (by kernel_rfl) (by kernel_rfl) (fun _ _ _ h => h) (by rfl) ?_ hHeld ?_
      rotate_left
      · (intro w hSw; (try dsimp only at hSw); go_simp; try with_reducible rfl)
      simp only [Act.put, List.setIfInBounds_toArray, List.set_cons_zero, List.set_cons_succ]
      refine take_yes 14 127 (v := ?_) rfl rfl (by kernel_rfl) (by kernel_rfl) (by kernel_rfl) (fun _ _ _ h => h) (by rfl) ?_ hHeld ?_
      rotate_left
      · (intro w hSw; (try dsimp only at hSw); go_simp; try with_reducible rfl)
      simp only [Act.put, List.setIfInBounds_toArray, List.set_cons_zero, List.set_cons_succ]
      have hg3 : Gr w2 w3 := (Gr.refl _).drew.trans hgk
      have hk3 := keep2 hk hg3
      have HB3a := HB2.out.gr hg3
      have HA3a := HA2.out.gr hg3
      obtain ⟨q0, q1, q2, q3, q4, q5, q6⟩ := HB3a.cells
      obtain ⟨p0, p1, p2, p3, p4, p5, p6⟩ := HB3a.frozens
      have ql := HB3a.lt
      refine wpAnyH_ready (rs := [15]) (by kernel_rfl) (by simp) (AllReadyH.cons rfl (fun K hK => ?_) AllReadyH.nil)
      go_simp
      refine hK.out _ _ (by first | with_reducible exact keep2s hk3 _ nb1 nb1 _ _ _ | with_reducible exact keep2 hk (by (repeat' (first | with_reducible exact Gr.refl _ | with_reducible refine Gr.set ?_ _ ?_ _ | with_reducible refine Gr.alloc ?_ | with_reducible refine Gr.drew ?_ | with_reducible refine Gr.trans ?_ (by assumption))) <;> (first | (simp; done) | (simp; omega) | omega))) (fun hHeldN => ?_)
      clear hHeld hK K
      have hHeld := hHeldN
      clear hHeldN
      refine wpAnyH_done (by kernel_rfl) ?_ _
      replace g0 := hg3.keep g0
      replace g1 := hg3.keep g1
      replace g2 := hg3.keep g2
      have hb3 : b < w3.heap.size := Nat.lt_of_lt_of_le hb2 hg3.size
      have hg4 : Gr w w3 := hg2.trans hg3
      have HB4 := Lib.hid (((HB3a.s0 (.int .i64 KW)).s1 (.string yt)).s2 (.int .i64 VE))
      have HA4 := Lib.hid (((HA3a.setFar ⟨w.heap.size + 1, 0, none⟩ (.int .i64 KW) (by simp)).setFar ⟨w.heap.size + 1, 1, none⟩ (.string yt) (by simp)).setFar ⟨w.heap.size + 1, 2, none⟩ (.int .i64 VE) (by simp))
      clear hgk HB3a HA3a hk hk3 c0 c1 c2 d0 d1 d2 f0 f1 f2 HA2 HB2 hHeld
      have HAf := HA4
      have HBf := HB4
      have HGS : Hid (Gr w (((w3.setCell ⟨w.heap.size + 1, 0, none⟩ (.int .i64 KW)).setCell ⟨w.heap.size + 1, 1, none⟩ (.string yt)).setCell ⟨w.heap.size + 1, 2, none⟩ (.int .i64 VE))) := (((hg4.set ⟨w.heap.size + 1, 0, none⟩ (by simp) (.int .i64 KW)).set ⟨w.heap.size + 1, 1, none⟩ (by simp) (.string yt)).set ⟨w.heap.size + 1, 2, none⟩ (by simp) (.int .i64 VE))
      have g0s : (((w3.setCell ⟨w.heap.size + 1, 0, none⟩ (.int .i64 KW)).setCell ⟨w.heap.size + 1, 1, none⟩ (.string yt)).setCell ⟨w.heap.size + 1, 2, none⟩ (.int .i64 VE)).cell? ⟨b, off + jm * 3, none⟩ = _ := ((World.cell?_setCell_far _ _ _ _ (by simpa using nb1)).trans ((World.cell?_setCell_far _ _ _ _ (by simpa using nb1)).trans ((World.cell?_setCell_far _ _ _ _ (by simpa using nb1)).trans g0)))
      have g1s : (((w3.setCell ⟨w.heap.size + 1, 0, none⟩ (.int .i64 KW)).setCell ⟨w.heap.size + 1, 1, none⟩ (.string yt)).setCell ⟨w.heap.size + 1, 2, none⟩ (.int .i64 VE)).cell? ⟨b, off + jm * 3 + 1, none⟩ = _ := ((World.cell?_setCell_far _ _ _ _ (by simpa using nb1)).trans ((World.cell?_setCell_far _ _ _ _ (by simpa using nb1)).trans ((World.cell?_setCell_far _ _ _ _ (by simpa using nb1)).trans g1)))
      have g2s : (((w3.setCell ⟨w.heap.size + 1, 0, none⟩ (.int .i64 KW)).setCell ⟨w.heap.size + 1, 1, none⟩ (.string yt)).setCell ⟨w.heap.size + 1, 2, none⟩ (.int .i64 VE)).cell? ⟨b, off + jm * 3 + 2, none⟩ = _ := ((World.cell?_setCell_far _ _ _ _ (by simpa using nb1)).trans ((World.cell?_setCell_far _ _ _ _ (by simpa using nb1)).trans ((World.cell?_setCell_far _ _ _ _ (by simpa using nb1)).trans g2)))
      have hbs : b < (((w3.setCell ⟨w.heap.size + 1, 0, none⟩ (.int .i64 KW)).setCell ⟨w.heap.size + 1, 1, none⟩ (.string yt)).setCell ⟨w.heap.size + 1, 2, none⟩ (.int .i64 VE)).heap.size := by simpa using hb3
      clear g0 g1 g2
      go_wp2_with fail
      refine (HM.out _ HGS.out).mono ?_
      rintro e w5 ⟨rfl, hg⟩
      have hg5 : Gr w w5 := HGS.out.trans hg
      have HB5a := HBf.out.gr hg
      have HA5a := HAf.out.gr hg
      replace g0s := hg.keep g0s
      replace g1s := hg.keep g1s
      replace g2s := hg.keep g2s
      have hb5 : b < w5.heap.size := Nat.lt_of_lt_of_le hbs hg.size
      have HB5 := Lib.hid (HB5a.s5 (.int .i64 n))
      have HA5 := Lib.hid (HA5a.setFar ⟨w.heap.size + 1, 5, none⟩ (.int .i64 n) (by simp))
      obtain ⟨r0, r1, r2, r3, r4, r5, r6⟩ := HB5a.cells
      obtain ⟨k0, k1, k2, k3, k4, k5, k6⟩ := HB5a.frozens
      have rl := HB5a.lt
      clear hg HB5a HA5a
      go_wp2_with fail
      refine (HI.out _).mono ?_
      rintro e w6 ⟨rfl, hg⟩
      have hg6 : Gr w w6 := (hg5.set ⟨w.heap.size + 1, 5, none⟩ (by simp) (.int .i64 n)).trans hg
      obtain ⟨s0, s1, s2, s3, s4, s5, s6⟩ := (HB5.out.gr hg).cells
      have sl := (HB5.out.gr hg).lt
      obtain ⟨a0, a1, a2, a3, a4, a5, a6⟩ := (HA5.out.gr hg).cells
      obtain ⟨af0, af1, af2, af3, af4, af5, af6⟩ := (HA5.out.gr hg).frozens
      have al := (HA5.out.gr hg).lt
      clear hg hg5 r0 r1 r2 r3 r4 r5 r6 k0 k1 k2 k3 k4 k5 k6 rl
      go_wp2
      refine bodyPost_ret (v := .tuple #[.agg #[.int .i64 KW, .string yt, .int .i64 VE, .int .i64 0, .string ⟨#[]⟩, .int .i64 n, .int .i64 0], .int .i64 ((jm : Int) + 1), .bool true]) (by simp [results, Tryd.results40, go_sem, *]) rfl ?_
      rw [HO.out]
      exact ⟨⟨KW, yt, VE, 0, ⟨#[]⟩, n, 0⟩, rfl, fun s h => Option.some.inj h, (by (repeat' (first | with_reducible exact Gr.refl _ | with_reducible refine Gr.set ?_ _ ?_ _ | with_reducible refine Gr.alloc ?_ | with_reducible refine Gr.drew ?_ | with_reducible refine Gr.trans ?_ (by assumption))) <;> (first | (simp; done) | (simp; omega) | omega))⟩
    | false =>
      have HO : Hid (OO = (jm, none)) := HFI.out
      clear HFI
      go_enter Tryd.func40, Tryd.ntmps40
      go_wp2_with fail
      refine (HK.out _).mono ?_
      rintro e w1 ⟨rfl, hg⟩
      have HA1 := Lib.hid (HA0.out.gr hg)
      have HB1 := Lib.hid (HB0.out.gr hg)
      have hg1 : Gr w w1 := (Gr.refl _).alloc.alloc.trans hg
      have hb1 : b < w1.heap.size := Nat.lt_of_lt_of_le hb hg1.size
      replace c0 := hg1.keep c0
      replace c1 := hg1.keep c1
      replace c2 := hg1.keep c2
      replace d0 := hg1.keep d0
      replace d1 := hg1.keep d1
      replace d2 := hg1.keep d2
      replace f0 := hg1.keep f0
      replace f1 := hg1.keep f1
      replace f2 := hg1.keep f2
      replace g0 := hg1.keep g0
      replace g1 := hg1.keep g1
      replace g2 := hg1.keep g2
      clear hg
      go_wp2_with fail
      refine (HS.out _).mono ?_
      rintro e w2 ⟨rfl, hg⟩
      have hg2 : Gr w w2 := hg1.trans hg
      have HB2 := Lib.hid (HB1.out.gr hg)
      have HA2 := Lib.hid (HA1.out.gr hg)
      replace c0 := hg.keep c0
      replace c1 := hg.keep c1
      replace c2 := hg.keep c2
      replace d0 := hg.keep d0
      replace d1 := hg.keep d1
      replace d2 := hg.keep d2
      replace f0 := hg.keep f0
      replace f1 := hg.keep f1
      replace f2 := hg.keep f2
      replace g0 := hg.keep g0
      replace g1 := hg.keep g1
      replace g2 := hg.keep g2
      have hb2 : b < w2.heap.size := Nat.lt_of_lt_of_le hb hg2.size
      have nb1 := HN.out.1
      have nb2 : ¬ b = w.heap.size + 1 := fun e => nb1 e.symm
      clear hg hg1
      obtain ⟨j1, hj1⟩ : ∃ j1, j1 = i + 1 := ⟨_, rfl⟩
      have hk : w2.cell? ⟨b, off + i * 3 + 1, none⟩ = some (.string xt) ∧ w2.cell? ⟨b, off + j1 * 3 + 1, none⟩ = some (.string yt) := ⟨c1, by rw [hj1]; exact d1⟩
      have hw1 : IntKind.i64.wrap ((i : Int) + 1) = (j1 : Int) := by rw [IntKind.wrap_i64]; omega
      have hlj : (j1 : Int) < (T.length : Int) := by omega
      clear hj1
      go_upto_region 22 with fail
      refine wp_region_held_drew (S := (fun w' => w'.cell? ⟨b, off + i * 3 + 1, none⟩ = some (.string xt) ∧ w'.cell? ⟨b, off + j1 * 3 + 1, none⟩ = some (.string yt))) (by kernel_rfl) (by first | with_reducible exact keep2s hk3 _ nb1 nb1 _ _ _ | with_reducible exact keep2 hk (by (repeat' (first | with_reducible exact Gr.refl _ | with_reducible refine Gr.set ?_ _ ?_ _ | with_reducible refine Gr.alloc ?_ | with_reducible refine Gr.drew ?_ | with_reducible refine Gr.trans ?_ (by assumption))) <;> (first | (simp; done) | (simp; omega) | omega))) (fun hHeld => ?_)
      refine take_yes 0 113 (v := ?_) rfl rfl (by kernel_rfl) (by kernel_rfl) (by kernel_rfl) (fun _ _ _ h => h) (by rfl) ?_ hHeld ?_
      rotate_left
      · (intro w hSw; (try dsimp only at hSw); go_simp; try with_reducible rfl)
      simp only [Act.put, List.setIfInBounds_toArray, List.set_cons_zero, List.set_cons_succ]
      refine take_yes 1 114 (v := ?_) rfl rfl (by kernel_rfl) (by kernel_rfl) (by kernel_rfl) (fun _ _ _ h => h) (by rfl) ?_ hHeld ?_
      rotate_left
      · (intro w hSw; (try dsimp only at hSw); go_simp; try with_reducible rfl)
      simp only [Act.put, List.setIfInBounds_toArray, List.set_cons_zero, List.set_cons_succ]
      refine take_yes 2 115 (v := ?_) rfl rfl (by kernel_rfl) (by kernel_rfl) (by kernel_rfl) (fun _ _ _ h => h) (by rfl) ?_ hHeld ?_
      rotate_left
      · (intro w hSw; (try dsimp only at hSw); go_simp; try with_reducible rfl)
      simp only [Act.put, List.setIfInBounds_toArray, List.set_cons_zero, List.set_cons_succ]
      refine take_yes 3 116 (v := ?_) rfl rfl (by kernel_rfl) (by kernel_rfl) (by kernel_rfl) (fun _ _ _ h => h) (by rfl) ?_ hHeld ?_
      rotate_left
      · (intro w hSw; (try dsimp only at hSw); go_simp; try with_reducible rfl)
      simp only [Act.put, List.setIfInBounds_toArray, List.set_cons_zero, List.set_cons_succ]
      refine take_yes 4 117 (v := ?_) rfl rfl (by kernel_rfl) (by kernel_rfl) (by kernel_rfl) (fun _ _ _ h => h) (by rfl) ?_ hHeld ?_
      rotate_left
      · (intro w hSw; (try dsimp only at hSw); go_simp; try with_reducible rfl)
      simp only [Act.put, List.setIfInBounds_toArray, List.set_cons_zero, List.set_cons_succ]
      refine take_yes 6 119 (v := ?_) rfl rfl (by kernel_rfl) (by kernel_rfl) (by kernel_rfl) (fun _ _ _ h => h) (by rfl) ?_ hHeld ?_
      rotate_left
      · (intro w hSw; (try dsimp only at hSw); go_simp; try with_reducible rfl)
      simp only [Act.put, List.setIfInBounds_toArray, List.set_cons_zero, List.set_cons_succ]
      refine take_yes 7 120 (v := ?_) rfl rfl (by kernel_rfl) (by kernel_rfl) (by kernel_rfl) (fun _ _ _ h => h) (by rfl) ?_ hHeld ?_
      rotate_left
      · (intro w hSw; (try dsimp only at hSw); go_simp; try with_reducible rfl)
      simp only [Act.put, List.setIfInBounds_toArray, List.set_cons_zero, List.set_cons_succ]
      refine take_yes 8 121 (v := ?_) rfl rfl (by kernel_rfl) (by kernel_rfl) (by kernel_rfl) (fun _ _ _ h => h) (by rfl) ?_ hHeld ?_
      rotate_left
      · (intro w hSw; (try dsimp only at hSw); go_simp; try with_reducible rfl)
      simp only [Act.put, List.setIfInBounds_toArray, List.set_cons_zero, List.set_cons_succ]
      refine take_yes 9 122 (v := ?_) rfl rfl (by kernel_rfl) (by kernel_rfl) (by kernel_rfl) (fun _ _ _ h => h) (by rfl) ?_ hHeld ?_
      rotate_left
      · (intro w hSw; (try dsimp only at hSw); go_simp; try with_reducible rfl)
      simp only [Act.put, List.setIfInBounds_toArray, List.set_cons_zero, List.set_cons_succ]
      refine take_yes 10 123 (v := ?_) rfl rfl (by kernel_rfl) (by kernel_rfl) (by kernel_rfl) (fun _ _ _ h => h) (by rfl) ?_ hHeld ?_
      rotate_left
      · (intro w hSw; (try dsimp only at hSw); go_simp; try with_reducible rfl)
      simp only [Act.put, List.setIfInBounds_toArray, List.set_cons_zero, List.set_cons_succ]
      refine take_yes 11 124 (v := ?_) rfl rfl (by kernel_rfl) (by kernel_rfl) (by kernel_rfl) (fun _ _ _ h => h) (by rfl) ?_ hHeld ?_
      rotate_left
      · (intro w hSw; (try dsimp only at hSw); go_simp; try with_reducible rfl)
      simp only [Act.put, List.setIfInBounds_toArray, List.set_cons_zero, List.set_cons_succ]
      refine take_yes 12 125 (v := ?_) rfl rfl (by kernel_rfl) (by kernel_rfl) (by kernel_rfl) (fun _ _ _ h => h) (by rfl) ?_ hHeld ?_
      rotate_left
      · (intro w hSw; (try dsimp only at hSw); go_simp; try with_reducible rfl)
      simp only [Act.put, List.setIfInBounds_toArray, List.set_cons_zero, List.set_cons_succ]
      refine wpAnyH_ready (rs := [5]) (by kernel_rfl) (by simp) (AllReadyH.cons rfl (fun K hK => ?_) AllReadyH.nil)
      go_simp
      refine (HK.out _).mono ?_; rintro e w3 ⟨rfl, hgk⟩
      (try go_wp2_with fail)
      refine hK.out _ _ (by first | with_reducible exact keep2s hk3 _ nb1 nb1 _ _ _ | with_reducible exact keep2 hk (by (repeat' (first | with_reducible exact Gr.refl _ | with_reducible refine Gr.set ?_ _ ?_ _ | with_reducible refine Gr.alloc ?_ | with_reducible refine Gr.drew ?_ | with_reducible refine Gr.trans ?_ (by assumption))) <;> (first | (simp; done) | (simp; omega) | omega))) (fun hHeldN => ?_)
      clear hHeld hK K
      have hHeld := hHeldN
      clear hHeldN
      refine take_yes 13 126 (v := ?_) rfl rfl (by kernel_rfl) (by kernel_rfl) (by kernel_rfl) (fun _ _ _ h => h) (by rfl) ?_ hHeld ?_
      rotate_left
      · (intro w hSw; (try dsimp only at hSw); go_simp; try with_reducible rfl)
      simp only [Act.put, List.setIfInBounds_toArray, List.set_cons_zero, List.set_cons_succ]
      refine take_yes 14 127 (v := ?_) rfl rfl (by kernel_rfl) (by kernel_rfl) (by kernel_rfl) (fun _ _ _ h => h) (by rfl) ?_ hHeld ?_
      rotate_left
      · (intro w hSw; (try dsimp only at hSw); go_simp; try with_reducible rfl)
      simp only [Act.put, List.setIfInBounds_toArray, List.set_cons_zero, List.set_cons_succ]
      have hg3 : Gr w2 w3 := (Gr.refl _).drew.trans hgk
      have hk3 := keep2 hk hg3
      have HB3a := HB2.out.gr hg3
      have HA3a := HA2.out.gr hg3
      obtain ⟨q0, q1, q2, q3, q4, q5, q6⟩ := HB3a.cells
      obtain ⟨p0, p1, p2, p3, p4, p5, p6⟩ := HB3a.frozens
      have ql := HB3a.lt
      refine wpAnyH_ready (rs := [15]) (by kernel_rfl) (by simp) (AllReadyH.cons rfl (fun K hK => ?_) AllReadyH.nil)
      go_simp
      refine hK.out _ _ (by first | with_reducible exact keep2s hk3 _ nb1 nb1 _ _ _ | with_reducible exact keep2 hk (by (repeat' (first | with_reducible exact Gr.refl _ | with_reducible refine Gr.set ?_ _ ?_ _ | with_reducible refine Gr.alloc ?_ | with_reducible refine Gr.drew ?_ | with_reducible refine Gr.trans ?_ (by assumption))) <;> (first | (simp; done) | (simp; omega) | omega))) (fun hHeldN => ?_)
      clear hHeld hK K
      have hHeld := hHeldN
      clear hHeldN
      refine wpAnyH_done (by kernel_rfl) ?_ _
      replace g0 := hg3.keep g0
      replace g1 := hg3.keep g1
      replace g2 := hg3.keep g2
      have hb3 : b < w3.heap.size := Nat.lt_of_lt_of_le hb2 hg3.size
      have hg4 : Gr w w3 := hg2.trans hg3
      have HB4 := Lib.hid (((HB3a.s0 (.int .i64 KW)).s1 (.string yt)).s2 (.int .i64 VE))
      have HA4 := Lib.hid (((HA3a.setFar ⟨w.heap.size + 1, 0, none⟩ (.int .i64 KW) (by simp)).setFar ⟨w.heap.size + 1, 1, none⟩ (.string yt) (by simp)).setFar ⟨w.heap.size + 1, 2, none⟩ (.int .i64 VE) (by simp))
      clear hgk HB3a HA3a hk hk3 c0 c1 c2 d0 d1 d2 f0 f1 f2 HA2 HB2 hHeld
      have HAf := HA4
      have HBf := HB4
      have HGS : Hid (Gr w (((w3.setCell ⟨w.heap.size + 1, 0, none⟩ (.int .i64 KW)).setCell ⟨w.heap.size + 1, 1, none⟩ (.string yt)).setCell ⟨w.heap.size + 1, 2, none⟩ (.int .i64 VE))) := (((hg4.set ⟨w.heap.size + 1, 0, none⟩ (by simp) (.int .i64 KW)).set ⟨w.heap.size + 1, 1, none⟩ (by simp) (.string yt)).set ⟨w.heap.size + 1, 2, none⟩ (by simp) (.int .i64 VE))
      have g0s : (((w3.setCell ⟨w.heap.size + 1, 0, none⟩ (.int .i64 KW)).setCell ⟨w.heap.size + 1, 1, none⟩ (.string yt)).setCell ⟨w.heap.size + 1, 2, none⟩ (.int .i64 VE)).cell? ⟨b, off + jm * 3, none⟩ = _ := ((World.cell?_setCell_far _ _ _ _ (by simpa using nb1)).trans ((World.cell?_setCell_far _ _ _ _ (by simpa using nb1)).trans ((World.cell?_setCell_far _ _ _ _ (by simpa using nb1)).trans g0)))
      have g1s : (((w3.setCell ⟨w.heap.size + 1, 0, none⟩ (.int .i64 KW)).setCell ⟨w.heap.size + 1, 1, none⟩ (.string yt)).setCell ⟨w.heap.size + 1, 2, none⟩ (.int .i64 VE)).cell? ⟨b, off + jm * 3 + 1, none⟩ = _ := ((World.cell?_setCell_far _ _ _ _ (by simpa using nb1)).trans ((World.cell?_setCell_far _ _ _ _ (by simpa using nb1)).trans ((World.cell?_setCell_far _ _ _ _ (by simpa using nb1)).trans g1)))
      have g2s : (((w3.setCell ⟨w.heap.size + 1, 0, none⟩ (.int .i64 KW)).setCell ⟨w.heap.size + 1, 1, none⟩ (.string yt)).setCell ⟨w.heap.size + 1, 2, none⟩ (.int .i64 VE)).cell? ⟨b, off + jm * 3 + 2, none⟩ = _ := ((World.cell?_setCell_far _ _ _ _ (by simpa using nb1)).trans ((World.cell?_setCell_far _ _ _ _ (by simpa using nb1)).trans ((World.cell?_setCell_far _ _ _ _ (by simpa using nb1)).trans g2)))
      have hbs : b < (((w3.setCell ⟨w.heap.size + 1, 0, none⟩ (.int .i64 KW)).setCell ⟨w.heap.size + 1, 1, none⟩ (.string yt)).setCell ⟨w.heap.size + 1, 2, none⟩ (.int .i64 VE)).heap.size := by simpa using hb3
      clear g0 g1 g2
      go_wp2_with fail
      refine (HM.out _ HGS.out).mono ?_
      rintro e w5 ⟨rfl, hg⟩
      have hg5 : Gr w w5 := HGS.out.trans hg
      have HB5a := HBf.out.gr hg
      have HA5a := HAf.out.gr hg
      replace g0s := hg.keep g0s
      replace g1s := hg.keep g1s
      replace g2s := hg.keep g2s
      have hb5 : b < w5.heap.size := Nat.lt_of_lt_of_le hbs hg.size
      have HB5 := Lib.hid (HB5a.s5 (.int .i64 n))
      have HA5 := Lib.hid (HA5a.setFar ⟨w.heap.size + 1, 5, none⟩ (.int .i64 n) (by simp))
      obtain ⟨r0, r1, r2, r3, r4, r5, r6⟩ := HB5a.cells
      obtain ⟨k0, k1, k2, k3, k4, k5, k6⟩ := HB5a.frozens
      have rl := HB5a.lt
      clear hg HB5a HA5a
      go_wp2_with fail
      refine (HI.out _).mono ?_
      rintro e w6 ⟨rfl, hg⟩
      have hg6 : Gr w w6 := (hg5.set ⟨w.heap.size + 1, 5, none⟩ (by simp) (.int .i64 n)).trans hg
      obtain ⟨s0, s1, s2, s3, s4, s5, s6⟩ := (HB5.out.gr hg).cells
      have sl := (HB5.out.gr hg).lt
      obtain ⟨a0, a1, a2, a3, a4, a5, a6⟩ := (HA5.out.gr hg).cells
      obtain ⟨af0, af1, af2, af3, af4, af5, af6⟩ := (HA5.out.gr hg).frozens
      have al := (HA5.out.gr hg).lt
      clear hg hg5 r0 r1 r2 r3 r4 r5 r6 k0 k1 k2 k3 k4 k5 k6 rl
      go_wp2
      refine bodyPost_ret (v := .tuple #[.agg #[.int .i64 KW, .string yt, .int .i64 VE, .int .i64 0, .string ⟨#[]⟩, .int .i64 n, .int .i64 0], .int .i64 (jm : Int), .bool false]) (by simp [results, Tryd.results40, go_sem, *]) rfl ?_
      rw [HO.out]
      exact ⟨⟨KW, yt, VE, 0, ⟨#[]⟩, n, 0⟩, rfl, fun s h => (by cases h), (by (repeat' (first | with_reducible exact Gr.refl _ | with_reducible refine Gr.set ?_ _ ?_ _ | with_reducible refine Gr.alloc ?_ | with_reducible refine Gr.drew ?_ | with_reducible refine Gr.trans ?_ (by assumption))) <;> (first | (simp; done) | (simp; omega) | omega))⟩

theorem refOne_any (T : List Tok) (ad : Option Addr) (cap : Nat) (i : Nat) (w : World) (hT : ToksAt w ad T) (hG : Gd T) (hi : i < T.length) (hn : T.length ≤ 5000) :
    Calls Tryd.prog 40 #[.slice ad T.length cap, .int .i64 (i : Int)] w fun e w' => OnR w (one T i) e w' := by
  by_cases h0 : (tk T i).k = 1
  · by_cases h2 : (tk T i).t = Df.wAsk
    · by_cases h3 : (tk T (i + 1)).k = 2
      · by_cases h4 : (tk T (i + 2)).k = 1
        · exact refOneA3 T ad cap i w hT hG hi hn h0 h2 h3 h4
        · exact refOneA2 T ad cap i w hT hG hi hn h0 h2 h3 h4
      · exact refOneA1 T ad cap i w hT hG hi hn h0 h2 h3
    · by_cases h1 : kw (tk T i).t = 0
      · exact refOne1 T ad cap i w hT hG hi hn h0 h1 h2
      · by_cases h3 : (tk T (i + 1)).k = 1
        · by_cases h4 : (tk T (i + 2)).k = 2
          · exact refOneD3 T ad cap i w hT hG hi hn h0 h1 h3 h4
          · exact refOneD2 T ad cap i w hT hG hi hn h0 h1 h3 h4
        · exact refOneD1 T ad cap i w hT hG hi hn h0 h1 h3
  · exact refOne0 T ad cap i w hT hG hi hn h0
end Go.Proofs.YtdliljijgokpjaaDoor
