/- def: what a step may be. -/
import Derived.Test.YtdliljijgokpjaaDoorDefA
import Derived.Test.YtdliljijgokpjaaDoorActCd
import Derived.Test.YtdliljijgokpjaaDoorAccA
import Derived.Deep.RegionHeld3
namespace Go.Proofs.YtdliljijgokpjaaDoor
open Go.RowKit
open Df (Stp ownB askB stpB zerB)
open _root_.Go.Proofs.YtdliljijgokpjaaDoor.Act (nameB actB chkE)

def inI (n : Int) : Prop := -9223372036854775808 ≤ n ∧ n ≤ 9223372036854775807
def inS (s : Stp) : Prop := s.a.size ≤ 9223372036854775807 ∧ s.u.size ≤ 9223372036854775807 ∧ inI s.k ∧ inI s.n ∧ inI s.o ∧ inI s.y ∧ inI s.v

theorem within_any (n a b : Int) (w : World) : Calls Tryd.prog 27 #[.int .i64 n, .int .i64 a, .int .i64 b] w fun e w' => e = .returned (.bool (decide (a ≤ n) && decide (n ≤ b))) ∧ w' = w := by
  by_cases h0 : a ≤ n
  · by_cases h1 : n ≤ b
    · rw [decide_eq_true h0, decide_eq_true h1]
      go_enter Tryd.func27, Tryd.ntmps27
      go_wp2
      go_ret
      exact ⟨rfl, rfl⟩
    · rw [decide_eq_true h0, decide_eq_false h1]
      go_enter Tryd.func27, Tryd.ntmps27
      go_wp2
      go_ret
      exact ⟨rfl, rfl⟩
  · rw [decide_eq_false h0]
    go_enter Tryd.func27, Tryd.ntmps27
    go_wp2
    go_ret
    exact ⟨rfl, rfl⟩


set_option maxHeartbeats 4000000 in
set_option maxRecDepth 100000 in
theorem isOwn_any (s : Stp) (w : World) (hs : inS s) : Calls Tryd.prog 28 #[.agg #[.int .i64 s.k, .string s.a, .int .i64 s.n, .int .i64 s.o, .string s.u, .int .i64 s.y, .int .i64 s.v]] w fun e w' => e = .returned (.bool (ownB s)) ∧ Gr w w' := by
  have HC : Hid (∀ w', Calls Tryd.prog 51 #[.agg #[.int .i64 s.k, .string s.a, .int .i64 s.n]] w' fun e w2 => e = .returned (.int .i64 (chkE s.k s.a s.n)) ∧ Gr w' w2) := fun w' => actCheck_any s.k s.n s.a w' hs.1
  have HW : Hid (∀ w', Calls Tryd.prog 27 #[.int .i64 s.y, .int .i64 1, .int .i64 5] w' fun e w2 => e = .returned (.bool (decide (1 ≤ s.y) && decide (s.y ≤ 5))) ∧ w2 = w') := fun w' => within_any s.y 1 5 w'
  have ht := text_eq s.u []
  rw [show (⟨[].toArray⟩ : ByteArray) = ⟨#[]⟩ from rfl] at ht
  have HB : Hid (ownB s = (decide (s.u = ⟨#[]⟩) && actB s.k s.a s.n && decide (s.o = 0) && decide (s.v = 0) && (decide (1 ≤ s.y) && decide (s.y ≤ 5)))) := rfl
  have HE : Hid (chkE s.k s.a s.n = if actB s.k s.a s.n = true then 0 else 60) := rfl
  clear hs
  generalize ownB s = OB at *
  generalize (decide (1 ≤ s.y) && decide (s.y ≤ 5)) = YB at *
  generalize chkE s.k s.a s.n = CE at *
  generalize actB s.k s.a s.n = AB at *
  by_cases h1 : s.u = ⟨#[]⟩
  · rw [decide_eq_true h1] at ht HB
    have ht2 : (s.u.toList == []) = true := ht
    clear ht
    cases AB with
    | true =>
      have e2 : CE = 0 := HE.out
      subst e2
      by_cases h3 : s.o = 0
      · rw [decide_eq_true h3] at HB
        have e3 : (s.o == 0) = true := by simpa using h3
        by_cases h4 : s.v = 0
        · rw [decide_eq_true h4] at HB
          have e4 : (s.v == 0) = true := by simpa using h4
          have HF : Hid (OB = YB) := HB.out
          clear h1 h3 h4 HB HE
          go_enter Tryd.func28, Tryd.ntmps28
          go_wp2_with fail
          refine (HC.out _).mono ?_
          rintro e w1 ⟨rfl, hg⟩
          obtain ⟨x0, x1, x2, x3, x4, x5, x6⟩ := ((AccAt.new w (.int .i64 s.k) (.string s.a) (.int .i64 s.n) (.int .i64 s.o) (.string s.u) (.int .i64 s.y) (.int .i64 s.v) 47 _ rfl).gr hg).cells
          have xl := ((AccAt.new w (.int .i64 s.k) (.string s.a) (.int .i64 s.n) (.int .i64 s.o) (.string s.u) (.int .i64 s.y) (.int .i64 s.v) 47 _ rfl).gr hg).lt
          have HG1 : Hid (Gr w w1) := (Gr.refl _).alloc.trans hg
          clear hg
          go_wp2_with fail
          refine (HW.out _).mono ?_
          rintro e w2 ⟨rfl, hw⟩; obtain rfl := hw.symm
          go_wp2
          go_ret
          exact ⟨by rw [HF.out]; rfl, HG1.out⟩
        · rw [decide_eq_false h4] at HB
          have e4 : (s.v == 0) = false := by simpa using h4
          have HF : Hid (OB = false) := HB.out
          clear h1 h3 h4 HB HE
          go_enter Tryd.func28, Tryd.ntmps28
          go_wp2_with fail
          refine (HC.out _).mono ?_
          rintro e w1 ⟨rfl, hg⟩
          obtain ⟨x0, x1, x2, x3, x4, x5, x6⟩ := ((AccAt.new w (.int .i64 s.k) (.string s.a) (.int .i64 s.n) (.int .i64 s.o) (.string s.u) (.int .i64 s.y) (.int .i64 s.v) 47 _ rfl).gr hg).cells
          have xl := ((AccAt.new w (.int .i64 s.k) (.string s.a) (.int .i64 s.n) (.int .i64 s.o) (.string s.u) (.int .i64 s.y) (.int .i64 s.v) 47 _ rfl).gr hg).lt
          have HG1 : Hid (Gr w w1) := (Gr.refl _).alloc.trans hg
          clear hg
          go_wp2
          go_ret
          exact ⟨by rw [HF.out]; rfl, HG1.out⟩
      · rw [decide_eq_false h3] at HB
        have e3 : (s.o == 0) = false := by simpa using h3
        have HF : Hid (OB = false) := HB.out
        clear h1 h3 HB HE
        go_enter Tryd.func28, Tryd.ntmps28
        go_wp2_with fail
        refine (HC.out _).mono ?_
        rintro e w1 ⟨rfl, hg⟩
        obtain ⟨x0, x1, x2, x3, x4, x5, x6⟩ := ((AccAt.new w (.int .i64 s.k) (.string s.a) (.int .i64 s.n) (.int .i64 s.o) (.string s.u) (.int .i64 s.y) (.int .i64 s.v) 47 _ rfl).gr hg).cells
        have xl := ((AccAt.new w (.int .i64 s.k) (.string s.a) (.int .i64 s.n) (.int .i64 s.o) (.string s.u) (.int .i64 s.y) (.int .i64 s.v) 47 _ rfl).gr hg).lt
        have HG1 : Hid (Gr w w1) := (Gr.refl _).alloc.trans hg
        clear hg
        go_wp2
        go_ret
        exact ⟨by rw [HF.out]; rfl, HG1.out⟩
    | false =>
      have e2 : CE = 60 := HE.out
      subst e2
      have HF : Hid (OB = false) := HB.out
      clear h1 HB HE
      go_enter Tryd.func28, Tryd.ntmps28
      go_wp2_with fail
      refine (HC.out _).mono ?_
      rintro e w1 ⟨rfl, hg⟩
      obtain ⟨x0, x1, x2, x3, x4, x5, x6⟩ := ((AccAt.new w (.int .i64 s.k) (.string s.a) (.int .i64 s.n) (.int .i64 s.o) (.string s.u) (.int .i64 s.y) (.int .i64 s.v) 47 _ rfl).gr hg).cells
      have xl := ((AccAt.new w (.int .i64 s.k) (.string s.a) (.int .i64 s.n) (.int .i64 s.o) (.string s.u) (.int .i64 s.y) (.int .i64 s.v) 47 _ rfl).gr hg).lt
      have HG1 : Hid (Gr w w1) := (Gr.refl _).alloc.trans hg
      clear hg
      go_wp2
      go_ret
      exact ⟨by rw [HF.out]; rfl, HG1.out⟩
  · rw [decide_eq_false h1] at ht HB
    have ht2 : (s.u.toList == []) = false := ht
    have HF : Hid (OB = false) := HB.out
    clear ht h1 HB HE
    go_enter Tryd.func28, Tryd.ntmps28
    go_wp2
    go_ret
    exact ⟨by rw [HF.out]; rfl, (by repeat (first | exact Gr.refl _ | refine Gr.alloc ?_ | refine Gr.drew ?_ | refine Gr.trans ?_ (by assumption)))⟩

set_option maxHeartbeats 4000000 in
set_option maxRecDepth 100000 in
theorem asks_any (s : Stp) (w : World) (hs : inS s) : Calls Tryd.prog 29 #[.agg #[.int .i64 s.k, .string s.a, .int .i64 s.n, .int .i64 s.o, .string s.u, .int .i64 s.y, .int .i64 s.v]] w fun e w' => e = .returned (.bool (askB s)) ∧ Gr w w' := by
  have HN : Hid (∀ w', Calls Tryd.prog 26 #[.string s.u] w' fun e w2 => e = .returned (.bool (nameB s.u)) ∧ w2 = w') := fun w' => name_any s.u w' hs.2.1
  have HO : Hid (∀ w', Calls Tryd.prog 27 #[.int .i64 s.o, .int .i64 0, .int .i64 15] w' fun e w2 => e = .returned (.bool (decide (0 ≤ s.o) && decide (s.o ≤ 15))) ∧ w2 = w') := fun w' => within_any s.o 0 15 w'
  have HV : Hid (∀ w', Calls Tryd.prog 27 #[.int .i64 s.v, .int .i64 1, .int .i64 50] w' fun e w2 => e = .returned (.bool (decide (1 ≤ s.v) && decide (s.v ≤ 50))) ∧ w2 = w') := fun w' => within_any s.v 1 50 w'
  have ht := text_eq s.a []
  rw [show (⟨[].toArray⟩ : ByteArray) = ⟨#[]⟩ from rfl] at ht
  have HB : Hid (askB s = (nameB s.u && (decide (s.k = 0) && decide (s.a = ⟨#[]⟩) && decide (s.n = 0)) && decide (s.y = 0) && (decide (0 ≤ s.o) && decide (s.o ≤ 15)) && (decide (1 ≤ s.v) && decide (s.v ≤ 50)))) := rfl
  clear hs
  generalize askB s = OB at *
  generalize (decide (0 ≤ s.o) && decide (s.o ≤ 15)) = OR at *
  generalize (decide (1 ≤ s.v) && decide (s.v ≤ 50)) = VR at *
  generalize nameB s.u = NB at *
  cases NB with
  | true =>
    by_cases hk : s.k = 0
    · rw [decide_eq_true hk] at HB
      have ek : (s.k == 0) = true := by simpa using hk
      clear hk
      by_cases ha : s.a = ⟨#[]⟩
      · rw [decide_eq_true ha] at HB ht
        have ea : (s.a.toList == []) = true := ht
        clear ha ht
        by_cases hn : s.n = 0
        · rw [decide_eq_true hn] at HB
          have en : (s.n == 0) = true := by simpa using hn
          clear hn
          by_cases hy : s.y = 0
          · rw [decide_eq_true hy] at HB
            have ey : (s.y == 0) = true := by simpa using hy
            clear hy
            cases OR with
            | true =>
              have HF : Hid (OB = VR) := HB.out
              clear HB
              go_enter Tryd.func29, Tryd.ntmps29
              go_wp2_with fail
              refine (HN.out _).mono ?_
              rintro e w1 ⟨rfl, hw⟩; obtain rfl := hw.symm
              go_wp2_with fail
              refine (HO.out _).mono ?_
              rintro e w1 ⟨rfl, hw⟩; obtain rfl := hw.symm
              go_wp2_with fail
              refine (HV.out _).mono ?_
              rintro e w1 ⟨rfl, hw⟩; obtain rfl := hw.symm
              go_wp2
              go_ret
              exact ⟨by rw [HF.out]; rfl, (by repeat (first | exact Gr.refl _ | refine Gr.alloc ?_ | refine Gr.drew ?_ | refine Gr.trans ?_ (by assumption)))⟩
            | false =>
              have HF : Hid (OB = false) := HB.out
              clear HB
              go_enter Tryd.func29, Tryd.ntmps29
              go_wp2_with fail
              refine (HN.out _).mono ?_
              rintro e w1 ⟨rfl, hw⟩; obtain rfl := hw.symm
              go_wp2_with fail
              refine (HO.out _).mono ?_
              rintro e w1 ⟨rfl, hw⟩; obtain rfl := hw.symm
              go_wp2
              go_ret
              exact ⟨by rw [HF.out]; rfl, (by repeat (first | exact Gr.refl _ | refine Gr.alloc ?_ | refine Gr.drew ?_ | refine Gr.trans ?_ (by assumption)))⟩
          · rw [decide_eq_false hy] at HB
            have ey : (s.y == 0) = false := by simpa using hy
            have HF : Hid (OB = false) := HB.out.trans (by simp)
            clear hy HB
            go_enter Tryd.func29, Tryd.ntmps29
            go_wp2_with fail
            refine (HN.out _).mono ?_
            rintro e w1 ⟨rfl, hw⟩; obtain rfl := hw.symm
            go_wp2
            go_ret
            exact ⟨by rw [HF.out]; rfl, (by repeat (first | exact Gr.refl _ | refine Gr.alloc ?_ | refine Gr.drew ?_ | refine Gr.trans ?_ (by assumption)))⟩
        · rw [decide_eq_false hn] at HB
          have en : (s.n == 0) = false := by simpa using hn
          have HF : Hid (OB = false) := HB.out.trans (by simp)
          clear hn HB
          go_enter Tryd.func29, Tryd.ntmps29
          go_wp2_with fail
          refine (HN.out _).mono ?_
          rintro e w1 ⟨rfl, hw⟩; obtain rfl := hw.symm
          go_wp2
          go_ret
          exact ⟨by rw [HF.out]; rfl, (by repeat (first | exact Gr.refl _ | refine Gr.alloc ?_ | refine Gr.drew ?_ | refine Gr.trans ?_ (by assumption)))⟩
      · rw [decide_eq_false ha] at HB ht
        have ea : (s.a.toList == []) = false := ht
        have HF : Hid (OB = false) := HB.out.trans (by simp)
        clear ha HB ht
        go_enter Tryd.func29, Tryd.ntmps29
        go_wp2_with fail
        refine (HN.out _).mono ?_
        rintro e w1 ⟨rfl, hw⟩; obtain rfl := hw.symm
        go_wp2
        go_ret
        exact ⟨by rw [HF.out]; rfl, (by repeat (first | exact Gr.refl _ | refine Gr.alloc ?_ | refine Gr.drew ?_ | refine Gr.trans ?_ (by assumption)))⟩
    · rw [decide_eq_false hk] at HB
      have ek : (s.k == 0) = false := by simpa using hk
      have HF : Hid (OB = false) := HB.out.trans (by simp)
      clear hk HB ht
      go_enter Tryd.func29, Tryd.ntmps29
      go_wp2_with fail
      refine (HN.out _).mono ?_
      rintro e w1 ⟨rfl, hw⟩; obtain rfl := hw.symm
      go_wp2
      go_ret
      exact ⟨by rw [HF.out]; rfl, (by repeat (first | exact Gr.refl _ | refine Gr.alloc ?_ | refine Gr.drew ?_ | refine Gr.trans ?_ (by assumption)))⟩
  | false =>
    have HF : Hid (OB = false) := HB.out
    clear HB
    go_enter Tryd.func29, Tryd.ntmps29
    go_wp2_with fail
    refine (HN.out _).mono ?_
    rintro e w1 ⟨rfl, hw⟩; obtain rfl := hw.symm
    go_wp2
    go_ret
    exact ⟨by rw [HF.out]; rfl, (by repeat (first | exact Gr.refl _ | refine Gr.alloc ?_ | refine Gr.drew ?_ | refine Gr.trans ?_ (by assumption)))⟩
end Go.Proofs.YtdliljijgokpjaaDoor
