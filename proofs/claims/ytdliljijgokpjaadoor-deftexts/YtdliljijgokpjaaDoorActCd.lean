/- act: Check; and the document's. -/
import Derived.Test.YtdliljijgokpjaaDoorActNd
import Derived.Test.YtdliljijgokpjaaDoorRefN
import Derived.Test.YtdliljijgokpjaaDoorCashP
namespace Go.Proofs.YtdliljijgokpjaaDoor
open Go.RowKit

set_option maxHeartbeats 1000000 in
theorem actCheck_any (k n : Int) (s : ByteArray) (w : World) (hs : s.size ≤ 9223372036854775807) :
    Calls Tryd.prog 51 #[.agg #[.int .i64 k, .string s, .int .i64 n]] w fun e w' => e = .returned (.int .i64 (Act.chkE k s n)) ∧ Gr w w' := by
  have HN : Hid (∀ w', Calls Tryd.prog 26 #[.string s] w' fun e w2 => e = .returned (.bool (Act.nameB s)) ∧ w2 = w') := fun w' => name_any s w' hs
  have HF : Hid (∀ w', Calls Tryd.prog 72 #[.int .i64 n] w' fun e w2 => e = .returned (.bool (decide (0 ≤ n) && decide (n ≤ 1000000000000000))) ∧ w2 = w') := fun w' => fits_any n w'
  cases hb : Act.actB k s n with
  | true =>
    obtain ⟨⟨h1, h2⟩, h3, h4, h5⟩ := (Act.act_iff k s n).1 hb
    rw [Act.chk_yes hb]
    rw [h3] at HN
    rw [show (decide (0 ≤ n) && decide (n ≤ 1000000000000000)) = true by simp; omega] at HF
    have k1 : ¬ k < 1 := by omega
    have k2 : ¬ 4 < k := by omega
    have k3 : ¬ n < 1 := by omega
    have k4 : ¬ 1000000000000000 < n := by omega
    clear hb h3 hs
    go_enter Tryd.func51, Tryd.ntmps51
    go_wp2_with fail
    refine (HN.out _).mono ?_
    rintro e w1 ⟨rfl, hw1⟩; obtain rfl := hw1.symm
    go_wp2_with fail
    refine (HF.out _).mono ?_
    rintro e w1 ⟨rfl, hw1⟩; obtain rfl := hw1.symm
    go_wp2
    go_ret
    exact ⟨rfl, (by repeat (first | exact Gr.refl _ | refine Gr.alloc ?_ | refine Gr.drew ?_ | refine Gr.trans ?_ (by assumption)))⟩
  | false =>
    rw [Act.chk_no hb]
    have hno : ¬ ((1 ≤ k ∧ k ≤ 4) ∧ Act.nameB s = true ∧ 1 ≤ n ∧ n ≤ 1000000000000000) := fun h => by rw [(Act.act_iff k s n).2 h] at hb; cases hb
    clear hb hs
    by_cases h1 : 1 ≤ k
    · have k1 : ¬ k < 1 := by omega
      by_cases h2 : k ≤ 4
      · have k2 : ¬ 4 < k := by omega
        cases h3 : Act.nameB s with
        | false =>
          rw [h3] at HN
          clear hno h3
          go_enter Tryd.func51, Tryd.ntmps51
          go_wp2_with fail
          refine (HN.out _).mono ?_
          rintro e w1 ⟨rfl, hw1⟩; obtain rfl := hw1.symm
          go_wp2
          go_ret
          exact ⟨rfl, (by repeat (first | exact Gr.refl _ | refine Gr.alloc ?_ | refine Gr.drew ?_ | refine Gr.trans ?_ (by assumption)))⟩
        | true =>
          rw [h3] at HN
          by_cases h4 : n < 1
          · clear hno h3
            go_enter Tryd.func51, Tryd.ntmps51
            go_wp2_with fail
            refine (HN.out _).mono ?_
            rintro e w1 ⟨rfl, hw1⟩; obtain rfl := hw1.symm
            go_wp2
            go_ret
            exact ⟨rfl, (by repeat (first | exact Gr.refl _ | refine Gr.alloc ?_ | refine Gr.drew ?_ | refine Gr.trans ?_ (by assumption)))⟩
          · have k4 : 1000000000000000 < n := by
              by_cases h5 : 1000000000000000 < n
              · exact h5
              · exact absurd ⟨⟨h1, h2⟩, h3, by omega, by omega⟩ hno
            rw [show (decide (0 ≤ n) && decide (n ≤ 1000000000000000)) = false by simp; omega] at HF
            clear hno h3
            go_enter Tryd.func51, Tryd.ntmps51
            go_wp2_with fail
            refine (HN.out _).mono ?_
            rintro e w1 ⟨rfl, hw1⟩; obtain rfl := hw1.symm
            go_wp2_with fail
            refine (HF.out _).mono ?_
            rintro e w1 ⟨rfl, hw1⟩; obtain rfl := hw1.symm
            go_wp2
            go_ret
            exact ⟨rfl, (by repeat (first | exact Gr.refl _ | refine Gr.alloc ?_ | refine Gr.drew ?_ | refine Gr.trans ?_ (by assumption)))⟩
      · have k2 : 4 < k := by omega
        clear hno HN HF
        go_enter Tryd.func51, Tryd.ntmps51
        go_wp2
        go_ret
        exact ⟨rfl, (by repeat (first | exact Gr.refl _ | refine Gr.alloc ?_ | refine Gr.drew ?_ | refine Gr.trans ?_ (by assumption)))⟩
    · have k1 : k < 1 := by omega
      clear hno HN HF
      go_enter Tryd.func51, Tryd.ntmps51
      go_wp2
      go_ret
      exact ⟨rfl, (by repeat (first | exact Gr.refl _ | refine Gr.alloc ?_ | refine Gr.drew ?_ | refine Gr.trans ?_ (by assumption)))⟩

set_option maxHeartbeats 1000000 in
theorem refActCheck_any (k n : Int) (s : ByteArray) (w : World) (hs : s.size ≤ 9223372036854775807) :
    Calls Tryd.prog 52 #[.agg #[.int .i64 k, .string s, .int .i64 n]] w fun e w' => e = .returned (.int .i64 (Act.chkE k s n)) ∧ Gr w w' := by
  have HN : Hid (∀ w', Calls Tryd.prog 30 #[.string s] w' fun e w2 => e = .returned (.bool (Act.nameB s)) ∧ w2 = w') := fun w' => refName_any s w' hs
  cases hb : Act.actB k s n with
  | true =>
    obtain ⟨⟨h1, h2⟩, h3, h4, h5⟩ := (Act.act_iff k s n).1 hb
    rw [Act.chk_yes hb]
    rw [h3] at HN
    have k1 : ¬ k < 1 := by omega
    have k2 : ¬ 4 < k := by omega
    have k3 : ¬ n < 1 := by omega
    have k4 : ¬ 1000000000000000 < n := by omega
    clear hb h3 hs
    go_enter Tryd.func52, Tryd.ntmps52
    go_wp2_with fail
    refine (HN.out _).mono ?_
    rintro e w1 ⟨rfl, hw1⟩; obtain rfl := hw1.symm
    go_wp2
    go_ret
    exact ⟨rfl, (by repeat (first | exact Gr.refl _ | refine Gr.alloc ?_ | refine Gr.drew ?_ | refine Gr.trans ?_ (by assumption)))⟩
  | false =>
    rw [Act.chk_no hb]
    have hno : ¬ ((1 ≤ k ∧ k ≤ 4) ∧ Act.nameB s = true ∧ 1 ≤ n ∧ n ≤ 1000000000000000) := fun h => by rw [(Act.act_iff k s n).2 h] at hb; cases hb
    clear hb hs
    by_cases h1 : 1 ≤ k
    · have k1 : ¬ k < 1 := by omega
      by_cases h2 : k ≤ 4
      · have k2 : ¬ 4 < k := by omega
        cases h3 : Act.nameB s with
        | false =>
          rw [h3] at HN
          clear hno h3
          go_enter Tryd.func52, Tryd.ntmps52
          go_wp2_with fail
          refine (HN.out _).mono ?_
          rintro e w1 ⟨rfl, hw1⟩; obtain rfl := hw1.symm
          go_wp2
          go_ret
          exact ⟨rfl, (by repeat (first | exact Gr.refl _ | refine Gr.alloc ?_ | refine Gr.drew ?_ | refine Gr.trans ?_ (by assumption)))⟩
        | true =>
          rw [h3] at HN
          by_cases h4 : n < 1
          · clear hno h3
            go_enter Tryd.func52, Tryd.ntmps52
            go_wp2_with fail
            refine (HN.out _).mono ?_
            rintro e w1 ⟨rfl, hw1⟩; obtain rfl := hw1.symm
            go_wp2
            go_ret
            exact ⟨rfl, (by repeat (first | exact Gr.refl _ | refine Gr.alloc ?_ | refine Gr.drew ?_ | refine Gr.trans ?_ (by assumption)))⟩
          · have k4 : 1000000000000000 < n := by
              by_cases h5 : 1000000000000000 < n
              · exact h5
              · exact absurd ⟨⟨h1, h2⟩, h3, by omega, by omega⟩ hno
            clear hno h3
            go_enter Tryd.func52, Tryd.ntmps52
            go_wp2_with fail
            refine (HN.out _).mono ?_
            rintro e w1 ⟨rfl, hw1⟩; obtain rfl := hw1.symm
            go_wp2
            go_ret
            exact ⟨rfl, (by repeat (first | exact Gr.refl _ | refine Gr.alloc ?_ | refine Gr.drew ?_ | refine Gr.trans ?_ (by assumption)))⟩
      · have k2 : 4 < k := by omega
        clear hno HN
        go_enter Tryd.func52, Tryd.ntmps52
        go_wp2
        go_ret
        exact ⟨rfl, (by repeat (first | exact Gr.refl _ | refine Gr.alloc ?_ | refine Gr.drew ?_ | refine Gr.trans ?_ (by assumption)))⟩
    · have k1 : k < 1 := by omega
      clear hno HN
      go_enter Tryd.func52, Tryd.ntmps52
      go_wp2
      go_ret
      exact ⟨rfl, (by repeat (first | exact Gr.refl _ | refine Gr.alloc ?_ | refine Gr.drew ?_ | refine Gr.trans ?_ (by assumption)))⟩

end Go.Proofs.YtdliljijgokpjaaDoor
