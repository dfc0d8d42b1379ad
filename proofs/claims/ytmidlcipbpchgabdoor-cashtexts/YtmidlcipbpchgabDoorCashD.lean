/- The document's digits, and its texts of amounts. -/
import Derived.Test.YtmidlcipbpchgabDoorIntA
import Derived.Test.YtmidlcipbpchgabDoorCashT
namespace Go.Proofs.YtmidlcipbpchgabDoor
open Go.RowKit

set_option maxHeartbeats 1000000 in
theorem digit_any (n : Nat) (w : World) (h : n < 10) : Calls Tryd.prog 48 #[.int .i64 n] w fun e w' => e = .returned (.string ⟨(Lib.decDigits n).toArray⟩) ∧ w' = w := by
  have HD : Hid (Lib.decDigits n = [Csh.dig n]) := Csh.dec_one n h
  rcases (by omega : n = 0 ∨ n = 1 ∨ n = 2 ∨ n = 3 ∨ n = 4 ∨ n = 5 ∨ n = 6 ∨ n = 7 ∨ n = 8 ∨ n = 9) with rfl | rfl | rfl | rfl | rfl | rfl | rfl | rfl | rfl | rfl
  all_goals
    go_enter Tryd.func48, Tryd.ntmps48
    go_wp2
    go_ret
    exact ⟨by rw [HD.out]; rfl, rfl⟩

set_option maxHeartbeats 1000000 in
theorem digits_any (n : Nat) (w : World) (h : n ≤ 9223372036854775807) : Calls Tryd.prog 48 #[.int .i64 n] w fun e w' => e = .returned (.string ⟨(Lib.decDigits n).toArray⟩) ∧ w' = w := by
  induction n using Nat.strongRecOn with
  | ind n ih =>
    by_cases h9 : n < 10
    · exact digit_any n w h9
    · have H1 : Hid (Calls Tryd.prog 48 #[.int .i64 ((n / 10 : Nat) : Int)] w fun e w' => e = .returned (.string ⟨(Lib.decDigits (n / 10)).toArray⟩) ∧ w' = w) := ih (n / 10) (by omega) (by omega)
      have H2 : Hid (Calls Tryd.prog 48 #[.int .i64 ((n % 10 : Nat) : Int)] w fun e w' => e = .returned (.string ⟨(Lib.decDigits (n % 10)).toArray⟩) ∧ w' = w) := digit_any (n % 10) w (by omega)
      have hl := Csh.dec_len (n / 10) 19 (by omega)
      have hl2 := Csh.dec_len (n % 10) 0 (by omega)
      have ha := add_lists (Lib.decDigits (n / 10)) (Lib.decDigits (n % 10)) (by omega)
      have HD : Hid (Lib.decDigits n = Lib.decDigits (n / 10) ++ Lib.decDigits (n % 10)) := by
        show _ = _
        rw [Csh.dec_snoc n h9, Csh.dec_one (n % 10) (by omega)]
        congr 2
        unfold Csh.dig
        rw [Nat.mod_mod]
      have e1 : ((n / 10 : Nat) : Int) = (n : Int) / 10 := by omega
      have e2 : ((n % 10 : Nat) : Int) = (n : Int) % 10 := by omega
      rw [e1] at H1
      rw [e2] at H2
      have h9' : ¬ ((n : Int) < 10) := by omega
      generalize Lib.decDigits (n / 10) ++ Lib.decDigits (n % 10) = t2 at *
      generalize Lib.decDigits (n / 10) = t0 at *
      generalize Lib.decDigits (n % 10) = t1 at *
      clear ih hl hl2 e1 e2
      go_enter Tryd.func48, Tryd.ntmps48
      go_wp2_with fail
      refine H1.out.mono ?_
      rintro e w1 ⟨rfl, hw1⟩; obtain rfl := hw1.symm
      go_wp2_with fail
      refine H2.out.mono ?_
      rintro e w1 ⟨rfl, hw1⟩; obtain rfl := hw1.symm
      go_wp2
      go_ret
      exact ⟨by rw [HD.out]; rfl, rfl⟩

theorem tdiv_neg (m k : Nat) : (-(m : Int)).tdiv k = -((m / k : Nat) : Int) := by
  rw [Int.neg_tdiv, Int.tdiv_eq_ediv_of_nonneg (by omega)]; rfl
theorem tmod_neg (m k : Nat) : (-(m : Int)).tmod k = -((m % k : Nat) : Int) := by
  rw [Int.neg_tmod, Int.tmod_eq_emod_of_nonneg (by omega)]; rfl

set_option maxHeartbeats 2000000 in
theorem refShow_any (a : Int) (w : World) (h0 : -9223372036854775808 ≤ a) (h1 : a ≤ 9223372036854775807) : Calls Tryd.prog 29 #[.int .i64 a] w fun e w' => e = .returned (.string ⟨(Csh.showE a).toArray⟩) ∧ w' = w := by
  have hg : ∀ n : Nat, n ≤ 9223372036854775807 → Calls Tryd.prog 48 #[.int .i64 n] w fun e w' => e = .returned (.string ⟨(Lib.decDigits n).toArray⟩) ∧ w' = w := fun n hn => digits_any n w hn
  obtain ⟨m, hm⟩ : ∃ m, a.natAbs = m := ⟨_, rfl⟩
  have H1 : Hid (Calls Tryd.prog 48 #[.int .i64 ((m / 100 : Nat) : Int)] w fun e w' => e = .returned (.string ⟨(Lib.decDigits (m / 100)).toArray⟩) ∧ w' = w) := hg (m / 100) (by omega)
  have H2 : Hid (Calls Tryd.prog 48 #[.int .i64 ((m % 100 / 10 : Nat) : Int)] w fun e w' => e = .returned (.string ⟨[Csh.dig (m / 10)].toArray⟩) ∧ w' = w) := by
    have := hg (m % 100 / 10) (by omega)
    rw [Csh.dec_one (m % 100 / 10) (by omega), show Csh.dig (m % 100 / 10) = Csh.dig (m / 10) by unfold Csh.dig; rw [show m % 100 / 10 % 10 = m / 10 % 10 by omega]] at this
    exact this
  have H3 : Hid (Calls Tryd.prog 48 #[.int .i64 ((m % 10 : Nat) : Int)] w fun e w' => e = .returned (.string ⟨[Csh.dig m].toArray⟩) ∧ w' = w) := by
    have := hg (m % 10) (by omega)
    rw [Csh.dec_one (m % 10) (by omega), show Csh.dig (m % 10) = Csh.dig m by unfold Csh.dig; rw [Nat.mod_mod]] at this
    exact this
  have hl := Csh.dec_len (m / 100) 19 (by omega)
  by_cases h : a < 0
  · have ea : a = -(m : Int) := by omega
    have q1 : wrap64 (-a.tdiv 100) = ((m / 100 : Nat) : Int) := by
      rw [ea, show (100 : Int) = ((100 : Nat) : Int) by rfl, tdiv_neg]; unfold wrap64; omega
    have q2 : wrap64 (-wrap64 ((a.tmod 100).tdiv 10)) = ((m % 100 / 10 : Nat) : Int) := by
      rw [ea, show (100 : Int) = ((100 : Nat) : Int) by rfl, tmod_neg, show (10 : Int) = ((10 : Nat) : Int) by rfl, tdiv_neg]; unfold wrap64; omega
    have q3 : wrap64 (-a.tmod 10) = ((m % 10 : Nat) : Int) := by
      rw [ea, show (10 : Int) = ((10 : Nat) : Int) by rfl, tmod_neg]; unfold wrap64; omega
    have HE : Hid (Csh.showE a = [45] ++ Lib.decDigits (m / 100) ++ [46] ++ [Csh.dig (m / 10)] ++ [Csh.dig m]) := by
      show _ = _
      unfold Csh.showE Csh.showN; rw [if_pos h, hm]; simp
    have a1 := add_lists [45] (Lib.decDigits (m / 100)) (by simp; omega)
    have a2 := add_lists ([45] ++ Lib.decDigits (m / 100)) [46] (by simp; omega)
    have a3 := add_lists ([45] ++ Lib.decDigits (m / 100) ++ [46]) [Csh.dig (m / 10)] (by simp; omega)
    have a4 := add_lists ([45] ++ Lib.decDigits (m / 100) ++ [46] ++ [Csh.dig (m / 10)]) [Csh.dig m] (by simp; omega)
    generalize [45] ++ Lib.decDigits (m / 100) ++ [46] ++ [Csh.dig (m / 10)] ++ [Csh.dig m] = t4 at *
    generalize [45] ++ Lib.decDigits (m / 100) ++ [46] ++ [Csh.dig (m / 10)] = t3 at *
    generalize [45] ++ Lib.decDigits (m / 100) ++ [46] = t2 at *
    generalize [45] ++ Lib.decDigits (m / 100) = t1 at *
    generalize Lib.decDigits (m / 100) = t0 at *
    generalize Csh.dig (m / 10) = x1 at *
    generalize Csh.dig m = x0 at *
    generalize ((m / 100 : Nat) : Int) = d1 at *
    generalize ((m % 100 / 10 : Nat) : Int) = d2 at *
    generalize ((m % 10 : Nat) : Int) = d3 at *
    have h' : ¬ (0 ≤ a) := by omega
    clear hg hl ea hm
    go_enter Tryd.func29, Tryd.ntmps29
    go_wp2_with fail
    refine H1.out.mono ?_
    rintro e w1 ⟨rfl, hw1⟩; obtain rfl := hw1.symm
    go_wp2_with fail
    refine H2.out.mono ?_
    rintro e w1 ⟨rfl, hw1⟩; obtain rfl := hw1.symm
    go_wp2_with fail
    refine H3.out.mono ?_
    rintro e w1 ⟨rfl, hw1⟩; obtain rfl := hw1.symm
    go_wp2
    go_ret
    exact ⟨by rw [HE.out]; rfl, rfl⟩
  · obtain rfl : a = (m : Int) := by omega
    have HE : Hid (Csh.showE (m : Int) = Lib.decDigits (m / 100) ++ [46] ++ [Csh.dig (m / 10)] ++ [Csh.dig m]) := by
      show _ = _
      unfold Csh.showE Csh.showN; rw [if_neg h, hm]; simp
    have a1 := add_lists (Lib.decDigits (m / 100)) [46] (by simp; omega)
    have a3 := add_lists (Lib.decDigits (m / 100) ++ [46]) [Csh.dig (m / 10)] (by simp; omega)
    have a4 := add_lists (Lib.decDigits (m / 100) ++ [46] ++ [Csh.dig (m / 10)]) [Csh.dig m] (by simp; omega)
    have e1 : ((m / 100 : Nat) : Int) = (m : Int) / 100 := by omega
    have e2 : ((m % 100 / 10 : Nat) : Int) = (m : Int) % 100 / 10 := by omega
    have e3 : ((m % 10 : Nat) : Int) = (m : Int) % 10 := by omega
    rw [e1] at H1
    rw [e2] at H2
    rw [e3] at H3
    generalize Lib.decDigits (m / 100) ++ [46] ++ [Csh.dig (m / 10)] ++ [Csh.dig m] = t4 at *
    generalize Lib.decDigits (m / 100) ++ [46] ++ [Csh.dig (m / 10)] = t3 at *
    generalize Lib.decDigits (m / 100) ++ [46] = t2 at *
    generalize Lib.decDigits (m / 100) = t0 at *
    generalize Csh.dig (m / 10) = x1 at *
    generalize Csh.dig m = x0 at *
    clear hg hl hm e1 e2 e3
    go_enter Tryd.func29, Tryd.ntmps29
    go_wp2_with fail
    refine H1.out.mono ?_
    rintro e w1 ⟨rfl, hw1⟩; obtain rfl := hw1.symm
    go_wp2_with fail
    refine H2.out.mono ?_
    rintro e w1 ⟨rfl, hw1⟩; obtain rfl := hw1.symm
    go_wp2_with fail
    refine H3.out.mono ?_
    rintro e w1 ⟨rfl, hw1⟩; obtain rfl := hw1.symm
    go_wp2
    go_ret
    exact ⟨by rw [HE.out]; rfl, rfl⟩
end Go.Proofs.YtmidlcipbpchgabDoor
