/- The document's digits, numbers, and texts of ids. -/
import Derived.Test.YtmidlcipbpchgaaDoorDigM
import Derived.Test.YtmidlcipbpchgaaDoorRChkP
namespace Go.Proofs.YtmidlcipbpchgaaDoor
open Go.RowKit

theorem dgs_one (n : Nat) (h : n < 10) : Lib.decDigits n = [UInt8.ofNat (48 + n)] := by rw [Lib.decDigits, dif_pos h]
theorem dgs_snoc (n : Nat) (h : ¬ n < 10) : Lib.decDigits n = Lib.decDigits (n / 10) ++ Lib.decDigits (n % 10) := by
  rw [Lib.decDigits, dif_neg h, dgs_one (n % 10) (by omega)]

set_option maxHeartbeats 1000000 in
theorem digit_any (n : Nat) (w : World) (h : n < 10) : Calls Tryd.prog 42 #[.int .i64 n] w fun e w' => e = .returned (.string ⟨(Lib.decDigits n).toArray⟩) ∧ w' = w := by
  have HD : Hid (Lib.decDigits n = [UInt8.ofNat (48 + n)]) := dgs_one n h
  rcases (by omega : n = 0 ∨ n = 1 ∨ n = 2 ∨ n = 3 ∨ n = 4 ∨ n = 5 ∨ n = 6 ∨ n = 7 ∨ n = 8 ∨ n = 9) with rfl | rfl | rfl | rfl | rfl | rfl | rfl | rfl | rfl | rfl
  all_goals
    go_enter Tryd.func42, Tryd.ntmps42
    go_wp2
    go_ret
    exact ⟨by rw [HD.out]; rfl, rfl⟩

set_option maxHeartbeats 1000000 in
theorem digits_any (n : Nat) (w : World) (h : n ≤ 999999999) : Calls Tryd.prog 42 #[.int .i64 n] w fun e w' => e = .returned (.string ⟨(Lib.decDigits n).toArray⟩) ∧ w' = w := by
  induction n using Nat.strongRecOn with
  | ind n ih =>
    by_cases h9 : n < 10
    · exact digit_any n w h9
    · have H1 : Hid (Calls Tryd.prog 42 #[.int .i64 ((n / 10 : Nat) : Int)] w fun e w' => e = .returned (.string ⟨(Lib.decDigits (n / 10)).toArray⟩) ∧ w' = w) := ih (n / 10) (by omega) (by omega)
      have H2 : Hid (Calls Tryd.prog 42 #[.int .i64 ((n % 10 : Nat) : Int)] w fun e w' => e = .returned (.string ⟨(Lib.decDigits (n % 10)).toArray⟩) ∧ w' = w) := digit_any (n % 10) w (by omega)
      have hl := digs_len (n / 10) 19 (by omega)
      have hl2 := digs_len (n % 10) 0 (by omega)
      have ha := add_lists (Lib.decDigits (n / 10)) (Lib.decDigits (n % 10)) (by omega)
      have HD : Hid (Lib.decDigits n = Lib.decDigits (n / 10) ++ Lib.decDigits (n % 10)) := dgs_snoc n h9
      have e1 : ((n / 10 : Nat) : Int) = (n : Int) / 10 := by omega
      have e2 : ((n % 10 : Nat) : Int) = (n : Int) % 10 := by omega
      rw [e1] at H1
      rw [e2] at H2
      have h9' : ¬ ((n : Int) < 10) := by omega
      generalize Lib.decDigits (n / 10) ++ Lib.decDigits (n % 10) = t2 at *
      generalize Lib.decDigits (n / 10) = t0 at *
      generalize Lib.decDigits (n % 10) = t1 at *
      clear ih hl hl2 e1 e2
      go_enter Tryd.func42, Tryd.ntmps42
      go_wp2_with fail
      refine H1.out.mono ?_
      rintro e w1 ⟨rfl, hw1⟩; obtain rfl := hw1.symm
      go_wp2_with fail
      refine H2.out.mono ?_
      rintro e w1 ⟨rfl, hw1⟩; obtain rfl := hw1.symm
      go_wp2
      go_ret
      exact ⟨by rw [HD.out]; rfl, rfl⟩

theorem numV_lt (ds : List UInt8) (h : ∀ b ∈ ds, isD b = true) : numV ds < 10 ^ ds.length := by
  have key : ∀ k, k ≤ ds.length → numV (ds.take k) < 10 ^ k := by
    intro k
    induction k with
    | zero => intro _; simp [numV]
    | succ k ih =>
      intro hk
      have := ih (by omega)
      have hd := h (ds[k]'(by omega)) (List.getElem_mem _)
      simp only [isD, Bool.and_eq_true, decide_eq_true_eq] at hd
      rw [List.take_succ_eq_append_getElem (by omega), numV_snoc, Nat.pow_succ]
      omega
  have := key ds.length (Nat.le_refl _)
  rwa [List.take_length] at this

set_option maxHeartbeats 4000000 in
set_option maxRecDepth 100000 in
theorem number_read (s : ByteArray) (k : Nat) (w : World) (hs : s.size ≤ 140737488355328) (hk : k ≤ s.size) :
    Calls Tryd.prog 44 #[.string s, .int .i64 k] w fun e w' => e = .returned (.tuple #[.int .i64 (nV s.data.toList k), .int .i64 (nT s.data.toList k : Nat), .bool (nB s.data.toList k)]) ∧ w' = w := by
  have hl : s.data.toList.length = s.size := by simp
  go_enter Tryd.func44, Tryd.ntmps44
  go_wp2
  go_loop [7, 8] (fun n i => ∃ j : Nat, j ≤ 6 ∧ k + j ≤ s.size ∧ i = .int .i64 ((k + j : Nat) : Int) ∧ n = .int .i64 ((numV ((s.data.toList.drop k).take j) : Nat) : Int) ∧ (∀ b ∈ (s.data.toList.drop k).take j, isD b = true)) (fun _ i => s.size - (intOf i).toNat)
  case atStart => exact ⟨0, by omega, by omega, rfl, rfl, by simp⟩
  case round =>
    obtain ⟨j, hj6, hjs, rfl, rfl, hall⟩ := hrel
    have HALL : Hid (∀ b ∈ (s.data.toList.drop k).take j, isD b = true) := hall
    have hlen : ((s.data.toList.drop k).take j).length = j := by rw [List.length_take, List.length_drop, hl]; omega
    have hbd := numV_lt _ hall
    rw [hlen] at hbd
    clear hall
    have HEND : Hid ((∀ h : j < ((s.data.toList.drop k).take 6).length, isD ((s.data.toList.drop k).take 6)[j] = false) → nV s.data.toList k = ((numV ((s.data.toList.drop k).take j) : Nat) : Int) ∧ nT s.data.toList k = k + j ∧ nB s.data.toList k = decide (0 < j)) := by
      intro hstop
      have e : numS s.data.toList k = (s.data.toList.drop k).take j := by
        have hm : ((s.data.toList.drop k).take 6).take j = (s.data.toList.drop k).take j := by rw [List.take_take, Nat.min_eq_left hj6]
        unfold numS
        rw [while_take _ j (by rw [List.length_take, List.length_drop, hl]; omega) (by rw [hm]; exact HALL.out) hstop, hm]
      unfold nV nT nB
      rw [e, hlen]
      exact ⟨rfl, rfl, rfl⟩
    by_cases hlt : k + j < s.size
    · have hlti : ((k + j : Nat) : Int) < (s.size : Int) := by omega
      have h8 : (s[k + j]'hlt).toNat < 256 := (s[k + j]'hlt).toNat_lt
      have hget : ∀ h : j < ((s.data.toList.drop k).take 6).length, ((s.data.toList.drop k).take 6)[j] = s[k + j]'hlt := by
        intro h
        rw [List.getElem_take, List.getElem_drop]; rfl
      by_cases h6 : j < 6
      · have h6i : ((k + j : Nat) : Int) < (k : Int) + 6 := by omega
        have hpow : 10 ^ j ≤ 10 ^ 5 := Nat.pow_le_pow_right (by omega) (by omega)
        have hv5 : numV ((s.data.toList.drop k).take j) < 100000 := by omega
        by_cases hd : isD (s[k + j]'hlt) = true
        · have hd' := hd
          simp only [isD, Bool.and_eq_true, decide_eq_true_eq] at hd'
          have HN : Hid (((numV ((s.data.toList.drop k).take (j + 1)) : Nat) : Int) = 10 * ((numV ((s.data.toList.drop k).take j) : Nat) : Int) + (((s[k + j]'hlt).toNat : Int) - 48)) := by
            show _ = _
            rw [List.take_succ_eq_append_getElem (by rw [List.length_drop, hl]; omega), numV_snoc, List.getElem_drop]
            have e3 : (s.data.toList[k + j]'(by rw [hl]; exact hlt)) = s[k + j]'hlt := rfl
            rw [e3]; omega
          have HA : Hid (∀ b ∈ (s.data.toList.drop k).take (j + 1), isD b = true) := by
            intro b hb
            rw [List.take_succ_eq_append_getElem (by rw [List.length_drop, hl]; omega)] at hb
            rcases List.mem_append.1 hb with hb | hb
            · exact HALL.out b hb
            · rw [List.mem_singleton, List.getElem_drop] at hb
              rw [hb]; exact hd
          obtain ⟨hd1, hd2⟩ := hd'
          have hd1' : (48 : Int) ≤ ((s[k + j]'hlt).toNat : Int) := by omega
          have hd2' : ((s[k + j]'hlt).toNat : Int) ≤ 57 := by omega
          generalize numV ((s.data.toList.drop k).take j) = v at *
          clear hbd hpow hget hd HEND
          go_wp2
          go_round
          case rel => exact ⟨j + 1, by omega, by omega, by congr 1, by rw [HN.out], HA.out⟩
          case measure => simp [intOf]; omega
        · have hdf : isD (s[k + j]'hlt) = false := by simpa using hd
          have HE : Hid (nV s.data.toList k = ((numV ((s.data.toList.drop k).take j) : Nat) : Int) ∧ nT s.data.toList k = k + j ∧ nB s.data.toList k = decide (0 < j)) := HEND.out (fun h => by rw [hget h]; exact hdf)
          simp only [isD, Bool.and_eq_false_iff, decide_eq_false_iff_not] at hdf
          generalize numV ((s.data.toList.drop k).take j) = v at *
          clear hbd hpow hget hd HEND
          by_cases g1 : (48 : Int) ≤ ((s[k + j]'hlt).toNat : Int)
          · have g2 : ¬ (((s[k + j]'hlt).toNat : Int) ≤ 57) := by omega
            clear hdf
            go_wp2
            go_ret3
            exact ⟨by rw [HE.out.1, HE.out.2.1, HE.out.2.2]; simp; omega, rfl⟩
          · clear hdf
            go_wp2
            go_ret3
            exact ⟨by rw [HE.out.1, HE.out.2.1, HE.out.2.2]; simp; omega, rfl⟩
      · have HE : Hid (nV s.data.toList k = ((numV ((s.data.toList.drop k).take j) : Nat) : Int) ∧ nT s.data.toList k = k + j ∧ nB s.data.toList k = decide (0 < j)) := HEND.out (fun h => by rw [List.length_take] at h; omega)
        have h6i : ¬ (((k + j : Nat) : Int) < (k : Int) + 6) := by omega
        generalize numV ((s.data.toList.drop k).take j) = v at *
        clear hbd hget HEND
        go_wp2
        go_ret3
        exact ⟨by rw [HE.out.1, HE.out.2.1, HE.out.2.2]; simp; omega, rfl⟩
    · have HE : Hid (nV s.data.toList k = ((numV ((s.data.toList.drop k).take j) : Nat) : Int) ∧ nT s.data.toList k = k + j ∧ nB s.data.toList k = decide (0 < j)) := HEND.out (fun h => by rw [List.length_take, List.length_drop, hl] at h; omega)
      have hlti : ¬ (((k + j : Nat) : Int) < (s.size : Int)) := by omega
      generalize numV ((s.data.toList.drop k).take j) = v at *
      clear hbd HEND
      go_wp2
      go_ret3
      exact ⟨by rw [HE.out.1, HE.out.2.1, HE.out.2.2]; simp; omega, rfl⟩
end Go.Proofs.YtmidlcipbpchgaaDoor
