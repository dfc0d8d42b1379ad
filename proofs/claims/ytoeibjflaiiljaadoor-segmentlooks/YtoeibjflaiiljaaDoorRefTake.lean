
/- The document's value and TakeNumber take what Pk.takeNum takes. -/
import Derived.Test.YtoeibjflaiiljaaDoorTake
import Derived.Test.YtoeibjflaiiljaaDoorRefNum
import Derived.Test.YtoeibjflaiiljaaDoorMath3
import Derived.Lib.Strings
import Derived.Deep.QuietTactic
import Derived.BigQuiet
import Derived.Deep.RegionHeld3
namespace Go.Proofs.YtoeibjflaiiljaaDoor
open Go.RowKit
attribute [local go_sem ↓] Go.wp_at_zero Go.wp_at_succ

set_option maxHeartbeats 400000 in
set_option maxRecDepth 100000 in
theorem value_any (s : ByteArray) (w : World) (hs : s.size ≤ 140737488355328) (r : Nat) (q : Bool) (hr : (Pk.val s.data.toList < 18446744073709551616 ∧ r = Pk.val s.data.toList ∧ q = true) ∨ (18446744073709551616 ≤ Pk.val s.data.toList ∧ r = 0 ∧ q = false)) :
    Calls Tryd.prog 49 #[.string s] w fun e w' => e = .returned (.tuple #[.int .u64 r, .bool q]) ∧ w' = w := by
  have HR : Hid ((Pk.val s.data.toList < 18446744073709551616 ∧ r = Pk.val s.data.toList ∧ q = true) ∨ (18446744073709551616 ≤ Pk.val s.data.toList ∧ r = 0 ∧ q = false)) := hr
  clear hr
  go_enter Tryd.func49, Tryd.ntmps49
  go_wp2
  go_loop [4, 5] (fun n i => ∃ k x : Nat, k ≤ s.size ∧ i = .int .i64 ((k : Int) - 1) ∧ n = .int .u64 x ∧ x = Pk.val (s.data.toList.drop k) ∧ x < 18446744073709551616) (fun _ i => (intOf i + 1).toNat)
  case atStart =>
    refine ⟨s.size, 0, by omega, rfl, rfl, ?_, by omega⟩
    rw [List.drop_eq_nil_of_le (by simp)]; rfl
  case round =>
    obtain ⟨k, x, hk, rfl, rfl, hx, hx64⟩ := hrel
    have HX : Hid (x = Pk.val (s.data.toList.drop k)) := hx
    clear hx
    cases k with
    | zero =>
      have hR : r = x ∧ q = true := by
        have h1 := HX.out
        rw [List.drop_zero] at h1
        rcases HR.out with ⟨_, h3, h4⟩ | ⟨h2, _⟩
        · exact ⟨h3.trans h1.symm, h4⟩
        · omega
      obtain ⟨rfl, rfl⟩ := hR
      go_wp2
      go_ret2
      exact ⟨rfl, rfl⟩
    | succ j =>
      have hj : ((j + 1 : Nat) : Int) - 1 = (j : Int) := by omega
      have hjs : j < s.size := by omega
      rw [hj]
      by_cases hbig : 144115188075855871 < x
      · have hR : r = 0 ∧ q = false := by
          have h1 := HX.out
          have h2 := Pk.val_drop s.data.toList (j + 1)
          rw [← h1, Nat.pow_succ] at h2
          have h3 : 1 * (128 * x) ≤ 128 ^ j * (128 * x) := Nat.mul_le_mul_right _ (Nat.pow_pos (by omega))
          rw [Nat.mul_assoc] at h2
          rcases HR.out with ⟨h4, _⟩ | ⟨_, h4⟩
          · omega
          · exact h4
        obtain ⟨rfl, rfl⟩ := hR
        go_wp2
        go_ret2
        exact ⟨rfl, rfl⟩
      · have hb : (s[j]'hjs).toNat < 256 := (s[j]'hjs).toNat_lt
        go_wp2
        go_round
        case rel =>
          refine ⟨j, 128 * x + (s[j]'hjs).toNat % 128, by omega, by go_num, by go_num, ?_, by omega⟩
          rw [drop_at s j hjs, Pk.val, ← HX.out]; omega
        case measure => simp [intOf]

theorem drop_get (s : ByteArray) (a i : Nat) (h : i < (s.data.toList.drop a).length) (h2 : a + i < s.size) : (s.data.toList.drop a)[i] = s[a + i] := by
  rw [List.getElem_drop]; rfl
theorem ext_data (s : ByteArray) (a n : Nat) : (s.extract a (a + n)).data.toList = (s.data.toList.drop a).take n := by
  rw [Lib.extract_data]; simp

set_option maxHeartbeats 1000000 in
set_option maxRecDepth 100000 in
theorem refTakeNumber_any (s : ByteArray) (p : Int) (w : World) (hs : s.size ≤ 140737488355328) :
    Calls Tryd.prog 42 #[.string s, .int .i64 p] w fun e w' => e = .returned (.tuple #[.int .u64 (Pk.takeNum s.data.toList p).1, .int .i64 (Pk.takeNum s.data.toList p).2.1, .int .i64 (Pk.takeNum s.data.toList p).2.2]) ∧ Gr w w' := by
  have hsz : s.data.toList.length = s.size := by simp
  by_cases hp : 0 ≤ p ∧ p ≤ s.size
  · obtain ⟨hp0, hp1⟩ := hp
    obtain ⟨a, rfl⟩ := Int.eq_ofNat_of_zero_le hp0
    have HN := takeNum_in s.data.toList a (by omega)
    have HN' : Hid (∀ (r : Nat × Nat × Nat), Pk.take (List.drop a s.data.toList) = r → Pk.takeNum s.data.toList (a : Int) = (r.1, if r.2.2 = 0 then a + r.2.1 else 0, r.2.2)) := HN
    have HZ : Hid ((s.data.toList.drop a).length = s.size - a) := by show _ = _; rw [List.length_drop, hsz]
    clear HN hsz
    generalize Pk.takeNum s.data.toList (a : Int) = R at *
    have ht1 : decide ((a : Int) < 0) = false := by simp
    have ht2 : decide ((s.size : Int) < (a : Int)) = false := by simp; omega
    have ht3 : decide (s.size < a) = false := by simp; omega
    go_enter Tryd.func42, Tryd.ntmps42
    go_wp2
    go_loop [7] (fun t => ∃ k : Nat, k ≤ 9 ∧ t = .int .i64 ((a : Int) + k) ∧ a + k ≤ s.size ∧ ∀ i (h : a + i < s.size), i < k → 128 ≤ s[a + i].toNat) (fun t => s.size - (intOf t).toNat)
    case atStart => exact ⟨0, by omega, by simp, by omega, by intro i _ h; omega⟩
    case round =>
      obtain ⟨k, hk9, rfl, hks, hall⟩ := hrel
      have HA : Hid (∀ i (h : i < (s.data.toList.drop a).length), i < k → 128 ≤ (s.data.toList.drop a)[i].toNat) := by
        intro i h hi
        have := HZ.out
        rw [drop_get s a i h (by omega)]
        exact hall i (by omega) hi
      have HL : Hid (∀ i (h : a + i < s.size), i < k → 128 ≤ s[a + i].toNat) := hall
      clear hall
      by_cases hin : a + k < s.size
      · have hb := (s[a + k]'hin).toNat_lt
        by_cases hge : 128 ≤ (s[a + k]'hin).toNat
        · have HA1 : ∀ i (h : a + i < s.size), i < k + 1 → 128 ≤ s[a + i].toNat := by
            intro i h hi
            by_cases e : i = k
            · subst e; exact hge
            · exact HL.out i h (by omega)
          have HA2 : Hid (∀ i (h : a + i < s.size), i < k + 1 → 128 ≤ s[a + i].toNat) := HA1
          clear HA1
          by_cases h9 : k = 9
          · subst h9
            have ht := Pk.take_ten (s.data.toList.drop a) (by
              intro i h hi
              have := HZ.out
              rw [drop_get s a i h (by omega)]
              exact HA2.out i (by omega) hi) (by have := HZ.out; omega)
            have hR := HN'.out _ ht
            have HR : Hid (R = (0, 0, 11)) := by show R = _; simpa using hR
            clear ht hR HN'
            go_wp2
            go_ret3
            refine ⟨?_, Gr.refl _⟩
            rw [HR.out]; rfl
          · go_wp2
            go_round
            case rel => exact ⟨k + 1, by omega, by go_num, by omega, HA2.out⟩
            case measure => simp [intOf]; omega
        · have hkl : k < (s.data.toList.drop a).length := by have := HZ.out; omega
          have hg := drop_get s a k hkl hin
          have hlt : (s.data.toList.drop a)[k].toNat < 128 := by rw [hg]; omega
          have ht := Pk.take_end (s.data.toList.drop a) k hkl hk9 HA.out hlt
          have hvs := Pk.val_small (s.data.toList.drop a) k hkl hk9 hlt
          have hvf := Pk.val_form (s.data.toList.drop a) k hkl hk9 HA.out hlt
          rw [hg] at ht hvs hvf
          have hx : (s.extract a (a + k + 1)).data.toList = (s.data.toList.drop a).take (k + 1) := ext_data s a (k + 1)
          have hq : ((a : Int) + k == (s.size : Int)) = false := by simp; omega
          have hxs : (s.extract a (a + k + 1)).size ≤ 140737488355328 := by
            have : (s.extract a (a + k + 1)).data.toList.length ≤ k + 1 := by rw [hx]; exact List.length_take_le _ _
            have h2 : (s.extract a (a + k + 1)).data.toList.length = (s.extract a (a + k + 1)).size := by rw [Array.length_toList]; rfl
            omega
          have hval := fun w r q h => value_any (s.extract a (a + k + 1)) w hxs r q h
          rw [hx] at hval
          have htl : (s.extract a (a + k + 1)).toList = (s.data.toList.drop a).take (k + 1) := by rw [ByteArray.toList_eq, hx]
          have hE : IntKind.i64.wrap ((a : Int) + k + 1) = (a : Int) + k + 1 := by rw [IntKind.wrap_i64]; omega
          have hTN : ((a : Int) + k + 1).toNat = a + k + 1 := by omega
          have hE1 : (a : Int) ≤ (a : Int) + k + 1 := by omega
          have hE2 : (a : Int) + k + 1 ≤ (s.size : Int) := by omega
          clear hg hlt hkl hx hxs HA HL
          by_cases hA : k = 9 ∧ 1 < (s[a + k]'hin).toNat
          · rw [if_pos (Or.inl hA)] at ht
            have hR := HN'.out _ ht
            have HR : Hid (R = (0, 0, 11)) := by show R = _; simpa using hR
            have HV : Hid (∀ w : World, Calls Tryd.prog 49 #[.string (s.extract a (a + k + 1))] w fun e w' => e = .returned (.tuple #[.int .u64 0, .bool false]) ∧ w' = w) := fun w => hval w 0 false (Or.inr ⟨by omega, rfl, rfl⟩)
            clear ht hR HN' hval hvf hvs hA htl
            go_wp2_with fail
            refine (HV.out _).mono ?_
            rintro e w1 ⟨rfl, rfl⟩
            go_wp2_with fail
            go_quiet (fail)
            go_wp2
            go_ret3
            refine ⟨?_, ⟨below_drewN (Below.refl _ _) _⟩⟩
            rw [HR.out]; rfl
          · have hv64 := hvs.2 hA
            have hvf' := hvf hA
            have HV : Hid (∀ w : World, Calls Tryd.prog 49 #[.string (s.extract a (a + k + 1))] w fun e w' => e = .returned (.tuple #[.int .u64 (Pk.val ((s.data.toList.drop a).take (k + 1))), .bool true]) ∧ w' = w) := fun w => hval w _ true (Or.inl ⟨hv64, rfl, rfl⟩)
            have HM : Hid (∀ w : World, Calls Tryd.prog 37 #[.int .u64 (Pk.val ((s.data.toList.drop a).take (k + 1)))] w fun e w' => e = .returned (.string ⟨(Pk.num (Pk.val ((s.data.toList.drop a).take (k + 1)))).toArray⟩) ∧ Gr w w') := fun w => refNumber_any 9 _ w (by omega) (by omega) hv64
            by_cases hB : k ≠ 0 ∧ (s[a + k]'hin).toNat = 0
            · rw [if_pos (Or.inr hB)] at ht
              have hR := HN'.out _ ht
              have HR : Hid (R = (0, 0, 11)) := by show R = _; simpa using hR
              have hnn : ¬ Pk.num (Pk.val ((s.data.toList.drop a).take (k + 1))) = (s.data.toList.drop a).take (k + 1) := fun h => (hvf'.1 h) hB
              have hne : ((Pk.num (Pk.val ((s.data.toList.drop a).take (k + 1)))) == (s.extract a (a + k + 1)).toList) = false := by rw [htl]; simpa using hnn
              generalize Pk.num (Pk.val ((s.data.toList.drop a).take (k + 1))) = t at *
              generalize Pk.val ((s.data.toList.drop a).take (k + 1)) = v at *
              clear ht hR HN' hval hvf hvs hA hB htl hvf' hnn
              go_wp2_with fail
              refine (HV.out _).mono ?_
              rintro e w1 ⟨rfl, rfl⟩
              go_wp2_with fail
              go_region_held3 (fun _ => True) (trivial) ((go_at_call 37; refine (HM.out _).mono ?_; rintro e w2 ⟨rfl, hg2⟩))
              all_goals go_wp2
              all_goals go_ret3
              all_goals refine ⟨?_, (by repeat (first | exact Gr.refl _ | refine Gr.alloc ?_ | refine Gr.drew ?_ | refine Gr.trans ?_ (by assumption)))⟩
              all_goals rw [HR.out]; rfl
            · rw [if_neg (by omega)] at ht
              have hR := HN'.out _ ht
              have HR : Hid (R = (Pk.val ((s.data.toList.drop a).take (k + 1)), a + k + 1, 0)) := by show R = _; simpa [Nat.add_assoc] using hR
              have hne : ((Pk.num (Pk.val ((s.data.toList.drop a).take (k + 1)))) == (s.extract a (a + k + 1)).toList) = true := by rw [htl]; simpa using hvf'.2 hB
              generalize Pk.num (Pk.val ((s.data.toList.drop a).take (k + 1))) = t at *
              generalize Pk.val ((s.data.toList.drop a).take (k + 1)) = v at *
              clear ht hR HN' hval hvf hvs hA hB htl hvf'
              go_wp2_with fail
              refine (HV.out _).mono ?_
              rintro e w1 ⟨rfl, rfl⟩
              go_wp2_with fail
              go_region_held3 (fun _ => True) (trivial) ((go_at_call 37; refine (HM.out _).mono ?_; rintro e w2 ⟨rfl, hg2⟩))
              all_goals go_wp2
              all_goals go_ret3
              all_goals refine ⟨?_, (by repeat (first | exact Gr.refl _ | refine Gr.alloc ?_ | refine Gr.drew ?_ | refine Gr.trans ?_ (by assumption)))⟩
              all_goals rw [HR.out]; rfl
      · have ht := Pk.take_short (s.data.toList.drop a) (by
          intro i h
          have := HZ.out
          rw [drop_get s a i h (by omega)]
          exact HL.out i (by omega) (by omega)) (by have := HZ.out; omega)
        have hR := HN'.out _ ht
        have HR : Hid (R = (0, 0, 10)) := by show R = _; simpa using hR
        clear ht hR HN'
        have hq : ((a : Int) + k == (s.size : Int)) = true := by simp; omega
        go_wp2
        go_ret3
        refine ⟨?_, Gr.refl _⟩
        rw [HR.out]; rfl
  · rw [takeNum_out _ _ (by rw [hsz]; exact hp)]
    rcases (show p < 0 ∨ (0 ≤ p ∧ (s.size : Int) < p) from by omega) with h | ⟨h, h2⟩
    all_goals
      clear hp
      go_enter Tryd.func42, Tryd.ntmps42
      go_wp2
      go_ret3
      exact ⟨rfl, Gr.refl _⟩
end Go.Proofs.YtoeibjflaiiljaaDoor
