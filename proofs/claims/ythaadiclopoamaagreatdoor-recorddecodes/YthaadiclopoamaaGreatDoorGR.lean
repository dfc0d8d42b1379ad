/- Parts of these proofs, laid together. -/
import Derived.Test.YthaadiclopoamaaGreatDoorGQ
import Derived.Test.YthaadiclopoamaaGreatDoorGN
import Derived.Test.YthaadiclopoamaaGreatDoorGP
import Derived.Lib.Strings
import Derived.Deep.QuietTactic
import Derived.BigQuiet
import Derived.Deep.RegionHeld3
import Derived.Test.YthaadiclopoamaaGreatDoorShelf
/- The document's value and TakeNumber take what Pk.takeNum takes. -/
set_option maxRecDepth 100000
set_option maxHeartbeats 8000000
namespace Go.Proofs.YthaadiclopoamaaGreatDoor
open Go.RowKit
attribute [local go_sem ↓] Go.wp_at_zero Go.wp_at_succ

theorem value_any (s : ByteArray) (w : World) (hs : s.size <= 140737488355328) (r : Nat) (q : Bool) (hr : (Pk.val s.data.toList < 18446744073709551616 /\ r = Pk.val s.data.toList /\ q = true) ∨ (18446744073709551616 <= Pk.val s.data.toList /\ r = 0 /\ q = false)) :
  Calls Tryz.prog 117 #[.string s] w fun e w' => e = .returned (.tuple #[.int .u64 r, .bool q]) /\ w' = w := by
 have HR : Hid ((Pk.val s.data.toList < 18446744073709551616 /\ r = Pk.val s.data.toList /\ q = true) ∨ (18446744073709551616 <= Pk.val s.data.toList /\ r = 0 /\ q = false)) := hr
 clear hr
 go_enter Tryz.func117, Tryz.ntmps117
 go_wp2
 go_loop [4, 5] (fun n i => ∃ k x : Nat, k <= s.size /\ i = .int .i64 ((k : Int) - 1) /\ n = .int .u64 x /\ x = Pk.val (s.data.toList.drop k) /\ x < 18446744073709551616) (fun _ i => (intOf i + 1).toNat)
 case atStart =>
  refine ⟨s.size, 0, by omega, rfl, rfl, ?_, by omega⟩
  rw [List.drop_eq_nil_of_le (by simp)]; rfl
 case round =>
  obtain ⟨k, x, hk, rfl, rfl, hx, hx64⟩ := hrel
  have HX : Hid (x = Pk.val (s.data.toList.drop k)) := hx
  clear hx
  cases k with
  | zero =>
   have hR : r = x /\ q = true := by
    have h1 := HX.out
    rw [List.drop_zero] at h1
    rcases HR.out with ⟨_, h3, h4⟩ | ⟨h2, _⟩
    ·exact ⟨h3.trans h1.symm, h4⟩
    ·omega
   obtain ⟨rfl, rfl⟩ := hR
   go_wp2
   go_ret2
   exact ⟨rfl, rfl⟩
  | succ j =>
   have hj : ((j + 1 : Nat) : Int) - 1 = (j : Int) := by omega
   have hjs : j < s.size := by omega
   rw [hj]
   by_cases hbig : 144115188075855871 < x
   ·have hR : r = 0 /\ q = false := by
     have h1 := HX.out
     have h2 := Pk.val_drop s.data.toList (j + 1)
     rw [<- h1, Nat.pow_succ] at h2
     have h3 : 1 * (128 * x) <= 128 ^ j * (128 * x) := Nat.mul_le_mul_right _ (Nat.pow_pos (by omega))
     rw [Nat.mul_assoc] at h2
     rcases HR.out with ⟨h4, _⟩ | ⟨_, h4⟩
     ·omega
     ·exact h4
    obtain ⟨rfl, rfl⟩ := hR
    go_wp2
    go_ret2
    exact ⟨rfl, rfl⟩
   ·have hb : (s[j]'hjs).toNat < 256 := (s[j]'hjs).toNat_lt
    go_wp2
    go_round
    case rel =>
     refine ⟨j, 128 * x + (s[j]'hjs).toNat % 128, by omega, by go_num, by go_num, ?_, by omega⟩
     rw [drop_at s j hjs, Pk.val, <- HX.out]; omega
    case measure => simp [intOf]

theorem drop_get (s : ByteArray) (a i : Nat) (h : i < (s.data.toList.drop a).length) (h2 : a + i < s.size) : (s.data.toList.drop a)[i] = s[a + i] := by
 rw [List.getElem_drop]; rfl
theorem ext_data (s : ByteArray) (a n : Nat) : (s.extract a (a + n)).data.toList = (s.data.toList.drop a).take n := by
 rw [Lib.extract_data]; simp

theorem refTakeNumber_any (s : ByteArray) (p : Int) (w : World) (hs : s.size <= 140737488355328) :
  Calls Tryz.prog 97 #[.string s, .int .i64 p] w fun e w' => e = .returned (.tuple #[.int .u64 (Pk.takeNum s.data.toList p).1, .int .i64 (Pk.takeNum s.data.toList p).2.1, .int .i64 (Pk.takeNum s.data.toList p).2.2]) /\ Gr w w' := by
 have hsz : s.data.toList.length = s.size := by simp
 by_cases hp : 0 <= p /\ p <= s.size
 ·obtain ⟨hp0, hp1⟩ := hp
  obtain ⟨a, rfl⟩ := Int.eq_ofNat_of_zero_le hp0
  have HN := takeNum_in s.data.toList a (by omega)
  have HN' : Hid (∀ (r : Nat × Nat × Nat), Pk.take (List.drop a s.data.toList) = r -> Pk.takeNum s.data.toList (a : Int) = (r.1, if r.2.2 = 0 then a + r.2.1 else 0, r.2.2)) := HN
  have HZ : Hid ((s.data.toList.drop a).length = s.size - a) := by show _ = _; rw [List.length_drop, hsz]
  clear HN hsz
  generalize Pk.takeNum s.data.toList (a : Int) = R at *
  have ht1 : decide ((a : Int) < 0) = false := by simp
  have ht2 : decide ((s.size : Int) < (a : Int)) = false := by simp; omega
  have ht3 : decide (s.size < a) = false := by simp; omega
  go_enter Tryz.func97, Tryz.ntmps97
  go_wp2
  go_loop [7] (fun t => ∃ k : Nat, k <= 9 /\ t = .int .i64 ((a : Int) + k) /\ a + k <= s.size /\ ∀ i (h : a + i < s.size), i < k -> 128 <= s[a + i].toNat) (fun t => s.size - (intOf t).toNat)
  case atStart => exact ⟨0, by omega, by simp, by omega, by intro i _ h; omega⟩
  case round =>
   obtain ⟨k, hk9, rfl, hks, hall⟩ := hrel
   have HA : Hid (∀ i (h : i < (s.data.toList.drop a).length), i < k -> 128 <= (s.data.toList.drop a)[i].toNat) := by
    intro i h hi
    have := HZ.out
    rw [drop_get s a i h (by omega)]
    exact hall i (by omega) hi
   have HL : Hid (∀ i (h : a + i < s.size), i < k -> 128 <= s[a + i].toNat) := hall
   clear hall
   by_cases hin : a + k < s.size
   ·have hb := (s[a + k]'hin).toNat_lt
    by_cases hge : 128 <= (s[a + k]'hin).toNat
    ·have HA1 : ∀ i (h : a + i < s.size), i < k + 1 -> 128 <= s[a + i].toNat := by
      intro i h hi
      by_cases e : i = k
      ·subst e; exact hge
      ·exact HL.out i h (by omega)
     have HA2 : Hid (∀ i (h : a + i < s.size), i < k + 1 -> 128 <= s[a + i].toNat) := HA1
     clear HA1
     by_cases h9 : k = 9
     ·subst h9
      have ht := Pk.take_ten (s.data.toList.drop a) (by
       intro i h hi
       have := HZ.out
       rw [drop_get s a i h (by omega)]
       exact HA2.out i (by omega) hi) (by have := HZ.out; omega)
      have hR := HN'.out _ ht
      have HR : Hid (R = (0, 0, 11)) := by show R = _; simpa using hR
      clear ht hR HN'
      go_wp2
      go_ret3
      refine ⟨?_, Gr.refl _⟩
      rw [HR.out]; rfl
     ·go_wp2
      go_round
      case rel => exact ⟨k + 1, by omega, by go_num, by omega, HA2.out⟩
      case measure => simp [intOf]; omega
    ·have hkl : k < (s.data.toList.drop a).length := by have := HZ.out; omega
     have hg := drop_get s a k hkl hin
     have hlt : (s.data.toList.drop a)[k].toNat < 128 := by rw [hg]; omega
     have ht := Pk.take_end (s.data.toList.drop a) k hkl hk9 HA.out hlt
     have hvs := Pk.val_small (s.data.toList.drop a) k hkl hk9 hlt
     have hvf := Pk.val_form (s.data.toList.drop a) k hkl hk9 HA.out hlt
     rw [hg] at ht hvs hvf
     have hx : (s.extract a (a + k + 1)).data.toList = (s.data.toList.drop a).take (k + 1) := ext_data s a (k + 1)
     have hq : ((a : Int) + k == (s.size : Int)) = false := by simp; omega
     have hxs : (s.extract a (a + k + 1)).size <= 140737488355328 := by
      have : (s.extract a (a + k + 1)).data.toList.length <= k + 1 := by rw [hx]; exact List.length_take_le _ _
      have h2 : (s.extract a (a + k + 1)).data.toList.length = (s.extract a (a + k + 1)).size := by rw [Array.length_toList]; rfl
      omega
     have hval := fun w r q h => value_any (s.extract a (a + k + 1)) w hxs r q h
     rw [hx] at hval
     have htl : (s.extract a (a + k + 1)).toList = (s.data.toList.drop a).take (k + 1) := by rw [ByteArray.toList_eq, hx]
     have hE : IntKind.i64.wrap ((a : Int) + k + 1) = (a : Int) + k + 1 := by rw [IntKind.wrap_i64]; omega
     have hTN : ((a : Int) + k + 1).toNat = a + k + 1 := by omega
     have hE1 : (a : Int) <= (a : Int) + k + 1 := by omega
     have hE2 : (a : Int) + k + 1 <= (s.size : Int) := by omega
     clear hg hlt hkl hx hxs HA HL
     by_cases hA : k = 9 /\ 1 < (s[a + k]'hin).toNat
     ·rw [if_pos (Or.inl hA)] at ht
      have hR := HN'.out _ ht
      have HR : Hid (R = (0, 0, 11)) := by show R = _; simpa using hR
      have HV : Hid (∀ w : World, Calls Tryz.prog 117 #[.string (s.extract a (a + k + 1))] w fun e w' => e = .returned (.tuple #[.int .u64 0, .bool false]) /\ w' = w) := fun w => hval w 0 false (Or.inr ⟨by omega, rfl, rfl⟩)
      clear ht hR HN' hval hvf hvs hA htl
      go_wp2_with fail
      refine (HV.out _).mono ?_
      rintro e w1 ⟨rfl, rfl⟩
      go_wp2_with fail
      go_quiet (fail)
      go_wp2
      go_ret3
      refine ⟨?_, ⟨below_drewN (Below.refl _ _) _⟩⟩
      rw [HR.out]; rfl
     ·have hv64 := hvs.2 hA
      have hvf' := hvf hA
      have HV : Hid (∀ w : World, Calls Tryz.prog 117 #[.string (s.extract a (a + k + 1))] w fun e w' => e = .returned (.tuple #[.int .u64 (Pk.val ((s.data.toList.drop a).take (k + 1))), .bool true]) /\ w' = w) := fun w => hval w _ true (Or.inl ⟨hv64, rfl, rfl⟩)
      have HM : Hid (∀ w : World, Calls Tryz.prog 66 #[.int .u64 (Pk.val ((s.data.toList.drop a).take (k + 1)))] w fun e w' => e = .returned (.string ⟨(Pk.num (Pk.val ((s.data.toList.drop a).take (k + 1)))).toArray⟩) /\ Gr w w') := fun w => refNumber_any 9 _ w (by omega) (by omega) hv64
      by_cases hB : k ≠ 0 /\ (s[a + k]'hin).toNat = 0
      ·rw [if_pos (Or.inr hB)] at ht
       have hR := HN'.out _ ht
       have HR : Hid (R = (0, 0, 11)) := by show R = _; simpa using hR
       have hnn : ¬ Pk.num (Pk.val ((s.data.toList.drop a).take (k + 1))) = (s.data.toList.drop a).take (k + 1) := fun h => (hvf'.1 h) hB
       have hne : ((Pk.num (Pk.val ((s.data.toList.drop a).take (k + 1)))) == (s.extract a (a + k + 1)).toList) = false := by rw [htl]; simpa using hnn
       generalize Pk.num (Pk.val ((s.data.toList.drop a).take (k + 1))) = t at *
       generalize Pk.val ((s.data.toList.drop a).take (k + 1)) = v at *
       clear ht hR HN' hval hvf hvs hA hB htl hvf' hnn
       go_wp2_with fail
       refine (HV.out _).mono ?_
       rintro e w1 ⟨rfl, rfl⟩
       go_wp2_with fail
       go_region_held3 (fun _ => True) (trivial) ((go_at_call 66; refine (HM.out _).mono ?_; rintro e w2 ⟨rfl, hg2⟩))
       all_goals go_wp2
       all_goals go_ret3
       all_goals refine ⟨?_, (by repeat(first|exact Gr.r _|refine Gr.a ?_|refine Gr.d ?_|refine Gr.t ?_ (by assumption)))⟩
       all_goals rw [HR.out]; rfl
      ·rw [if_neg (by omega)] at ht
       have hR := HN'.out _ ht
       have HR : Hid (R = (Pk.val ((s.data.toList.drop a).take (k + 1)), a + k + 1, 0)) := by show R = _; simpa [Nat.add_assoc] using hR
       have hne : ((Pk.num (Pk.val ((s.data.toList.drop a).take (k + 1)))) == (s.extract a (a + k + 1)).toList) = true := by rw [htl]; simpa using hvf'.2 hB
       generalize Pk.num (Pk.val ((s.data.toList.drop a).take (k + 1))) = t at *
       generalize Pk.val ((s.data.toList.drop a).take (k + 1)) = v at *
       clear ht hR HN' hval hvf hvs hA hB htl hvf'
       go_wp2_with fail
       refine (HV.out _).mono ?_
       rintro e w1 ⟨rfl, rfl⟩
       go_wp2_with fail
       go_region_held3 (fun _ => True) (trivial) ((go_at_call 66; refine (HM.out _).mono ?_; rintro e w2 ⟨rfl, hg2⟩))
       all_goals go_wp2
       all_goals go_ret3
       all_goals refine ⟨?_, (by repeat(first|exact Gr.r _|refine Gr.a ?_|refine Gr.d ?_|refine Gr.t ?_ (by assumption)))⟩
       all_goals rw [HR.out]; rfl
   ·have ht := Pk.take_short (s.data.toList.drop a) (by
     intro i h
     have := HZ.out
     rw [drop_get s a i h (by omega)]
     exact HL.out i (by omega) (by omega)) (by have := HZ.out; omega)
    have hR := HN'.out _ ht
    have HR : Hid (R = (0, 0, 10)) := by show R = _; simpa using hR
    clear ht hR HN'
    have hq : ((a : Int) + k == (s.size : Int)) = true := by simp; omega
    go_wp2
    go_ret3
    refine ⟨?_, Gr.refl _⟩
    rw [HR.out]; rfl
 ·rw [takeNum_out _ _ (by rw [hsz]; exact hp)]
  rcases (show p < 0 ∨ (0 <= p /\ (s.size : Int) < p) from by omega) with h | ⟨h, h2⟩
  all_goals
   clear hp
   go_enter Tryz.func97, Tryz.ntmps97
   go_wp2
   go_ret3
   exact ⟨rfl, Gr.refl _⟩
end Go.Proofs.YthaadiclopoamaaGreatDoor
/- pack.TakeText, the document's TakeSigned and TakeText: what is taken. -/
set_option maxRecDepth 100000
set_option maxHeartbeats 8000000
namespace Go.Proofs.YthaadiclopoamaaGreatDoor
open Go.RowKit

theorem ext_mk (s : ByteArray) (a n : Nat) : s.extract a (a + n) = ⟨((s.data.toList.drop a).take n).toArray⟩ := by
 have h := ext_data s a n
 rw [<- h]

theorem tclone_any (s : ByteArray) (w : World) (hs : s.size <= 140737488355328) : Calls Tryz.prog 114 #[.string s] w fun e w' => e = .returned (.string s) /\ Gr w w' := by
 have HC : Hid (∀ w : World, Calls Tryz.prog 131 #[.string s] w fun e w' => e = .returned (.string s) /\ Below w.heap.size w w') := fun w => Tryz.stringslite_Clone s w (by omega)
 go_enter Tryz.func114, Tryz.ntmps114
 go_wp2_with fail
 refine (HC.out _).mono ?_
 rintro e w1 ⟨rfl, hb⟩
 go_wp2
 go_ret
 exact ⟨rfl, ⟨hb⟩⟩

theorem refTakeSigned_any (s : ByteArray) (p : Int) (w : World) (hs : s.size <= 140737488355328) :
  Calls Tryz.prog 78 #[.string s, .int .i64 p] w fun e w' => e = .returned (.tuple #[.int .i64 (Pk.unsg (Pk.takeNum s.data.toList p).1), .int .i64 (Pk.takeNum s.data.toList p).2.1, .int .i64 (Pk.takeNum s.data.toList p).2.2]) /\ Gr w w' := by
 have hsp := Pk.takeNum_spec s.data.toList p
 have HC : Hid (∀ w : World, Calls Tryz.prog 97 #[.string s, .int .i64 p] w fun e w' => e = .returned (.tuple #[.int .u64 (Pk.takeNum s.data.toList p).1, .int .i64 (Pk.takeNum s.data.toList p).2.1, .int .i64 (Pk.takeNum s.data.toList p).2.2]) /\ Gr w w') := fun w => refTakeNumber_any s p w hs
 generalize Pk.takeNum s.data.toList p = R at *
 obtain ⟨n, q, e⟩ := R
 simp only at *
 rcases hsp with ⟨rfl, h1, h2, h3, h4⟩ | h | h | h
 ·by_cases he : n % 2 = 0
  ·have hu : Pk.unsg n = ((n / 2 : Nat) : Int) := by simp [Pk.unsg, he]
   have hz : ((n : Int) % 2 == 0) = true := by simp; omega
   rw [hu]
   clear hu h2 h3 h4
   go_enter Tryz.func78, Tryz.ntmps78
   go_wp2_with fail
   refine (HC.out _).mono ?_
   rintro e w1 ⟨rfl, hg1⟩
   go_wp2
   go_ret3
   exact ⟨by simp, (by repeat(first|exact Gr.r _|refine Gr.a ?_|refine Gr.d ?_|refine Gr.t ?_ (by assumption)))⟩
  ·have hu : Pk.unsg n = -((n / 2 : Nat) : Int) - 1 := by simp [Pk.unsg, he]
   have hz : ((n : Int) % 2 == 0) = false := by simp; omega
   rw [hu]
   clear hu h2 h3 h4
   go_enter Tryz.func78, Tryz.ntmps78
   go_wp2_with fail
   refine (HC.out _).mono ?_
   rintro e w1 ⟨rfl, hg1⟩
   go_wp2
   go_ret3
   exact ⟨by simp, (by repeat(first|exact Gr.r _|refine Gr.a ?_|refine Gr.d ?_|refine Gr.t ?_ (by assumption)))⟩
 all_goals
  simp only [Prod.mk.injEq] at h
  obtain ⟨rfl, rfl, rfl⟩ := h
  have hu : Pk.unsg 0 = 0 := rfl
  rw [hu]
  clear hu
  go_enter Tryz.func78, Tryz.ntmps78
  go_wp2_with fail
  refine (HC.out _).mono ?_
  rintro e w1 ⟨rfl, hg1⟩
  go_wp2
  go_ret3
  exact ⟨by simp, (by repeat(first|exact Gr.r _|refine Gr.a ?_|refine Gr.d ?_|refine Gr.t ?_ (by assumption)))⟩

theorem takeText_any (s : ByteArray) (p : Int) (w : World) (hs : s.size <= 140737488355328) :
  Calls Tryz.prog 94 #[.string s, .int .i64 p] w fun e w' => e = .returned (.tuple #[.string ⟨(Pk.takeText s.data.toList p).1.toArray⟩, .int .i64 (Pk.takeText s.data.toList p).2.1, .int .i64 (Pk.takeText s.data.toList p).2.2]) /\ Gr w w' := by
 have hsp := Pk.takeNum_spec s.data.toList p
 have hsz : s.data.toList.length = s.size := by simp
 have hdef : Pk.takeText s.data.toList p = _ := rfl
 conv at hdef => rhs; unfold Pk.takeText
 have HC : Hid (∀ w : World, Calls Tryz.prog 91 #[.string s, .int .i64 p] w fun e w' => e = .returned (.tuple #[.int .u64 (Pk.takeNum s.data.toList p).1, .int .i64 (Pk.takeNum s.data.toList p).2.1, .int .i64 (Pk.takeNum s.data.toList p).2.2]) /\ w' = w) := fun w => takeNumber_any s p w hs
 generalize Pk.takeNum s.data.toList p = R at *
 generalize Pk.takeText s.data.toList p = T at *
 obtain ⟨n, q, e⟩ := R
 simp only at *
 rw [hsz] at hsp hdef
 rcases hsp with ⟨rfl, h1, h2, h3, h4⟩ | h | h | h
 ·rw [if_neg (by simp)] at hdef
  by_cases hbig : s.size - q < n
  ·rw [if_pos hbig] at hdef
   subst hdef
   have hbi : (s.size : Int) - q < n := by omega
   clear hsz hbig
   go_enter Tryz.func94, Tryz.ntmps94
   go_wp2_with fail
   refine (HC.out _).mono ?_
   rintro e w1 ⟨rfl, rfl⟩
   go_wp2
   go_ret3
   exact ⟨by simp, (by repeat(first|exact Gr.r _|refine Gr.a ?_|refine Gr.d ?_|refine Gr.t ?_ (by assumption)))⟩
  ·rw [if_neg hbig] at hdef
   subst hdef
   have hbi : ¬ (s.size : Int) - q < n := by omega
   have HX : Hid (s.extract q (q + n) = ⟨((s.data.toList.drop q).take n).toArray⟩) := ext_mk s q n
   have HK : Hid (∀ w : World, Calls Tryz.prog 114 #[.string (s.extract q (q + n))] w fun e w' => e = .returned (.string (s.extract q (q + n))) /\ Gr w w') := fun w => tclone_any _ w (by
    have : (s.extract q (q + n)).size <= s.size := by simp; omega
    omega)
   clear hsz hbig
   go_enter Tryz.func94, Tryz.ntmps94
   go_wp2_with fail
   refine (HC.out _).mono ?_
   rintro e w1 ⟨rfl, rfl⟩
   go_wp2_with fail
   refine (HK.out _).mono ?_
   rintro e w2 ⟨rfl, hg2⟩
   go_wp2
   go_ret3
   refine ⟨?_, (by repeat(first|exact Gr.r _|refine Gr.a ?_|refine Gr.d ?_|refine Gr.t ?_ (by assumption)))⟩
   rw [<- HX.out]
   simp
 all_goals
  simp only [Prod.mk.injEq] at h
  obtain ⟨rfl, rfl, rfl⟩ := h
  rw [if_pos (by simp)] at hdef
  subst hdef
  go_enter Tryz.func94, Tryz.ntmps94
  go_wp2_with fail
  refine (HC.out _).mono ?_
  rintro e w1 ⟨rfl, rfl⟩
  go_wp2
  go_ret3
  exact ⟨by simp, (by repeat(first|exact Gr.r _|refine Gr.a ?_|refine Gr.d ?_|refine Gr.t ?_ (by assumption)))⟩
theorem refTakeText_any (s : ByteArray) (p : Int) (w : World) (hs : s.size <= 140737488355328) :
  Calls Tryz.prog 75 #[.string s, .int .i64 p] w fun e w' => e = .returned (.tuple #[.string ⟨(Pk.takeText s.data.toList p).1.toArray⟩, .int .i64 (Pk.takeText s.data.toList p).2.1, .int .i64 (Pk.takeText s.data.toList p).2.2]) /\ Gr w w' := by
 have hsp := Pk.takeNum_spec s.data.toList p
 have hsz : s.data.toList.length = s.size := by simp
 have hdef : Pk.takeText s.data.toList p = _ := rfl
 conv at hdef => rhs; unfold Pk.takeText
 have HC : Hid (∀ w : World, Calls Tryz.prog 97 #[.string s, .int .i64 p] w fun e w' => e = .returned (.tuple #[.int .u64 (Pk.takeNum s.data.toList p).1, .int .i64 (Pk.takeNum s.data.toList p).2.1, .int .i64 (Pk.takeNum s.data.toList p).2.2]) /\ Gr w w') := fun w => refTakeNumber_any s p w hs
 generalize Pk.takeNum s.data.toList p = R at *
 generalize Pk.takeText s.data.toList p = T at *
 obtain ⟨n, q, e⟩ := R
 simp only at *
 rw [hsz] at hsp hdef
 rcases hsp with ⟨rfl, h1, h2, h3, h4⟩ | h | h | h
 ·rw [if_neg (by simp)] at hdef
  by_cases hbig : s.size - q < n
  ·rw [if_pos hbig] at hdef
   subst hdef
   have hbi : (s.size : Int) - q < n := by omega
   clear hsz hbig
   go_enter Tryz.func75, Tryz.ntmps75
   go_wp2_with fail
   refine (HC.out _).mono ?_
   rintro e w1 ⟨rfl, hg1⟩
   go_wp2
   go_ret3
   exact ⟨by simp, (by repeat(first|exact Gr.r _|refine Gr.a ?_|refine Gr.d ?_|refine Gr.t ?_ (by assumption)))⟩
  ·rw [if_neg hbig] at hdef
   subst hdef
   have hbi : ¬ (s.size : Int) - q < n := by omega
   have HX : Hid (s.extract q (q + n) = ⟨((s.data.toList.drop q).take n).toArray⟩) := ext_mk s q n
   clear hsz hbig
   go_enter Tryz.func75, Tryz.ntmps75
   go_wp2_with fail
   refine (HC.out _).mono ?_
   rintro e w1 ⟨rfl, hg1⟩
   go_wp2
   go_ret3
   refine ⟨?_, (by repeat(first|exact Gr.r _|refine Gr.a ?_|refine Gr.d ?_|refine Gr.t ?_ (by assumption)))⟩
   rw [<- HX.out]
   simp
 all_goals
  simp only [Prod.mk.injEq] at h
  obtain ⟨rfl, rfl, rfl⟩ := h
  rw [if_pos (by simp)] at hdef
  subst hdef
  go_enter Tryz.func75, Tryz.ntmps75
  go_wp2_with fail
  refine (HC.out _).mono ?_
  rintro e w1 ⟨rfl, hg1⟩
  go_wp2
  go_ret3
  exact ⟨by simp, (by repeat(first|exact Gr.r _|refine Gr.a ?_|refine Gr.d ?_|refine Gr.t ?_ (by assumption)))⟩
end Go.Proofs.YthaadiclopoamaaGreatDoor
/- record: what is empty. -/
set_option maxRecDepth 100000
set_option maxHeartbeats 8000000
namespace Go.Proofs.YthaadiclopoamaaGreatDoor
open Go.RowKit
open Df (Stp)

theorem within_rc (n l h : Int) (w : World) : Calls Tryz.prog 27 #[.int .i64 n, .int .i64 l, .int .i64 h] w fun e w' => e = .returned (.bool (Rc.inB n l h)) /\ w' = w := by
 unfold Rc.inB
 by_cases h1 : l <= n
 ·by_cases h2 : n <= h
  ·rw [decide_eq_true h1, decide_eq_true h2]
   go_enter Tryz.func27, Tryz.ntmps27
   go_wp2
   go_ret
   exact ⟨rfl, rfl⟩
  ·rw [decide_eq_true h1, decide_eq_false h2]
   go_enter Tryz.func27, Tryz.ntmps27
   go_wp2
   go_ret
   exact ⟨rfl, rfl⟩
 ·rw [decide_eq_false h1]
  go_enter Tryz.func27, Tryz.ntmps27
  go_wp2
  go_ret
  exact ⟨rfl, rfl⟩

def allZ (zs : List Int) : Bool := zs.all fun z => decide (z = 0)
theorem allZ_yes {zs : List Int} (h : ∀ j (hj : j < zs.length), zs[j] = 0) : allZ zs = true := by
 unfold allZ
 rw [List.all_eq_true]
 intro z hz
 obtain ⟨j, hj, rfl⟩ := List.getElem_of_mem hz
 exact decide_eq_true (h j hj)
theorem allZ_no {zs : List Int} {j : Nat} (hj : j < zs.length) (h : zs[j] ≠ 0) : allZ zs = false := by
 unfold allZ
 rw [List.all_eq_false]
 exact ⟨zs[j], List.getElem_mem hj, by simp [h]⟩
def allT (zs : List ByteArray) : Bool := zs.all fun z => decide (z = ⟨#[]⟩)
theorem allT_yes {zs : List ByteArray} (h : ∀ j (hj : j < zs.length), zs[j] = ⟨#[]⟩) : allT zs = true := by
 unfold allT
 rw [List.all_eq_true]
 intro z hz
 obtain ⟨j, hj, rfl⟩ := List.getElem_of_mem hz
 exact decide_eq_true (h j hj)
theorem allT_no {zs : List ByteArray} {j : Nat} (hj : j < zs.length) (h : zs[j] ≠ ⟨#[]⟩) : allT zs = false := by
 unfold allT
 rw [List.all_eq_false]
 exact ⟨zs[j], List.getElem_mem hj, by simp [h]⟩

theorem emptyI_any (zs : List Int) (g cap : Nat) (w : World) (hc : ∀ j (hj : j < zs.length), w.cell? ⟨g, j, none⟩ = some (.int .i64 zs[j])) (hn : zs.length <= 100) :
  Calls Tryz.prog 63 #[.slice (some ⟨g, 0, none⟩) zs.length cap] w fun e w' => e = .returned (.bool (allZ zs)) /\ w' = w := by
 have HC : Hid (∀ j (hj : j < zs.length), w.cell? ⟨g, j, none⟩ = some (.int .i64 zs[j])) := hc
 have HY : Hid ((∀ j (hj : j < zs.length), zs[j] = 0) -> allZ zs = true) := allZ_yes
 have HN : Hid (∀ j (hj : j < zs.length), zs[j] ≠ 0 -> allZ zs = false) := fun j hj h => allZ_no hj h
 clear hc
 generalize allZ zs = R at *
 go_enter Tryz.func63, Tryz.ntmps63
 go_wp2
 go_loop [8] (fun i => ∃ k : Nat, k <= zs.length /\ i = .int .i64 k /\ ∀ j (hj : j < zs.length), j < k -> zs[j] = 0) (fun i => zs.length - (intOf i).toNat)
 case atStart => exact ⟨0, by omega, rfl, fun j hj h => absurd h (by omega)⟩
 case round =>
  obtain ⟨k, hk, rfl, hall⟩ := hrel
  have HA : Hid (∀ j (hj : j < zs.length), j < k -> zs[j] = 0) := hall
  clear hall
  by_cases hlt : k < zs.length
  ·have hck := HC.out k hlt
   by_cases hz : zs[k] = 0
   ·have HZ : Hid (zs[k] = 0) := hz
    rw [hz] at hck
    go_wp2
    go_round
    case rel => exact ⟨k + 1, by omega, by go_num, fun j hj h => if e : j = k then by subst e; exact HZ.out else HA.out j hj (by omega)⟩
    case measure => simp [intOf]; omega
   ·have HR := Lib.hid (HN.out k hlt hz)
    have hz' : (zs[k] != 0) = true := by simpa using hz
    generalize zs[k] = z at *
    go_wp2
    go_ret
    exact ⟨by rw [HR.out]; rfl, rfl⟩
  ·have HR := Lib.hid (HY.out fun j hj => HA.out j hj (by omega))
   go_wp2
   go_ret
   exact ⟨by rw [HR.out]; rfl, rfl⟩

theorem emptyL_any (zs : List Int) (g cap : Nat) (w : World) (hc : ∀ j (hj : j < zs.length), w.cell? ⟨g, j, none⟩ = some (.int .i64 zs[j])) (hn : zs.length <= 100) :
  Calls Tryz.prog 36 #[.slice (some ⟨g, 0, none⟩) zs.length cap] w fun e w' => e = .returned (.bool (allZ zs)) /\ w' = w := by
 have HC : Hid (∀ j (hj : j < zs.length), w.cell? ⟨g, j, none⟩ = some (.int .i64 zs[j])) := hc
 have HY : Hid ((∀ j (hj : j < zs.length), zs[j] = 0) -> allZ zs = true) := allZ_yes
 have HN : Hid (∀ j (hj : j < zs.length), zs[j] ≠ 0 -> allZ zs = false) := fun j hj h => allZ_no hj h
 clear hc
 generalize allZ zs = R at *
 go_enter Tryz.func36, Tryz.ntmps36
 go_wp2
 go_loop [8] (fun i => ∃ k : Nat, k <= zs.length /\ i = .int .i64 k /\ ∀ j (hj : j < zs.length), j < k -> zs[j] = 0) (fun i => zs.length - (intOf i).toNat)
 case atStart => exact ⟨0, by omega, rfl, fun j hj h => absurd h (by omega)⟩
 case round =>
  obtain ⟨k, hk, rfl, hall⟩ := hrel
  have HA : Hid (∀ j (hj : j < zs.length), j < k -> zs[j] = 0) := hall
  clear hall
  by_cases hlt : k < zs.length
  ·have hck := HC.out k hlt
   by_cases hz : zs[k] = 0
   ·have HZ : Hid (zs[k] = 0) := hz
    rw [hz] at hck
    go_wp2
    go_round
    case rel => exact ⟨k + 1, by omega, by go_num, fun j hj h => if e : j = k then by subst e; exact HZ.out else HA.out j hj (by omega)⟩
    case measure => simp [intOf]; omega
   ·have HR := Lib.hid (HN.out k hlt hz)
    have hz' : (zs[k] != 0) = true := by simpa using hz
    generalize zs[k] = z at *
    go_wp2
    go_ret
    exact ⟨by rw [HR.out]; rfl, rfl⟩
  ·have HR := Lib.hid (HY.out fun j hj => HA.out j hj (by omega))
   go_wp2
   go_ret
   exact ⟨by rw [HR.out]; rfl, rfl⟩

theorem emptyS_any (zs : List ByteArray) (g cap : Nat) (w : World) (hc : ∀ j (hj : j < zs.length), w.cell? ⟨g, j, none⟩ = some (.string zs[j])) (hn : zs.length <= 100) :
  Calls Tryz.prog 35 #[.slice (some ⟨g, 0, none⟩) zs.length cap] w fun e w' => e = .returned (.bool (allT zs)) /\ w' = w := by
 have HC : Hid (∀ j (hj : j < zs.length), w.cell? ⟨g, j, none⟩ = some (.string zs[j])) := hc
 have HY : Hid ((∀ j (hj : j < zs.length), zs[j] = ⟨#[]⟩) -> allT zs = true) := allT_yes
 have HN : Hid (∀ j (hj : j < zs.length), zs[j] ≠ ⟨#[]⟩ -> allT zs = false) := fun j hj h => allT_no hj h
 clear hc
 generalize allT zs = R at *
 go_enter Tryz.func35, Tryz.ntmps35
 go_wp2
 go_loop [8] (fun i => ∃ k : Nat, k <= zs.length /\ i = .int .i64 k /\ ∀ j (hj : j < zs.length), j < k -> zs[j] = ⟨#[]⟩) (fun i => zs.length - (intOf i).toNat)
 case atStart => exact ⟨0, by omega, rfl, fun j hj h => absurd h (by omega)⟩
 case round =>
  obtain ⟨k, hk, rfl, hall⟩ := hrel
  have HA : Hid (∀ j (hj : j < zs.length), j < k -> zs[j] = ⟨#[]⟩) := hall
  clear hall
  by_cases hlt : k < zs.length
  ·have hck := HC.out k hlt
   by_cases hz : zs[k] = ⟨#[]⟩
   ·have HZ : Hid (zs[k] = ⟨#[]⟩) := hz
    rw [hz] at hck
    go_wp2
    go_round
    case rel => exact ⟨k + 1, by omega, by go_num, fun j hj h => if e : j = k then by subst e; exact HZ.out else HA.out j hj (by omega)⟩
    case measure => simp [intOf]; omega
   ·have HR := Lib.hid (HN.out k hlt hz)
    have hz' : (zs[k].toList == []) = false := by
     rw [beq_eq_false_iff_ne]
     intro e
     exact hz ((toL_eq _ ⟨#[]⟩).1 (e.trans (by rw [ByteArray.toList_eq])))
    generalize zs[k] = z at *
    go_wp2
    go_ret
    exact ⟨by rw [HR.out]; rfl, rfl⟩
  ·have HR := Lib.hid (HY.out fun j hj => HA.out j hj (by omega))
   go_wp2
   go_ret
   exact ⟨by rw [HR.out]; rfl, rfl⟩

theorem newC (w : World) (a : Obj) (x : Value) (t : TypeId) : ((w.alloc a).alloc (.cells #[x] t)).cell? ⟨w.heap.size + 1, 0, none⟩ = some x := by simp
theorem oneT {w : World} {g : Nat} {z : ByteArray} (h : w.cell? ⟨g, 0, none⟩ = some (.string z)) : ∀ j (hj : j < [z].length), w.cell? ⟨g, j, none⟩ = some (.string [z][j]) := by
 intro j hj
 match j, hj with
 | 0, _ => exact h
theorem oneZ {w : World} {g : Nat} {z : Int} (h : w.cell? ⟨g, 0, none⟩ = some (.int .i64 z)) : ∀ j (hj : j < [z].length), w.cell? ⟨g, j, none⟩ = some (.int .i64 [z][j]) := by
 intro j hj
 match j, hj with
 | 0, _ => exact h
theorem emptyS1 (d : ByteArray) (g : Nat) (w : World) (h : w.cell? ⟨g, 0, none⟩ = some (.string d)) : Calls Tryz.prog 35 #[.slice (some ⟨g, 0, none⟩) 1 1] w fun e w' => e = .returned (.bool (decide (d = ⟨#[]⟩))) /\ w' = w := by
 have := emptyS_any [d] g 1 w (oneT h) (by simp)
 simpa [allT] using this
theorem emptyI1 (z : Int) (g : Nat) (w : World) (h : w.cell? ⟨g, 0, none⟩ = some (.int .i64 z)) : Calls Tryz.prog 63 #[.slice (some ⟨g, 0, none⟩) 1 1] w fun e w' => e = .returned (.bool (decide (z = 0))) /\ w' = w := by
 have := emptyI_any [z] g 1 w (oneZ h) (by simp)
 simpa [allZ] using this
theorem emptyL1 (z : Int) (g : Nat) (w : World) (h : w.cell? ⟨g, 0, none⟩ = some (.int .i64 z)) : Calls Tryz.prog 36 #[.slice (some ⟨g, 0, none⟩) 1 1] w fun e w' => e = .returned (.bool (decide (z = 0))) /\ w' = w := by
 have := emptyL_any [z] g 1 w (oneZ h) (by simp)
 simpa [allZ] using this
theorem emptyS2 (d t : ByteArray) (g : Nat) (w : World) (h : Cs w g [.string d, .string t]) : Calls Tryz.prog 35 #[.slice (some ⟨g, 0, none⟩) 2 2] w fun e w' => e = .returned (.bool (decide (d = ⟨#[]⟩) && decide (t = ⟨#[]⟩))) /\ w' = w := by
 have := emptyS_any [d, t] g 2 w (by
  intro j hj
  match j, hj with
  | 0, _ => exact h.at_ 0 _ rfl
  | 1, _ => exact h.at_ 1 _ rfl) (by simp)
 simpa [allT] using this
theorem emptyI6 (z0 z1 z2 z3 z4 z5 : Int) (g : Nat) (w : World) (h : Cs w g [.int .i64 z0, .int .i64 z1, .int .i64 z2, .int .i64 z3, .int .i64 z4, .int .i64 z5]) : Calls Tryz.prog 63 #[.slice (some ⟨g, 0, none⟩) 6 6] w fun e w' => e = .returned (.bool (decide (z0 = 0) && decide (z1 = 0) && decide (z2 = 0) && decide (z3 = 0) && decide (z4 = 0) && decide (z5 = 0))) /\ w' = w := by
 have := emptyI_any [z0, z1, z2, z3, z4, z5] g 6 w (by
  intro j hj
  match j, hj with
  | 0, _ => exact h.at_ 0 _ rfl
  | 1, _ => exact h.at_ 1 _ rfl
  | 2, _ => exact h.at_ 2 _ rfl
  | 3, _ => exact h.at_ 3 _ rfl
  | 4, _ => exact h.at_ 4 _ rfl
  | 5, _ => exact h.at_ 5 _ rfl) (by simp)
 simpa [allZ, Bool.and_assoc] using this

theorem emptyDef_any (d : ByteArray) (S : List Stp) (a2 : Option Addr) (c2 : Nat) (w : World) :
  Calls Tryz.prog 34 #[.agg #[.string d, .slice a2 S.length c2]] w fun e w' => e = .returned (.bool (Rc.baB d S)) /\ Gr w w' := by
 have HS : Hid (∀ (w' : World) (g : Nat), w'.cell? ⟨g, 0, none⟩ = some (.string d) -> Calls Tryz.prog 35 #[.slice (some ⟨g, 0, none⟩) 1 1] w' fun e w2 => e = .returned (.bool (decide (d = ⟨#[]⟩))) /\ w2 = w') := fun w' g h => emptyS1 d g w' h
 have HI : Hid (∀ (w' : World) (g : Nat), w'.cell? ⟨g, 0, none⟩ = some (.int .i64 (S.length : Int)) -> Calls Tryz.prog 63 #[.slice (some ⟨g, 0, none⟩) 1 1] w' fun e w2 => e = .returned (.bool (decide (S.length = 0))) /\ w2 = w') := by
  intro w' g h
  have := emptyI1 (S.length : Int) g w' h
  rw [show decide ((S.length : Int) = 0) = decide (S.length = 0) from decide_eq_decide.2 (by omega)] at this
  exact this
 unfold Rc.baB
 generalize decide (d = ⟨#[]⟩) = b1 at *
 generalize decide (S.length = 0) = b2 at *
 cases b1 with
 | false =>
  go_enter Tryz.func34, Tryz.ntmps34
  go_wp2_with fail
  refine (HS.out _ _ ?_).mono ?_
  ·exact newC _ _ _ _
  rintro e1 w1 ⟨rfl, hw1⟩; obtain rfl := hw1.symm
  go_wp2
  go_ret
  exact ⟨rfl, (by repeat(first|exact Gr.r _|refine Gr.a ?_|refine Gr.d ?_|refine Gr.t ?_ (by assumption)))⟩
 | true =>
  go_enter Tryz.func34, Tryz.ntmps34
  go_wp2_with fail
  refine (HS.out _ _ ?_).mono ?_
  ·exact newC _ _ _ _
  rintro e1 w1 ⟨rfl, hw1⟩; obtain rfl := hw1.symm
  go_wp2_with fail
  refine (HI.out _ _ ?_).mono ?_
  ·exact (World.cell?_alloc_at _ _ _ _ (by simp)).trans rfl
  rintro e2 w2 ⟨rfl, hw2⟩; obtain rfl := hw2.symm
  go_wp2
  go_ret
  exact ⟨rfl, (by repeat(first|exact Gr.r _|refine Gr.a ?_|refine Gr.d ?_|refine Gr.t ?_ (by assumption)))⟩

theorem emptyMove_any (k r n : Int) (L : List (Int × Int)) (s y : Int) (d : ByteArray) (S : List Stp) (a1 : Option Addr) (c1 : Nat) (a2 : Option Addr) (c2 : Nat) (w : World) :
  Calls Tryz.prog 33 #[.agg #[.int .i64 k, .int .i64 r, .int .i64 n, .slice a1 L.length c1, .int .i64 s, .int .i64 y, .string d, .slice a2 S.length c2]] w fun e w' => e = .returned (.bool (Rc.emB (⟨k, r, n, L, s, y, d, S⟩ : Mv))) /\ Gr w w' := by
 have H6 : Hid (∀ (w' : World) (g : Nat), Cs w' g [.int .i64 k, .int .i64 r, .int .i64 n, .int .i64 (L.length : Int), .int .i64 s, .int .i64 y] -> Calls Tryz.prog 63 #[.slice (some ⟨g, 0, none⟩) 6 6] w' fun e w2 => e = .returned (.bool (decide (k = 0) && decide (r = 0) && decide (n = 0) && decide (L.length = 0) && decide (s = 0) && decide (y = 0))) /\ w2 = w') := by
  intro w' g h
  have := emptyI6 k r n (L.length : Int) s y g w' h
  rw [show decide ((L.length : Int) = 0) = decide (L.length = 0) from decide_eq_decide.2 (by omega)] at this
  exact this
 have HD : Hid (∀ w' : World, Calls Tryz.prog 34 #[.agg #[.string d, .slice a2 S.length c2]] w' fun e w2 => e = .returned (.bool (Rc.baB d S)) /\ Gr w' w2) := fun w' => emptyDef_any d S a2 c2 w'
 unfold Rc.emB
 simp only
 generalize (decide (k = 0) && decide (r = 0) && decide (n = 0) && decide (L.length = 0) && decide (s = 0) && decide (y = 0)) = b1 at *
 generalize Rc.baB d S = b2 at *
 cases b1 with
 | false =>
  go_enter Tryz.func33, Tryz.ntmps33
  go_wp2_with fail
  refine (H6.out _ _ ?_).mono ?_
  ·exact Cs.new _ _ _ _ (by simp)
  rintro e1 w1 ⟨rfl, hw1⟩; obtain rfl := hw1.symm
  go_wp2
  go_ret
  exact ⟨rfl, (by repeat(first|exact Gr.r _|refine Gr.a ?_|refine Gr.d ?_|refine Gr.t ?_ (by assumption)))⟩
 | true =>
  go_enter Tryz.func33, Tryz.ntmps33
  go_wp2_with fail
  refine (H6.out _ _ ?_).mono ?_
  ·exact Cs.new _ _ _ _ (by simp)
  rintro e1 w1 ⟨rfl, hw1⟩; obtain rfl := hw1.symm
  go_wp2_with fail
  refine (HD.out _).mono ?_
  rintro e2 w2 ⟨rfl, hg2⟩
  go_wp2
  go_ret
  exact ⟨rfl, (by repeat(first|exact Gr.r _|refine Gr.a ?_|refine Gr.d ?_|refine Gr.t ?_ (by assumption)))⟩
end Go.Proofs.YthaadiclopoamaaGreatDoor
