/- Parts of these proofs, laid together. -/
import Derived.Test.YtcmbppjfpdkblaaGreatDoorGC
import Derived.Test.YtcmbppjfpdkblaaGreatDoorShelf
import Derived.Test.YtcmbppjfpdkblaaGreatDoorGD
import Derived.Test.YtcmbppjfpdkblaaGreatDoorGA
import Derived.Lib.Strings
import Derived.Deep.QuietTactic
import Derived.BigQuiet
import Derived.Deep.RegionHeld3
/- pack.TakeNumber takes what Pk.takeNum takes. -/
namespace Go.Proofs.YtcmbppjfpdkblaaGreatDoor
open Go.RowKit

def lastB (i c : Int) : Bool := !(decide ((i = 9 ∧ 1 < c) ∨ (i ≠ 0 ∧ c = 0)))

set_option maxHeartbeats 400000 in
theorem lastGroup_any (i c : Int) (w : World) :
    Calls Tryz.prog 96 #[.int .i64 i, .int .u8 c] w fun e w' => e = .returned (.bool (lastB i c)) ∧ w' = w := by
  by_cases a : i = 9
  · subst a
    by_cases b : 1 < c
    · go_enter Tryz.func96, Tryz.ntmps96
      go_wp2
      go_ret
      exact ⟨by simp [lastB, b], rfl⟩
    · by_cases b2 : c = 0
      · subst b2
        go_enter Tryz.func96, Tryz.ntmps96
        go_wp2
        go_ret
        exact ⟨by simp [lastB], rfl⟩
      · have b3 : (c != 0) = true := by simpa using b2
        have hl : lastB 9 c = true := by simp [lastB, b, b2]
        rw [hl]
        clear hl
        go_enter Tryz.func96, Tryz.ntmps96
        go_wp2
        go_ret
        exact ⟨rfl, rfl⟩
  · have a9 : (i == 9) = false := by simpa using a
    by_cases a0 : i = 0
    · subst a0
      go_enter Tryz.func96, Tryz.ntmps96
      go_wp2
      go_ret
      exact ⟨by simp [lastB], rfl⟩
    · have a1 : (i == 0) = false := by simpa using a0
      have hl : lastB i c = (c != 0) := by by_cases hc : c = 0 <;> simp [lastB, a, a0, hc]
      rw [hl]
      clear hl
      go_enter Tryz.func96, Tryz.ntmps96
      go_wp2
      go_ret
      exact ⟨rfl, rfl⟩

theorem or_group (x c k : Nat) (hk : k ≤ 9) (hx : x < 128 ^ k) (hc : c * 128 ^ k < 18446744073709551616) :
    bits .or .u64 (x : Int) (IntKind.u64.wrap ((c : Int) * 2 ^ (7 * k))) = ((x + c * 128 ^ k : Nat) : Int) := by
  have e : (2 : Nat) ^ (7 * k) = 128 ^ k := by rw [Nat.pow_mul]
  have e1 : ((c : Int) * 2 ^ (7 * k)) = ((c * 128 ^ k : Nat) : Int) := by rw [← e]; simp
  have hx64 : x < 18446744073709551616 := Nat.lt_of_lt_of_le hx (Nat.le_trans (Nat.pow_le_pow_right (by omega) hk) (by decide))
  rw [e1, w64 _ (by omega) (by omega), bits_or_u64_nat _ _ hx64 hc]
  have := Nat.two_pow_add_eq_or_of_lt (i := 7 * k) (b := x) (by rw [e]; exact hx) c
  rw [e, Nat.mul_comm] at this
  rw [Nat.or_comm, ← this, Nat.add_comm]

theorem or_any (x : Nat) (z : Int) (hx : x < 18446744073709551616) : ∃ y : Nat, y < 18446744073709551616 ∧ bits .or .u64 (x : Int) (IntKind.u64.wrap z) = (y : Int) := by
  have h0 : 0 ≤ IntKind.u64.wrap z := by rw [IntKind.wrap_u64]; omega
  have h1 : IntKind.u64.wrap z < 18446744073709551616 := by rw [IntKind.wrap_u64]; omega
  obtain ⟨q, hq⟩ := Int.eq_ofNat_of_zero_le h0
  rw [hq] at h1 ⊢
  refine ⟨x ||| q, ?_, bits_or_u64_nat x q hx (by omega)⟩
  exact Nat.or_lt_two_pow (n := 64) hx (by omega)

theorem drop_at (s : ByteArray) (n : Nat) (h : n < s.size) : s.data.toList.drop n = s[n] :: s.data.toList.drop (n + 1) := by
  rw [List.drop_eq_getElem_cons (by simpa using h)]; rfl

theorem takeNum_in (l : List UInt8) (a : Nat) (h : a ≤ l.length) (r : Nat × Nat × Nat) (hr : Pk.take (l.drop a) = r) :
    Pk.takeNum l (a : Int) = (r.1, if r.2.2 = 0 then a + r.2.1 else 0, r.2.2) := by
  unfold Pk.takeNum
  rw [if_pos ⟨by omega, by omega⟩, Int.toNat_natCast, hr]
theorem takeNum_out (l : List UInt8) (p : Int) (h : ¬ (0 ≤ p ∧ p ≤ l.length)) : Pk.takeNum l p = (0, 0, 2) := by
  unfold Pk.takeNum
  rw [if_neg h]
theorem ret3 {k1 k2 k3 : IntKind} {a b c : Int} {r : Nat × Nat × Nat} (h : r = (a.toNat, b.toNat, c.toNat)) (ha : 0 ≤ a) (hb : 0 ≤ b) (hc : 0 ≤ c) :
    Ending.returned (.tuple #[.int k1 a, .int k2 b, .int k3 c]) = Ending.returned (.tuple #[.int k1 r.1, .int k2 r.2.1, .int k3 r.2.2]) := by
  subst h; simp [Int.toNat_of_nonneg ha, Int.toNat_of_nonneg hb, Int.toNat_of_nonneg hc]

set_option maxHeartbeats 400000 in
set_option maxRecDepth 100000 in
theorem takeNumber_any (s : ByteArray) (p : Int) (w : World) (hs : s.size ≤ 140737488355328) :
    Calls Tryz.prog 81 #[.string s, .int .i64 p] w fun e w' => e = .returned (.tuple #[.int .u64 (Pk.takeNum s.data.toList p).1, .int .i64 (Pk.takeNum s.data.toList p).2.1, .int .i64 (Pk.takeNum s.data.toList p).2.2]) ∧ w' = w := by
  have hsz : s.data.toList.length = s.size := by simp
  by_cases hp : 0 ≤ p ∧ p ≤ s.size
  · obtain ⟨hp0, hp1⟩ := hp
    obtain ⟨a, rfl⟩ := Int.eq_ofNat_of_zero_le hp0
    have HN := takeNum_in s.data.toList a (by omega)
    have HN' : Hid (∀ (r : Nat × Nat × Nat), Pk.take (List.drop a s.data.toList) = r → Pk.takeNum s.data.toList (a : Int) = (r.1, if r.2.2 = 0 then a + r.2.1 else 0, r.2.2)) := HN
    clear HN hsz
    generalize Pk.takeNum s.data.toList (a : Int) = R at *
    have ht1 : decide ((a : Int) < 0) = false := by simp
    have ht2 : decide ((s.size : Int) < (a : Int)) = false := by simp; omega
    have ht3 : decide (s.size < a) = false := by simp; omega
    go_enter Tryz.func81, Tryz.ntmps81
    go_wp2
    go_loop [7, 18] (fun n i => ∃ k x y : Nat, k ≤ 10 ∧ i = .int .i64 k ∧ n = .int .u64 x ∧ x < 18446744073709551616 ∧ (k ≤ 9 → x = y ∧ y < 128 ^ k) ∧ a + k ≤ s.size ∧ Pk.take (s.data.toList.drop a) = Pk.takeF (10 - k) k y (s.data.toList.drop (a + k))) (fun _ i => 10 - (intOf i).toNat)
    case atStart => exact ⟨0, 0, 0, by omega, rfl, rfl, by omega, by simp, by omega, rfl⟩
    case round =>
      obtain ⟨k, x, y, hk, rfl, rfl, hx64, hx, hks, ht⟩ := hrel
      by_cases hlt : k < 10
      · obtain ⟨rfl, hxk⟩ := hx (by omega)
        clear hx
        obtain ⟨f, hf⟩ : ∃ f, 10 - k = f + 1 := ⟨9 - k, by omega⟩
        rw [hf] at ht
        have HF : Hid (10 - k = f + 1) := hf
        clear hf
        by_cases he : a + k = s.size
        · rw [show s.data.toList.drop (a + k) = [] from List.drop_eq_nil_of_le (by rw [show s.data.toList.length = s.size from by simp]; omega), Pk.takeF] at ht
          have hR := HN'.out _ ht
          have HR : Hid (R = (0, 0, 10)) := by show R = _; simpa using hR
          clear ht hR HN' hxk
          go_wp2
          go_ret3
          refine ⟨?_, rfl⟩
          rw [HR.out]; rfl
        · have hin : a + k < s.size := by omega
          rw [drop_at s (a + k) hin, Pk.takeF] at ht
          obtain ⟨z, hz64, hz⟩ := or_any x (((s[a + k]'hin).toNat : Int) % 128 * 2 ^ (7 * k)) hx64
          have hcb : (s[a + k]'hin).toNat < 256 := (s[a + k]'hin).toNat_lt
          have hzv : (k < 9 ∨ (s[a + k]'hin).toNat ≤ 1) → z = x + (s[a + k]'hin).toNat % 128 * 128 ^ k := by
            intro hor
            have hb : (s[a + k]'hin).toNat % 128 * 128 ^ k < 18446744073709551616 := by
              rcases hor with h | h
              · have : 128 ^ k ≤ 128 ^ 8 := Nat.pow_le_pow_right (by omega) (by omega)
                have h2 : (s[a + k]'hin).toNat % 128 ≤ 127 := by omega
                exact Nat.lt_of_le_of_lt (Nat.mul_le_mul h2 this) (by decide)
              · have : 128 ^ k ≤ 128 ^ 9 := Nat.pow_le_pow_right (by omega) (by omega)
                have h2 : (s[a + k]'hin).toNat % 128 ≤ 1 := by omega
                exact Nat.lt_of_le_of_lt (Nat.mul_le_mul h2 this) (by decide)
            have := or_group x ((s[a + k]'hin).toNat % 128) k (by omega) hxk hb
            rw [Int.natCast_emod] at this
            have h3 := hz.symm.trans this
            omega
          have HZ : Hid ((k < 9 ∨ (s[a + k]'hin).toNat ≤ 1) → z = x + (s[a + k]'hin).toNat % 128 * 128 ^ k) := hzv
          have HK : Hid (x < 128 ^ k) := hxk
          clear hzv hxk
          by_cases hge : 128 ≤ (s[a + k]'hin).toNat
          · rw [if_pos hge] at ht
            have HT : Hid (Pk.take (List.drop a s.data.toList) = Pk.takeF f (k + 1) (x + (s[a + k]'hin).toNat % 128 * 128 ^ k) (List.drop (a + k + 1) s.data.toList)) := ht
            clear ht
            go_wp2
            go_round
            case rel =>
              refine ⟨k + 1, z, x + (s[a + k]'hin).toNat % 128 * 128 ^ k, by omega, by go_num, rfl, hz64, ?_, by omega, ?_⟩
              · intro h9
                refine ⟨HZ.out (Or.inl (by omega)), ?_⟩
                have h2 : (s[a + k]'hin).toNat % 128 ≤ 127 := by omega
                have h3 := HK.out
                have h4 := Nat.mul_le_mul_right (128 ^ k) h2
                rw [Nat.pow_succ]; omega
              · rw [HT.out, show 10 - (k + 1) = f from by have := HF.out; omega]; rfl
            case measure => simp [intOf]; omega
          · rw [if_neg hge] at ht
            by_cases hl : (k = 9 ∧ 1 < (s[a + k]'hin).toNat) ∨ (k ≠ 0 ∧ (s[a + k]'hin).toNat = 0)
            · rw [if_pos hl] at ht
              have hR := HN'.out _ ht
              have HR : Hid (R = (0, 0, 11)) := by show R = _; simpa using hR
              have hL : lastB (k : Int) ((s[a + k]'hin).toNat : Int) = false := by
                simp only [lastB, Bool.not_eq_false', decide_eq_true_eq]; omega
              clear ht hR HN' hl
              go_wp2_with (go_at_call 96; refine (lastGroup_any _ _ _).mono ?_; rintro e w' ⟨rfl, rfl⟩)
              go_ret3
              refine ⟨?_, rfl⟩
              rw [HR.out]; rfl
            · rw [if_neg hl] at ht
              have hR := HN'.out _ ht
              have hz9 := HZ.out (by omega)
              have HR : Hid (R = (z, a + k + 1, 0)) := by
                show R = _
                rw [hR, hz9, Nat.mod_eq_of_lt (by omega)]; simp [Nat.add_assoc]
              have hL : lastB (k : Int) ((s[a + k]'hin).toNat : Int) = true := by
                simp only [lastB, Bool.not_eq_true', decide_eq_false_iff_not]; omega
              clear ht hR HN' hl hz9
              go_wp2_with (go_at_call 96; refine (lastGroup_any _ _ _).mono ?_; rintro e w' ⟨rfl, rfl⟩)
              go_ret3
              refine ⟨?_, rfl⟩
              rw [HR.out]; go_num
      · have hk10 : k = 10 := by omega
        subst hk10
        have hR := HN'.out _ ht
        have HR : Hid (R = (0, 0, 11)) := by show R = _; simpa [Pk.takeF] using hR
        clear ht hR HN' hx
        go_wp2
        go_ret3
        refine ⟨?_, rfl⟩
        rw [HR.out]; rfl
  · rw [takeNum_out _ _ (by rw [hsz]; exact hp)]
    rcases (show p < 0 ∨ (0 ≤ p ∧ (s.size : Int) < p) from by omega) with h | ⟨h, h2⟩
    all_goals
      clear hp
      go_enter Tryz.func81, Tryz.ntmps81
      go_wp2
      go_ret3
      exact ⟨rfl, rfl⟩
end Go.Proofs.YtcmbppjfpdkblaaGreatDoor
/- strings.Clone answers its string. -/
namespace Go.Proofs.YtcmbppjfpdkblaaGreatDoor
open Go.RowKit

set_option maxHeartbeats 400000 in
theorem sclone_any (s : ByteArray) (w : World) (hs : s.size ≤ 140737488355328) : Calls Tryz.prog 69 #[.string s] w fun e w' => e = .returned (.string s) ∧ Gr w w' := by
  have HC : Hid (∀ w : World, Calls Tryz.prog 82 #[.string s] w fun e w' => e = .returned (.string s) ∧ Below w.heap.size w w') := fun w => Tryz.stringslite_Clone s w (by omega)
  go_enter Tryz.func69, Tryz.ntmps69
  go_wp2_with fail
  refine (HC.out _).mono ?_
  rintro e w1 ⟨rfl, hb⟩
  go_wp2
  go_ret
  exact ⟨rfl, ⟨hb⟩⟩

end Go.Proofs.YtcmbppjfpdkblaaGreatDoor
/- pack.TakeSigned takes the number that pack.TakeNumber's stands for. -/
namespace Go.Proofs.YtcmbppjfpdkblaaGreatDoor
open Go.RowKit

end Go.Proofs.YtcmbppjfpdkblaaGreatDoor
/- The document's value and TakeNumber take what Pk.takeNum takes. -/
namespace Go.Proofs.YtcmbppjfpdkblaaGreatDoor
open Go.RowKit
attribute [local go_sem ↓] Go.wp_at_zero Go.wp_at_succ

set_option maxHeartbeats 400000 in
set_option maxRecDepth 100000 in
theorem value_any (s : ByteArray) (w : World) (hs : s.size ≤ 140737488355328) (r : Nat) (q : Bool) (hr : (Pk.val s.data.toList < 18446744073709551616 ∧ r = Pk.val s.data.toList ∧ q = true) ∨ (18446744073709551616 ≤ Pk.val s.data.toList ∧ r = 0 ∧ q = false)) :
    Calls Tryz.prog 89 #[.string s] w fun e w' => e = .returned (.tuple #[.int .u64 r, .bool q]) ∧ w' = w := by
  have HR : Hid ((Pk.val s.data.toList < 18446744073709551616 ∧ r = Pk.val s.data.toList ∧ q = true) ∨ (18446744073709551616 ≤ Pk.val s.data.toList ∧ r = 0 ∧ q = false)) := hr
  clear hr
  go_enter Tryz.func89, Tryz.ntmps89
  go_wp2
  go_loop [4, 5] (fun n i => ∃ k x : Nat, k ≤ s.size ∧ i = .int .i64 ((k : Int) - 1) ∧ n = .int .u64 x ∧ x = Pk.val (s.data.toList.drop k) ∧ x < 18446744073709551616) (fun _ i => (intOf i + 1).toNat)
  case atStart =>
    refine ⟨s.size, 0, by omega, rfl, rfl, ?_, by omega⟩
    rw [List.drop_eq_nil_of_le (by simp)]; rfl
  case round =>
    obtain ⟨k, x, hk, rfl, rfl, hx, hx64⟩ := hrel
    have HX : Hid (x = Pk.val (s.data.toList.drop k)) := hx
    clear hx
    cases k with
    | zero =>
      have hR : r = x ∧ q = true := by
        have h1 := HX.out
        rw [List.drop_zero] at h1
        rcases HR.out with ⟨_, h3, h4⟩ | ⟨h2, _⟩
        · exact ⟨h3.trans h1.symm, h4⟩
        · omega
      obtain ⟨rfl, rfl⟩ := hR
      go_wp2
      go_ret2
      exact ⟨rfl, rfl⟩
    | succ j =>
      have hj : ((j + 1 : Nat) : Int) - 1 = (j : Int) := by omega
      have hjs : j < s.size := by omega
      rw [hj]
      by_cases hbig : 144115188075855871 < x
      · have hR : r = 0 ∧ q = false := by
          have h1 := HX.out
          have h2 := Pk.val_drop s.data.toList (j + 1)
          rw [← h1, Nat.pow_succ] at h2
          have h3 : 1 * (128 * x) ≤ 128 ^ j * (128 * x) := Nat.mul_le_mul_right _ (Nat.pow_pos (by omega))
          rw [Nat.mul_assoc] at h2
          rcases HR.out with ⟨h4, _⟩ | ⟨_, h4⟩
          · omega
          · exact h4
        obtain ⟨rfl, rfl⟩ := hR
        go_wp2
        go_ret2
        exact ⟨rfl, rfl⟩
      · have hb : (s[j]'hjs).toNat < 256 := (s[j]'hjs).toNat_lt
        go_wp2
        go_round
        case rel =>
          refine ⟨j, 128 * x + (s[j]'hjs).toNat % 128, by omega, by go_num, by go_num, ?_, by omega⟩
          rw [drop_at s j hjs, Pk.val, ← HX.out]; omega
        case measure => simp [intOf]

theorem drop_get (s : ByteArray) (a i : Nat) (h : i < (s.data.toList.drop a).length) (h2 : a + i < s.size) : (s.data.toList.drop a)[i] = s[a + i] := by
  rw [List.getElem_drop]; rfl
theorem ext_data (s : ByteArray) (a n : Nat) : (s.extract a (a + n)).data.toList = (s.data.toList.drop a).take n := by
  rw [Lib.extract_data]; simp

set_option maxHeartbeats 1000000 in
set_option maxRecDepth 100000 in
theorem refTakeNumber_any (s : ByteArray) (p : Int) (w : World) (hs : s.size ≤ 140737488355328) :
    Calls Tryz.prog 73 #[.string s, .int .i64 p] w fun e w' => e = .returned (.tuple #[.int .u64 (Pk.takeNum s.data.toList p).1, .int .i64 (Pk.takeNum s.data.toList p).2.1, .int .i64 (Pk.takeNum s.data.toList p).2.2]) ∧ Gr w w' := by
  have hsz : s.data.toList.length = s.size := by simp
  by_cases hp : 0 ≤ p ∧ p ≤ s.size
  · obtain ⟨hp0, hp1⟩ := hp
    obtain ⟨a, rfl⟩ := Int.eq_ofNat_of_zero_le hp0
    have HN := takeNum_in s.data.toList a (by omega)
    have HN' : Hid (∀ (r : Nat × Nat × Nat), Pk.take (List.drop a s.data.toList) = r → Pk.takeNum s.data.toList (a : Int) = (r.1, if r.2.2 = 0 then a + r.2.1 else 0, r.2.2)) := HN
    have HZ : Hid ((s.data.toList.drop a).length = s.size - a) := by show _ = _; rw [List.length_drop, hsz]
    clear HN hsz
    generalize Pk.takeNum s.data.toList (a : Int) = R at *
    have ht1 : decide ((a : Int) < 0) = false := by simp
    have ht2 : decide ((s.size : Int) < (a : Int)) = false := by simp; omega
    have ht3 : decide (s.size < a) = false := by simp; omega
    go_enter Tryz.func73, Tryz.ntmps73
    go_wp2
    go_loop [7] (fun t => ∃ k : Nat, k ≤ 9 ∧ t = .int .i64 ((a : Int) + k) ∧ a + k ≤ s.size ∧ ∀ i (h : a + i < s.size), i < k → 128 ≤ s[a + i].toNat) (fun t => s.size - (intOf t).toNat)
    case atStart => exact ⟨0, by omega, by simp, by omega, by intro i _ h; omega⟩
    case round =>
      obtain ⟨k, hk9, rfl, hks, hall⟩ := hrel
      have HA : Hid (∀ i (h : i < (s.data.toList.drop a).length), i < k → 128 ≤ (s.data.toList.drop a)[i].toNat) := by
        intro i h hi
        have := HZ.out
        rw [drop_get s a i h (by omega)]
        exact hall i (by omega) hi
      have HL : Hid (∀ i (h : a + i < s.size), i < k → 128 ≤ s[a + i].toNat) := hall
      clear hall
      by_cases hin : a + k < s.size
      · have hb := (s[a + k]'hin).toNat_lt
        by_cases hge : 128 ≤ (s[a + k]'hin).toNat
        · have HA1 : ∀ i (h : a + i < s.size), i < k + 1 → 128 ≤ s[a + i].toNat := by
            intro i h hi
            by_cases e : i = k
            · subst e; exact hge
            · exact HL.out i h (by omega)
          have HA2 : Hid (∀ i (h : a + i < s.size), i < k + 1 → 128 ≤ s[a + i].toNat) := HA1
          clear HA1
          by_cases h9 : k = 9
          · subst h9
            have ht := Pk.take_ten (s.data.toList.drop a) (by
              intro i h hi
              have := HZ.out
              rw [drop_get s a i h (by omega)]
              exact HA2.out i (by omega) hi) (by have := HZ.out; omega)
            have hR := HN'.out _ ht
            have HR : Hid (R = (0, 0, 11)) := by show R = _; simpa using hR
            clear ht hR HN'
            go_wp2
            go_ret3
            refine ⟨?_, Gr.refl _⟩
            rw [HR.out]; rfl
          · go_wp2
            go_round
            case rel => exact ⟨k + 1, by omega, by go_num, by omega, HA2.out⟩
            case measure => simp [intOf]; omega
        · have hkl : k < (s.data.toList.drop a).length := by have := HZ.out; omega
          have hg := drop_get s a k hkl hin
          have hlt : (s.data.toList.drop a)[k].toNat < 128 := by rw [hg]; omega
          have ht := Pk.take_end (s.data.toList.drop a) k hkl hk9 HA.out hlt
          have hvs := Pk.val_small (s.data.toList.drop a) k hkl hk9 hlt
          have hvf := Pk.val_form (s.data.toList.drop a) k hkl hk9 HA.out hlt
          rw [hg] at ht hvs hvf
          have hx : (s.extract a (a + k + 1)).data.toList = (s.data.toList.drop a).take (k + 1) := ext_data s a (k + 1)
          have hq : ((a : Int) + k == (s.size : Int)) = false := by simp; omega
          have hxs : (s.extract a (a + k + 1)).size ≤ 140737488355328 := by
            have : (s.extract a (a + k + 1)).data.toList.length ≤ k + 1 := by rw [hx]; exact List.length_take_le _ _
            have h2 : (s.extract a (a + k + 1)).data.toList.length = (s.extract a (a + k + 1)).size := by rw [Array.length_toList]; rfl
            omega
          have hval := fun w r q h => value_any (s.extract a (a + k + 1)) w hxs r q h
          rw [hx] at hval
          have htl : (s.extract a (a + k + 1)).toList = (s.data.toList.drop a).take (k + 1) := by rw [ByteArray.toList_eq, hx]
          have hE : IntKind.i64.wrap ((a : Int) + k + 1) = (a : Int) + k + 1 := by rw [IntKind.wrap_i64]; omega
          have hTN : ((a : Int) + k + 1).toNat = a + k + 1 := by omega
          have hE1 : (a : Int) ≤ (a : Int) + k + 1 := by omega
          have hE2 : (a : Int) + k + 1 ≤ (s.size : Int) := by omega
          clear hg hlt hkl hx hxs HA HL
          by_cases hA : k = 9 ∧ 1 < (s[a + k]'hin).toNat
          · rw [if_pos (Or.inl hA)] at ht
            have hR := HN'.out _ ht
            have HR : Hid (R = (0, 0, 11)) := by show R = _; simpa using hR
            have HV : Hid (∀ w : World, Calls Tryz.prog 89 #[.string (s.extract a (a + k + 1))] w fun e w' => e = .returned (.tuple #[.int .u64 0, .bool false]) ∧ w' = w) := fun w => hval w 0 false (Or.inr ⟨by omega, rfl, rfl⟩)
            clear ht hR HN' hval hvf hvs hA htl
            go_wp2_with fail
            refine (HV.out _).mono ?_
            rintro e w1 ⟨rfl, rfl⟩
            go_wp2_with fail
            go_quiet (fail)
            go_wp2
            go_ret3
            refine ⟨?_, ⟨below_drewN (Below.refl _ _) _⟩⟩
            rw [HR.out]; rfl
          · have hv64 := hvs.2 hA
            have hvf' := hvf hA
            have HV : Hid (∀ w : World, Calls Tryz.prog 89 #[.string (s.extract a (a + k + 1))] w fun e w' => e = .returned (.tuple #[.int .u64 (Pk.val ((s.data.toList.drop a).take (k + 1))), .bool true]) ∧ w' = w) := fun w => hval w _ true (Or.inl ⟨hv64, rfl, rfl⟩)
            have HM : Hid (∀ w : World, Calls Tryz.prog 64 #[.int .u64 (Pk.val ((s.data.toList.drop a).take (k + 1)))] w fun e w' => e = .returned (.string ⟨(Pk.num (Pk.val ((s.data.toList.drop a).take (k + 1)))).toArray⟩) ∧ Gr w w') := fun w => refNumber_any 9 _ w (by omega) (by omega) hv64
            by_cases hB : k ≠ 0 ∧ (s[a + k]'hin).toNat = 0
            · rw [if_pos (Or.inr hB)] at ht
              have hR := HN'.out _ ht
              have HR : Hid (R = (0, 0, 11)) := by show R = _; simpa using hR
              have hnn : ¬ Pk.num (Pk.val ((s.data.toList.drop a).take (k + 1))) = (s.data.toList.drop a).take (k + 1) := fun h => (hvf'.1 h) hB
              have hne : ((Pk.num (Pk.val ((s.data.toList.drop a).take (k + 1)))) == (s.extract a (a + k + 1)).toList) = false := by rw [htl]; simpa using hnn
              generalize Pk.num (Pk.val ((s.data.toList.drop a).take (k + 1))) = t at *
              generalize Pk.val ((s.data.toList.drop a).take (k + 1)) = v at *
              clear ht hR HN' hval hvf hvs hA hB htl hvf' hnn
              go_wp2_with fail
              refine (HV.out _).mono ?_
              rintro e w1 ⟨rfl, rfl⟩
              go_wp2_with fail
              go_region_held3 (fun _ => True) (trivial) ((go_at_call 64; refine (HM.out _).mono ?_; rintro e w2 ⟨rfl, hg2⟩))
              all_goals go_wp2
              all_goals go_ret3
              all_goals refine ⟨?_, (by repeat (first | exact Gr.refl _ | refine Gr.alloc ?_ | refine Gr.drew ?_ | refine Gr.trans ?_ (by assumption)))⟩
              all_goals rw [HR.out]; rfl
            · rw [if_neg (by omega)] at ht
              have hR := HN'.out _ ht
              have HR : Hid (R = (Pk.val ((s.data.toList.drop a).take (k + 1)), a + k + 1, 0)) := by show R = _; simpa [Nat.add_assoc] using hR
              have hne : ((Pk.num (Pk.val ((s.data.toList.drop a).take (k + 1)))) == (s.extract a (a + k + 1)).toList) = true := by rw [htl]; simpa using hvf'.2 hB
              generalize Pk.num (Pk.val ((s.data.toList.drop a).take (k + 1))) = t at *
              generalize Pk.val ((s.data.toList.drop a).take (k + 1)) = v at *
              clear ht hR HN' hval hvf hvs hA hB htl hvf'
              go_wp2_with fail
              refine (HV.out _).mono ?_
              rintro e w1 ⟨rfl, rfl⟩
              go_wp2_with fail
              go_region_held3 (fun _ => True) (trivial) ((go_at_call 64; refine (HM.out _).mono ?_; rintro e w2 ⟨rfl, hg2⟩))
              all_goals go_wp2
              all_goals go_ret3
              all_goals refine ⟨?_, (by repeat (first | exact Gr.refl _ | refine Gr.alloc ?_ | refine Gr.drew ?_ | refine Gr.trans ?_ (by assumption)))⟩
              all_goals rw [HR.out]; rfl
      · have ht := Pk.take_short (s.data.toList.drop a) (by
          intro i h
          have := HZ.out
          rw [drop_get s a i h (by omega)]
          exact HL.out i (by omega) (by omega)) (by have := HZ.out; omega)
        have hR := HN'.out _ ht
        have HR : Hid (R = (0, 0, 10)) := by show R = _; simpa using hR
        clear ht hR HN'
        have hq : ((a : Int) + k == (s.size : Int)) = true := by simp; omega
        go_wp2
        go_ret3
        refine ⟨?_, Gr.refl _⟩
        rw [HR.out]; rfl
  · rw [takeNum_out _ _ (by rw [hsz]; exact hp)]
    rcases (show p < 0 ∨ (0 ≤ p ∧ (s.size : Int) < p) from by omega) with h | ⟨h, h2⟩
    all_goals
      clear hp
      go_enter Tryz.func73, Tryz.ntmps73
      go_wp2
      go_ret3
      exact ⟨rfl, Gr.refl _⟩
end Go.Proofs.YtcmbppjfpdkblaaGreatDoor
/- pack.TakeText, the document's TakeSigned and TakeText: what is taken. -/
namespace Go.Proofs.YtcmbppjfpdkblaaGreatDoor
open Go.RowKit

theorem ext_mk (s : ByteArray) (a n : Nat) : s.extract a (a + n) = ⟨((s.data.toList.drop a).take n).toArray⟩ := by
  have h := ext_data s a n
  rw [← h]

set_option maxHeartbeats 400000 in
theorem tclone_any (s : ByteArray) (w : World) (hs : s.size ≤ 140737488355328) : Calls Tryz.prog 69 #[.string s] w fun e w' => e = .returned (.string s) ∧ Gr w w' := by
  have HC : Hid (∀ w : World, Calls Tryz.prog 82 #[.string s] w fun e w' => e = .returned (.string s) ∧ Below w.heap.size w w') := fun w => Tryz.stringslite_Clone s w (by omega)
  go_enter Tryz.func69, Tryz.ntmps69
  go_wp2_with fail
  refine (HC.out _).mono ?_
  rintro e w1 ⟨rfl, hb⟩
  go_wp2
  go_ret
  exact ⟨rfl, ⟨hb⟩⟩

set_option maxHeartbeats 400000 in
set_option maxRecDepth 100000 in
theorem takeText_any (s : ByteArray) (p : Int) (w : World) (hs : s.size ≤ 140737488355328) :
    Calls Tryz.prog 87 #[.string s, .int .i64 p] w fun e w' => e = .returned (.tuple #[.string ⟨(Pk.takeText s.data.toList p).1.toArray⟩, .int .i64 (Pk.takeText s.data.toList p).2.1, .int .i64 (Pk.takeText s.data.toList p).2.2]) ∧ Gr w w' := by
  have hsp := Pk.takeNum_spec s.data.toList p
  have hsz : s.data.toList.length = s.size := by simp
  have hdef : Pk.takeText s.data.toList p = _ := rfl
  conv at hdef => rhs; unfold Pk.takeText
  have HC : Hid (∀ w : World, Calls Tryz.prog 81 #[.string s, .int .i64 p] w fun e w' => e = .returned (.tuple #[.int .u64 (Pk.takeNum s.data.toList p).1, .int .i64 (Pk.takeNum s.data.toList p).2.1, .int .i64 (Pk.takeNum s.data.toList p).2.2]) ∧ w' = w) := fun w => takeNumber_any s p w hs
  generalize Pk.takeNum s.data.toList p = R at *
  generalize Pk.takeText s.data.toList p = T at *
  obtain ⟨n, q, e⟩ := R
  simp only at *
  rw [hsz] at hsp hdef
  rcases hsp with ⟨rfl, h1, h2, h3, h4⟩ | h | h | h
  · rw [if_neg (by simp)] at hdef
    by_cases hbig : s.size - q < n
    · rw [if_pos hbig] at hdef
      subst hdef
      have hbi : (s.size : Int) - q < n := by omega
      clear hsz hbig
      go_enter Tryz.func87, Tryz.ntmps87
      go_wp2_with fail
      refine (HC.out _).mono ?_
      rintro e w1 ⟨rfl, rfl⟩
      go_wp2
      go_ret3
      exact ⟨by simp, (by repeat (first | exact Gr.refl _ | refine Gr.alloc ?_ | refine Gr.drew ?_ | refine Gr.trans ?_ (by assumption)))⟩
    · rw [if_neg hbig] at hdef
      subst hdef
      have hbi : ¬ (s.size : Int) - q < n := by omega
      have HX : Hid (s.extract q (q + n) = ⟨((s.data.toList.drop q).take n).toArray⟩) := ext_mk s q n
      have HK : Hid (∀ w : World, Calls Tryz.prog 69 #[.string (s.extract q (q + n))] w fun e w' => e = .returned (.string (s.extract q (q + n))) ∧ Gr w w') := fun w => tclone_any _ w (by
        have : (s.extract q (q + n)).size ≤ s.size := by simp; omega
        omega)
      clear hsz hbig
      go_enter Tryz.func87, Tryz.ntmps87
      go_wp2_with fail
      refine (HC.out _).mono ?_
      rintro e w1 ⟨rfl, rfl⟩
      go_wp2_with fail
      refine (HK.out _).mono ?_
      rintro e w2 ⟨rfl, hg2⟩
      go_wp2
      go_ret3
      refine ⟨?_, (by repeat (first | exact Gr.refl _ | refine Gr.alloc ?_ | refine Gr.drew ?_ | refine Gr.trans ?_ (by assumption)))⟩
      rw [← HX.out]
      simp
  all_goals
    simp only [Prod.mk.injEq] at h
    obtain ⟨rfl, rfl, rfl⟩ := h
    rw [if_pos (by simp)] at hdef
    subst hdef
    go_enter Tryz.func87, Tryz.ntmps87
    go_wp2_with fail
    refine (HC.out _).mono ?_
    rintro e w1 ⟨rfl, rfl⟩
    go_wp2
    go_ret3
    exact ⟨by simp, (by repeat (first | exact Gr.refl _ | refine Gr.alloc ?_ | refine Gr.drew ?_ | refine Gr.trans ?_ (by assumption)))⟩
set_option maxHeartbeats 400000 in
set_option maxRecDepth 100000 in
theorem refTakeText_any (s : ByteArray) (p : Int) (w : World) (hs : s.size ≤ 140737488355328) :
    Calls Tryz.prog 51 #[.string s, .int .i64 p] w fun e w' => e = .returned (.tuple #[.string ⟨(Pk.takeText s.data.toList p).1.toArray⟩, .int .i64 (Pk.takeText s.data.toList p).2.1, .int .i64 (Pk.takeText s.data.toList p).2.2]) ∧ Gr w w' := by
  have hsp := Pk.takeNum_spec s.data.toList p
  have hsz : s.data.toList.length = s.size := by simp
  have hdef : Pk.takeText s.data.toList p = _ := rfl
  conv at hdef => rhs; unfold Pk.takeText
  have HC : Hid (∀ w : World, Calls Tryz.prog 73 #[.string s, .int .i64 p] w fun e w' => e = .returned (.tuple #[.int .u64 (Pk.takeNum s.data.toList p).1, .int .i64 (Pk.takeNum s.data.toList p).2.1, .int .i64 (Pk.takeNum s.data.toList p).2.2]) ∧ Gr w w') := fun w => refTakeNumber_any s p w hs
  generalize Pk.takeNum s.data.toList p = R at *
  generalize Pk.takeText s.data.toList p = T at *
  obtain ⟨n, q, e⟩ := R
  simp only at *
  rw [hsz] at hsp hdef
  rcases hsp with ⟨rfl, h1, h2, h3, h4⟩ | h | h | h
  · rw [if_neg (by simp)] at hdef
    by_cases hbig : s.size - q < n
    · rw [if_pos hbig] at hdef
      subst hdef
      have hbi : (s.size : Int) - q < n := by omega
      clear hsz hbig
      go_enter Tryz.func51, Tryz.ntmps51
      go_wp2_with fail
      refine (HC.out _).mono ?_
      rintro e w1 ⟨rfl, hg1⟩
      go_wp2
      go_ret3
      exact ⟨by simp, (by repeat (first | exact Gr.refl _ | refine Gr.alloc ?_ | refine Gr.drew ?_ | refine Gr.trans ?_ (by assumption)))⟩
    · rw [if_neg hbig] at hdef
      subst hdef
      have hbi : ¬ (s.size : Int) - q < n := by omega
      have HX : Hid (s.extract q (q + n) = ⟨((s.data.toList.drop q).take n).toArray⟩) := ext_mk s q n
      clear hsz hbig
      go_enter Tryz.func51, Tryz.ntmps51
      go_wp2_with fail
      refine (HC.out _).mono ?_
      rintro e w1 ⟨rfl, hg1⟩
      go_wp2
      go_ret3
      refine ⟨?_, (by repeat (first | exact Gr.refl _ | refine Gr.alloc ?_ | refine Gr.drew ?_ | refine Gr.trans ?_ (by assumption)))⟩
      rw [← HX.out]
      simp
  all_goals
    simp only [Prod.mk.injEq] at h
    obtain ⟨rfl, rfl, rfl⟩ := h
    rw [if_pos (by simp)] at hdef
    subst hdef
    go_enter Tryz.func51, Tryz.ntmps51
    go_wp2_with fail
    refine (HC.out _).mono ?_
    rintro e w1 ⟨rfl, hg1⟩
    go_wp2
    go_ret3
    exact ⟨by simp, (by repeat (first | exact Gr.refl _ | refine Gr.alloc ?_ | refine Gr.drew ?_ | refine Gr.trans ?_ (by assumption)))⟩
end Go.Proofs.YtcmbppjfpdkblaaGreatDoor
