
/- pack.TakeNumber takes what Pk.takeNum takes. -/
import Derived.Test.YtoeibjflaiiljaaDoorBase
namespace Go.Proofs.YtoeibjflaiiljaaDoor
open Go.RowKit

def lastB (i c : Int) : Bool := !(decide ((i = 9 ∧ 1 < c) ∨ (i ≠ 0 ∧ c = 0)))

set_option maxHeartbeats 400000 in
theorem lastGroup_any (i c : Int) (w : World) :
    Calls Tryd.prog 50 #[.int .i64 i, .int .u8 c] w fun e w' => e = .returned (.bool (lastB i c)) ∧ w' = w := by
  by_cases a : i = 9
  · subst a
    by_cases b : 1 < c
    · go_enter Tryd.func50, Tryd.ntmps50
      go_wp2
      go_ret
      exact ⟨by simp [lastB, b], rfl⟩
    · by_cases b2 : c = 0
      · subst b2
        go_enter Tryd.func50, Tryd.ntmps50
        go_wp2
        go_ret
        exact ⟨by simp [lastB], rfl⟩
      · have b3 : (c != 0) = true := by simpa using b2
        have hl : lastB 9 c = true := by simp [lastB, b, b2]
        rw [hl]
        clear hl
        go_enter Tryd.func50, Tryd.ntmps50
        go_wp2
        go_ret
        exact ⟨rfl, rfl⟩
  · have a9 : (i == 9) = false := by simpa using a
    by_cases a0 : i = 0
    · subst a0
      go_enter Tryd.func50, Tryd.ntmps50
      go_wp2
      go_ret
      exact ⟨by simp [lastB], rfl⟩
    · have a1 : (i == 0) = false := by simpa using a0
      have hl : lastB i c = (c != 0) := by by_cases hc : c = 0 <;> simp [lastB, a, a0, hc]
      rw [hl]
      clear hl
      go_enter Tryd.func50, Tryd.ntmps50
      go_wp2
      go_ret
      exact ⟨rfl, rfl⟩

theorem or_group (x c k : Nat) (hk : k ≤ 9) (hx : x < 128 ^ k) (hc : c * 128 ^ k < 18446744073709551616) :
    bits .or .u64 (x : Int) (IntKind.u64.wrap ((c : Int) * 2 ^ (7 * k))) = ((x + c * 128 ^ k : Nat) : Int) := by
  have e : (2 : Nat) ^ (7 * k) = 128 ^ k := by rw [Nat.pow_mul]
  have e1 : ((c : Int) * 2 ^ (7 * k)) = ((c * 128 ^ k : Nat) : Int) := by rw [← e]; simp
  have hx64 : x < 18446744073709551616 := Nat.lt_of_lt_of_le hx (Nat.le_trans (Nat.pow_le_pow_right (by omega) hk) (by decide))
  rw [e1, w64 _ (by omega) (by omega), bits_or_u64_nat _ _ hx64 hc]
  have := Nat.two_pow_add_eq_or_of_lt (i := 7 * k) (b := x) (by rw [e]; exact hx) c
  rw [e, Nat.mul_comm] at this
  rw [Nat.or_comm, ← this, Nat.add_comm]

theorem or_any (x : Nat) (z : Int) (hx : x < 18446744073709551616) : ∃ y : Nat, y < 18446744073709551616 ∧ bits .or .u64 (x : Int) (IntKind.u64.wrap z) = (y : Int) := by
  have h0 : 0 ≤ IntKind.u64.wrap z := by rw [IntKind.wrap_u64]; omega
  have h1 : IntKind.u64.wrap z < 18446744073709551616 := by rw [IntKind.wrap_u64]; omega
  obtain ⟨q, hq⟩ := Int.eq_ofNat_of_zero_le h0
  rw [hq] at h1 ⊢
  refine ⟨x ||| q, ?_, bits_or_u64_nat x q hx (by omega)⟩
  exact Nat.or_lt_two_pow (n := 64) hx (by omega)

theorem drop_at (s : ByteArray) (n : Nat) (h : n < s.size) : s.data.toList.drop n = s[n] :: s.data.toList.drop (n + 1) := by
  rw [List.drop_eq_getElem_cons (by simpa using h)]; rfl

theorem takeNum_in (l : List UInt8) (a : Nat) (h : a ≤ l.length) (r : Nat × Nat × Nat) (hr : Pk.take (l.drop a) = r) :
    Pk.takeNum l (a : Int) = (r.1, if r.2.2 = 0 then a + r.2.1 else 0, r.2.2) := by
  unfold Pk.takeNum
  rw [if_pos ⟨by omega, by omega⟩, Int.toNat_natCast, hr]
theorem takeNum_out (l : List UInt8) (p : Int) (h : ¬ (0 ≤ p ∧ p ≤ l.length)) : Pk.takeNum l p = (0, 0, 2) := by
  unfold Pk.takeNum
  rw [if_neg h]
theorem ret3 {k1 k2 k3 : IntKind} {a b c : Int} {r : Nat × Nat × Nat} (h : r = (a.toNat, b.toNat, c.toNat)) (ha : 0 ≤ a) (hb : 0 ≤ b) (hc : 0 ≤ c) :
    Ending.returned (.tuple #[.int k1 a, .int k2 b, .int k3 c]) = Ending.returned (.tuple #[.int k1 r.1, .int k2 r.2.1, .int k3 r.2.2]) := by
  subst h; simp [Int.toNat_of_nonneg ha, Int.toNat_of_nonneg hb, Int.toNat_of_nonneg hc]

set_option maxHeartbeats 400000 in
set_option maxRecDepth 100000 in
theorem takeNumber_any (s : ByteArray) (p : Int) (w : World) (hs : s.size ≤ 140737488355328) :
    Calls Tryd.prog 46 #[.string s, .int .i64 p] w fun e w' => e = .returned (.tuple #[.int .u64 (Pk.takeNum s.data.toList p).1, .int .i64 (Pk.takeNum s.data.toList p).2.1, .int .i64 (Pk.takeNum s.data.toList p).2.2]) ∧ w' = w := by
  have hsz : s.data.toList.length = s.size := by simp
  by_cases hp : 0 ≤ p ∧ p ≤ s.size
  · obtain ⟨hp0, hp1⟩ := hp
    obtain ⟨a, rfl⟩ := Int.eq_ofNat_of_zero_le hp0
    have HN := takeNum_in s.data.toList a (by omega)
    have HN' : Hid (∀ (r : Nat × Nat × Nat), Pk.take (List.drop a s.data.toList) = r → Pk.takeNum s.data.toList (a : Int) = (r.1, if r.2.2 = 0 then a + r.2.1 else 0, r.2.2)) := HN
    clear HN hsz
    generalize Pk.takeNum s.data.toList (a : Int) = R at *
    have ht1 : decide ((a : Int) < 0) = false := by simp
    have ht2 : decide ((s.size : Int) < (a : Int)) = false := by simp; omega
    have ht3 : decide (s.size < a) = false := by simp; omega
    go_enter Tryd.func46, Tryd.ntmps46
    go_wp2
    go_loop [7, 18] (fun n i => ∃ k x y : Nat, k ≤ 10 ∧ i = .int .i64 k ∧ n = .int .u64 x ∧ x < 18446744073709551616 ∧ (k ≤ 9 → x = y ∧ y < 128 ^ k) ∧ a + k ≤ s.size ∧ Pk.take (s.data.toList.drop a) = Pk.takeF (10 - k) k y (s.data.toList.drop (a + k))) (fun _ i => 10 - (intOf i).toNat)
    case atStart => exact ⟨0, 0, 0, by omega, rfl, rfl, by omega, by simp, by omega, rfl⟩
    case round =>
      obtain ⟨k, x, y, hk, rfl, rfl, hx64, hx, hks, ht⟩ := hrel
      by_cases hlt : k < 10
      · obtain ⟨rfl, hxk⟩ := hx (by omega)
        clear hx
        obtain ⟨f, hf⟩ : ∃ f, 10 - k = f + 1 := ⟨9 - k, by omega⟩
        rw [hf] at ht
        have HF : Hid (10 - k = f + 1) := hf
        clear hf
        by_cases he : a + k = s.size
        · rw [show s.data.toList.drop (a + k) = [] from List.drop_eq_nil_of_le (by rw [show s.data.toList.length = s.size from by simp]; omega), Pk.takeF] at ht
          have hR := HN'.out _ ht
          have HR : Hid (R = (0, 0, 10)) := by show R = _; simpa using hR
          clear ht hR HN' hxk
          go_wp2
          go_ret3
          refine ⟨?_, rfl⟩
          rw [HR.out]; rfl
        · have hin : a + k < s.size := by omega
          rw [drop_at s (a + k) hin, Pk.takeF] at ht
          obtain ⟨z, hz64, hz⟩ := or_any x (((s[a + k]'hin).toNat : Int) % 128 * 2 ^ (7 * k)) hx64
          have hcb : (s[a + k]'hin).toNat < 256 := (s[a + k]'hin).toNat_lt
          have hzv : (k < 9 ∨ (s[a + k]'hin).toNat ≤ 1) → z = x + (s[a + k]'hin).toNat % 128 * 128 ^ k := by
            intro hor
            have hb : (s[a + k]'hin).toNat % 128 * 128 ^ k < 18446744073709551616 := by
              rcases hor with h | h
              · have : 128 ^ k ≤ 128 ^ 8 := Nat.pow_le_pow_right (by omega) (by omega)
                have h2 : (s[a + k]'hin).toNat % 128 ≤ 127 := by omega
                exact Nat.lt_of_le_of_lt (Nat.mul_le_mul h2 this) (by decide)
              · have : 128 ^ k ≤ 128 ^ 9 := Nat.pow_le_pow_right (by omega) (by omega)
                have h2 : (s[a + k]'hin).toNat % 128 ≤ 1 := by omega
                exact Nat.lt_of_le_of_lt (Nat.mul_le_mul h2 this) (by decide)
            have := or_group x ((s[a + k]'hin).toNat % 128) k (by omega) hxk hb
            rw [Int.natCast_emod] at this
            have h3 := hz.symm.trans this
            omega
          have HZ : Hid ((k < 9 ∨ (s[a + k]'hin).toNat ≤ 1) → z = x + (s[a + k]'hin).toNat % 128 * 128 ^ k) := hzv
          have HK : Hid (x < 128 ^ k) := hxk
          clear hzv hxk
          by_cases hge : 128 ≤ (s[a + k]'hin).toNat
          · rw [if_pos hge] at ht
            have HT : Hid (Pk.take (List.drop a s.data.toList) = Pk.takeF f (k + 1) (x + (s[a + k]'hin).toNat % 128 * 128 ^ k) (List.drop (a + k + 1) s.data.toList)) := ht
            clear ht
            go_wp2
            go_round
            case rel =>
              refine ⟨k + 1, z, x + (s[a + k]'hin).toNat % 128 * 128 ^ k, by omega, by go_num, rfl, hz64, ?_, by omega, ?_⟩
              · intro h9
                refine ⟨HZ.out (Or.inl (by omega)), ?_⟩
                have h2 : (s[a + k]'hin).toNat % 128 ≤ 127 := by omega
                have h3 := HK.out
                have h4 := Nat.mul_le_mul_right (128 ^ k) h2
                rw [Nat.pow_succ]; omega
              · rw [HT.out, show 10 - (k + 1) = f from by have := HF.out; omega]; rfl
            case measure => simp [intOf]; omega
          · rw [if_neg hge] at ht
            by_cases hl : (k = 9 ∧ 1 < (s[a + k]'hin).toNat) ∨ (k ≠ 0 ∧ (s[a + k]'hin).toNat = 0)
            · rw [if_pos hl] at ht
              have hR := HN'.out _ ht
              have HR : Hid (R = (0, 0, 11)) := by show R = _; simpa using hR
              have hL : lastB (k : Int) ((s[a + k]'hin).toNat : Int) = false := by
                simp only [lastB, Bool.not_eq_false', decide_eq_true_eq]; omega
              clear ht hR HN' hl
              go_wp2_with (go_at_call 50; refine (lastGroup_any _ _ _).mono ?_; rintro e w' ⟨rfl, rfl⟩)
              go_ret3
              refine ⟨?_, rfl⟩
              rw [HR.out]; rfl
            · rw [if_neg hl] at ht
              have hR := HN'.out _ ht
              have hz9 := HZ.out (by omega)
              have HR : Hid (R = (z, a + k + 1, 0)) := by
                show R = _
                rw [hR, hz9, Nat.mod_eq_of_lt (by omega)]; simp [Nat.add_assoc]
              have hL : lastB (k : Int) ((s[a + k]'hin).toNat : Int) = true := by
                simp only [lastB, Bool.not_eq_true', decide_eq_false_iff_not]; omega
              clear ht hR HN' hl hz9
              go_wp2_with (go_at_call 50; refine (lastGroup_any _ _ _).mono ?_; rintro e w' ⟨rfl, rfl⟩)
              go_ret3
              refine ⟨?_, rfl⟩
              rw [HR.out]; go_num
      · have hk10 : k = 10 := by omega
        subst hk10
        have hR := HN'.out _ ht
        have HR : Hid (R = (0, 0, 11)) := by show R = _; simpa [Pk.takeF] using hR
        clear ht hR HN' hx
        go_wp2
        go_ret3
        refine ⟨?_, rfl⟩
        rw [HR.out]; rfl
  · rw [takeNum_out _ _ (by rw [hsz]; exact hp)]
    rcases (show p < 0 ∨ (0 ≤ p ∧ (s.size : Int) < p) from by omega) with h | ⟨h, h2⟩
    all_goals
      clear hp
      go_enter Tryd.func46, Tryd.ntmps46
      go_wp2
      go_ret3
      exact ⟨rfl, rfl⟩
end Go.Proofs.YtoeibjflaiiljaaDoor
