/- Parts of these proofs, laid together. -/
import Derived.Test.YtojmhhmpmpbpfaaGreatDoorGA
import Derived.Test.YtojmhhmpmpbpfaaGreatDoorGP
import Derived.Test.YtojmhhmpmpbpfaaGreatDoorGO
namespace Go.Proofs.YtojmhhmpmpbpfaaGreatDoor
open Go.RowKit

def lastB (i c : Int) : Bool := !(decide ((i = 9 ∧ 1 < c) ∨ (i ≠ 0 ∧ c = 0)))

set_option maxHeartbeats 400000 in
theorem lastGroup_any (i c : Int) (w : World) :
    Calls Tryz.prog 110 #[.int .i64 i, .int .u8 c] w fun e w' => e = .returned (.bool (lastB i c)) ∧ w' = w := by
  by_cases a : i = 9
  · subst a
    by_cases b : 1 < c
    · go_enter Tryz.func110, Tryz.ntmps110
      go_wp2
      go_ret
      exact ⟨by simp [lastB, b], rfl⟩
    · by_cases b2 : c = 0
      · subst b2
        go_enter Tryz.func110, Tryz.ntmps110
        go_wp2
        go_ret
        exact ⟨by simp [lastB], rfl⟩
      · have b3 : (c != 0) = true := by simpa using b2
        have hl : lastB 9 c = true := by simp [lastB, b, b2]
        rw [hl]
        clear hl
        go_enter Tryz.func110, Tryz.ntmps110
        go_wp2
        go_ret
        exact ⟨rfl, rfl⟩
  · have a9 : (i == 9) = false := by simpa using a
    by_cases a0 : i = 0
    · subst a0
      go_enter Tryz.func110, Tryz.ntmps110
      go_wp2
      go_ret
      exact ⟨by simp [lastB], rfl⟩
    · have a1 : (i == 0) = false := by simpa using a0
      have hl : lastB i c = (c != 0) := by by_cases hc : c = 0 <;> simp [lastB, a, a0, hc]
      rw [hl]
      clear hl
      go_enter Tryz.func110, Tryz.ntmps110
      go_wp2
      go_ret
      exact ⟨rfl, rfl⟩

theorem or_group (x c k : Nat) (hk : k ≤ 9) (hx : x < 128 ^ k) (hc : c * 128 ^ k < 18446744073709551616) :
    bits .or .u64 (x : Int) (IntKind.u64.wrap ((c : Int) * 2 ^ (7 * k))) = ((x + c * 128 ^ k : Nat) : Int) := by
  have e : (2 : Nat) ^ (7 * k) = 128 ^ k := by rw [Nat.pow_mul]
  have e1 : ((c : Int) * 2 ^ (7 * k)) = ((c * 128 ^ k : Nat) : Int) := by rw [← e]; simp
  have hx64 : x < 18446744073709551616 := Nat.lt_of_lt_of_le hx (Nat.le_trans (Nat.pow_le_pow_right (by omega) hk) (by decide))
  rw [e1, w64 _ (by omega) (by omega), bits_or_u64_nat _ _ hx64 hc]
  have := Nat.two_pow_add_eq_or_of_lt (i := 7 * k) (b := x) (by rw [e]; exact hx) c
  rw [e, Nat.mul_comm] at this
  rw [Nat.or_comm, ← this, Nat.add_comm]

theorem or_any (x : Nat) (z : Int) (hx : x < 18446744073709551616) : ∃ y : Nat, y < 18446744073709551616 ∧ bits .or .u64 (x : Int) (IntKind.u64.wrap z) = (y : Int) := by
  have h0 : 0 ≤ IntKind.u64.wrap z := by rw [IntKind.wrap_u64]; omega
  have h1 : IntKind.u64.wrap z < 18446744073709551616 := by rw [IntKind.wrap_u64]; omega
  obtain ⟨q, hq⟩ := Int.eq_ofNat_of_zero_le h0
  rw [hq] at h1 ⊢
  refine ⟨x ||| q, ?_, bits_or_u64_nat x q hx (by omega)⟩
  exact Nat.or_lt_two_pow (n := 64) hx (by omega)

theorem drop_at (s : ByteArray) (n : Nat) (h : n < s.size) : s.data.toList.drop n = s[n] :: s.data.toList.drop (n + 1) := by
  rw [List.drop_eq_getElem_cons (by simpa using h)]; rfl

theorem takeNum_in (l : List UInt8) (a : Nat) (h : a ≤ l.length) (r : Nat × Nat × Nat) (hr : Pk.take (l.drop a) = r) :
    Pk.takeNum l (a : Int) = (r.1, if r.2.2 = 0 then a + r.2.1 else 0, r.2.2) := by
  unfold Pk.takeNum
  rw [if_pos ⟨by omega, by omega⟩, Int.toNat_natCast, hr]
theorem takeNum_out (l : List UInt8) (p : Int) (h : ¬ (0 ≤ p ∧ p ≤ l.length)) : Pk.takeNum l p = (0, 0, 2) := by
  unfold Pk.takeNum
  rw [if_neg h]
theorem ret3 {k1 k2 k3 : IntKind} {a b c : Int} {r : Nat × Nat × Nat} (h : r = (a.toNat, b.toNat, c.toNat)) (ha : 0 ≤ a) (hb : 0 ≤ b) (hc : 0 ≤ c) :
    Ending.returned (.tuple #[.int k1 a, .int k2 b, .int k3 c]) = Ending.returned (.tuple #[.int k1 r.1, .int k2 r.2.1, .int k3 r.2.2]) := by
  subst h; simp [Int.toNat_of_nonneg ha, Int.toNat_of_nonneg hb, Int.toNat_of_nonneg hc]

set_option maxHeartbeats 400000 in
set_option maxRecDepth 100000 in
theorem takeNumber_any (s : ByteArray) (p : Int) (w : World) (hs : s.size ≤ 140737488355328) :
    Calls Tryz.prog 100 #[.string s, .int .i64 p] w fun e w' => e = .returned (.tuple #[.int .u64 (Pk.takeNum s.data.toList p).1, .int .i64 (Pk.takeNum s.data.toList p).2.1, .int .i64 (Pk.takeNum s.data.toList p).2.2]) ∧ w' = w := by
  have hsz : s.data.toList.length = s.size := by simp
  by_cases hp : 0 ≤ p ∧ p ≤ s.size
  · obtain ⟨hp0, hp1⟩ := hp
    obtain ⟨a, rfl⟩ := Int.eq_ofNat_of_zero_le hp0
    have HN := takeNum_in s.data.toList a (by omega)
    have HN' : Hid (∀ (r : Nat × Nat × Nat), Pk.take (List.drop a s.data.toList) = r → Pk.takeNum s.data.toList (a : Int) = (r.1, if r.2.2 = 0 then a + r.2.1 else 0, r.2.2)) := HN
    clear HN hsz
    generalize Pk.takeNum s.data.toList (a : Int) = R at *
    have ht1 : decide ((a : Int) < 0) = false := by simp
    have ht2 : decide ((s.size : Int) < (a : Int)) = false := by simp; omega
    have ht3 : decide (s.size < a) = false := by simp; omega
    go_enter Tryz.func100, Tryz.ntmps100
    go_wp2
    go_loop [7, 18] (fun n i => ∃ k x y : Nat, k ≤ 10 ∧ i = .int .i64 k ∧ n = .int .u64 x ∧ x < 18446744073709551616 ∧ (k ≤ 9 → x = y ∧ y < 128 ^ k) ∧ a + k ≤ s.size ∧ Pk.take (s.data.toList.drop a) = Pk.takeF (10 - k) k y (s.data.toList.drop (a + k))) (fun _ i => 10 - (intOf i).toNat)
    case atStart => exact ⟨0, 0, 0, by omega, rfl, rfl, by omega, by simp, by omega, rfl⟩
    case round =>
      obtain ⟨k, x, y, hk, rfl, rfl, hx64, hx, hks, ht⟩ := hrel
      by_cases hlt : k < 10
      · obtain ⟨rfl, hxk⟩ := hx (by omega)
        clear hx
        obtain ⟨f, hf⟩ : ∃ f, 10 - k = f + 1 := ⟨9 - k, by omega⟩
        rw [hf] at ht
        have HF : Hid (10 - k = f + 1) := hf
        clear hf
        by_cases he : a + k = s.size
        · rw [show s.data.toList.drop (a + k) = [] from List.drop_eq_nil_of_le (by rw [show s.data.toList.length = s.size from by simp]; omega), Pk.takeF] at ht
          have hR := HN'.out _ ht
          have HR : Hid (R = (0, 0, 10)) := by show R = _; simpa using hR
          clear ht hR HN' hxk
          go_wp2
          go_ret3
          refine ⟨?_, rfl⟩
          rw [HR.out]; rfl
        · have hin : a + k < s.size := by omega
          rw [drop_at s (a + k) hin, Pk.takeF] at ht
          obtain ⟨z, hz64, hz⟩ := or_any x (((s[a + k]'hin).toNat : Int) % 128 * 2 ^ (7 * k)) hx64
          have hcb : (s[a + k]'hin).toNat < 256 := (s[a + k]'hin).toNat_lt
          have hzv : (k < 9 ∨ (s[a + k]'hin).toNat ≤ 1) → z = x + (s[a + k]'hin).toNat % 128 * 128 ^ k := by
            intro hor
            have hb : (s[a + k]'hin).toNat % 128 * 128 ^ k < 18446744073709551616 := by
              rcases hor with h | h
              · have : 128 ^ k ≤ 128 ^ 8 := Nat.pow_le_pow_right (by omega) (by omega)
                have h2 : (s[a + k]'hin).toNat % 128 ≤ 127 := by omega
                exact Nat.lt_of_le_of_lt (Nat.mul_le_mul h2 this) (by decide)
              · have : 128 ^ k ≤ 128 ^ 9 := Nat.pow_le_pow_right (by omega) (by omega)
                have h2 : (s[a + k]'hin).toNat % 128 ≤ 1 := by omega
                exact Nat.lt_of_le_of_lt (Nat.mul_le_mul h2 this) (by decide)
            have := or_group x ((s[a + k]'hin).toNat % 128) k (by omega) hxk hb
            rw [Int.natCast_emod] at this
            have h3 := hz.symm.trans this
            omega
          have HZ : Hid ((k < 9 ∨ (s[a + k]'hin).toNat ≤ 1) → z = x + (s[a + k]'hin).toNat % 128 * 128 ^ k) := hzv
          have HK : Hid (x < 128 ^ k) := hxk
          clear hzv hxk
          by_cases hge : 128 ≤ (s[a + k]'hin).toNat
          · rw [if_pos hge] at ht
            have HT : Hid (Pk.take (List.drop a s.data.toList) = Pk.takeF f (k + 1) (x + (s[a + k]'hin).toNat % 128 * 128 ^ k) (List.drop (a + k + 1) s.data.toList)) := ht
            clear ht
            go_wp2
            go_round
            case rel =>
              refine ⟨k + 1, z, x + (s[a + k]'hin).toNat % 128 * 128 ^ k, by omega, by go_num, rfl, hz64, ?_, by omega, ?_⟩
              · intro h9
                refine ⟨HZ.out (Or.inl (by omega)), ?_⟩
                have h2 : (s[a + k]'hin).toNat % 128 ≤ 127 := by omega
                have h3 := HK.out
                have h4 := Nat.mul_le_mul_right (128 ^ k) h2
                rw [Nat.pow_succ]; omega
              · rw [HT.out, show 10 - (k + 1) = f from by have := HF.out; omega]; rfl
            case measure => simp [intOf]; omega
          · rw [if_neg hge] at ht
            by_cases hl : (k = 9 ∧ 1 < (s[a + k]'hin).toNat) ∨ (k ≠ 0 ∧ (s[a + k]'hin).toNat = 0)
            · rw [if_pos hl] at ht
              have hR := HN'.out _ ht
              have HR : Hid (R = (0, 0, 11)) := by show R = _; simpa using hR
              have hL : lastB (k : Int) ((s[a + k]'hin).toNat : Int) = false := by
                simp only [lastB, Bool.not_eq_false', decide_eq_true_eq]; omega
              clear ht hR HN' hl
              go_wp2_with (go_at_call 110; refine (lastGroup_any _ _ _).mono ?_; rintro e w' ⟨rfl, rfl⟩)
              go_ret3
              refine ⟨?_, rfl⟩
              rw [HR.out]; rfl
            · rw [if_neg hl] at ht
              have hR := HN'.out _ ht
              have hz9 := HZ.out (by omega)
              have HR : Hid (R = (z, a + k + 1, 0)) := by
                show R = _
                rw [hR, hz9, Nat.mod_eq_of_lt (by omega)]; simp [Nat.add_assoc]
              have hL : lastB (k : Int) ((s[a + k]'hin).toNat : Int) = true := by
                simp only [lastB, Bool.not_eq_true', decide_eq_false_iff_not]; omega
              clear ht hR HN' hl hz9
              go_wp2_with (go_at_call 110; refine (lastGroup_any _ _ _).mono ?_; rintro e w' ⟨rfl, rfl⟩)
              go_ret3
              refine ⟨?_, rfl⟩
              rw [HR.out]; go_num
      · have hk10 : k = 10 := by omega
        subst hk10
        have hR := HN'.out _ ht
        have HR : Hid (R = (0, 0, 11)) := by show R = _; simpa [Pk.takeF] using hR
        clear ht hR HN' hx
        go_wp2
        go_ret3
        refine ⟨?_, rfl⟩
        rw [HR.out]; rfl
  · rw [takeNum_out _ _ (by rw [hsz]; exact hp)]
    rcases (show p < 0 ∨ (0 ≤ p ∧ (s.size : Int) < p) from by omega) with h | ⟨h, h2⟩
    all_goals
      clear hp
      go_enter Tryz.func100, Tryz.ntmps100
      go_wp2
      go_ret3
      exact ⟨rfl, rfl⟩
end Go.Proofs.YtojmhhmpmpbpfaaGreatDoor
namespace Go.Proofs.YtojmhhmpmpbpfaaGreatDoor
open Go.RowKit

theorem ext_dat (s : ByteArray) (a n : Nat) : (s.extract a (a + n)).data.toList = (s.data.toList.drop a).take n := by
  rw [Lib.extract_data]; simp

set_option maxHeartbeats 1000000 in
set_option maxRecDepth 100000 in
theorem bodyEnds_any (s : ByteArray) (p v : Int) (w : World) (hs : s.size ≤ 140737488355328) :
    Calls Tryz.prog 79 #[.string s, .int .i64 p, .int .i64 v] w fun e w' => e = .returned (.tuple #[.int .i64 (Sl.endsE s.data.toList p v).1, .int .i64 (Sl.endsE s.data.toList p v).2.1, .int .i64 (Sl.endsE s.data.toList p v).2.2]) ∧ Gr w w' := by
  have hsz : s.data.toList.length = s.size := by simp
  have HC : Hid (∀ w : World, Calls Tryz.prog 99 #[.string s, .int .i64 p, .int .i64 v] w fun e w' => e = .returned (.int .i64 (Sl.headE s.data.toList p v : Nat)) ∧ w' = w) := fun w => checkHead_any s p v w
  by_cases h0 : Sl.headE s.data.toList p v = 0
  · obtain ⟨ha, _, _, hb, _⟩ := Sl.head_ok _ _ _ h0
    have HT : Hid (∀ w : World, Calls Tryz.prog 100 #[.string s, .int .i64 (p + 2)] w fun e w' => e = .returned (.tuple #[.int .u64 (Pk.takeNum s.data.toList (p + 2)).1, .int .i64 (Pk.takeNum s.data.toList (p + 2)).2.1, .int .i64 (Pk.takeNum s.data.toList (p + 2)).2.2]) ∧ w' = w) := fun w => takeNumber_any s (p + 2) w hs
    have hsp := Pk.takeNum_spec s.data.toList (p + 2)
    have HD : Hid (Sl.endsE s.data.toList p v = if (Pk.takeNum s.data.toList (p + 2)).2.2 = 0 then
      (if (Pk.takeNum s.data.toList (p + 2)).1 ≤ 30000 then
        (if (Pk.takeNum s.data.toList (p + 2)).2.1 + (Pk.takeNum s.data.toList (p + 2)).1 + 8 ≤ s.data.toList.length then ((Pk.takeNum s.data.toList (p + 2)).2.1, (Pk.takeNum s.data.toList (p + 2)).2.1 + (Pk.takeNum s.data.toList (p + 2)).1, 0) else (0, 0, 10))
      else (0, 0, 3))
      else (0, 0, (Pk.takeNum s.data.toList (p + 2)).2.2)) := by
      show _ = _
      rw [Sl.endsE, if_pos h0]
    rw [h0] at HC
    obtain ⟨⟨n, f, e⟩, ht⟩ : ∃ r, Pk.takeNum s.data.toList (p + 2) = r := ⟨_, rfl⟩
    rw [ht] at HT HD hsp
    simp only at HT HD hsp
    by_cases he : e = 0
    · subst he
      have hb1 : n < 18446744073709551616 ∧ f ≤ s.size := by
        rcases hsp with h | h | h | h <;> simp at h <;> omega
      obtain ⟨hn, hf⟩ := hb1
      clear hsp
      by_cases hn3 : n ≤ 30000
      · by_cases hl : f + n + 8 ≤ s.size
        · have HE : Hid (Sl.endsE s.data.toList p v = (f, f + n, 0)) := by
            show _ = _
            rw [HD.out, if_pos rfl, if_pos hn3, if_pos (by omega)]
          go_enter Tryz.func79, Tryz.ntmps79
          go_wp2_with fail
          refine (HC.out _).mono ?_
          rintro e w1 ⟨rfl, rfl⟩
          go_wp2_with fail
          refine (HT.out _).mono ?_
          rintro e w1 ⟨rfl, rfl⟩
          go_wp2
          go_ret3
          rw [HE.out]
          exact ⟨by go_num, Gr.refl _⟩
        · have HE : Hid (Sl.endsE s.data.toList p v = (0, 0, 10)) := by
            show _ = _
            rw [HD.out, if_pos rfl, if_pos hn3, if_neg (by omega)]
          have hlt : (s.size : Int) - ((f : Int) + (n : Int)) < 8 := by omega
          go_enter Tryz.func79, Tryz.ntmps79
          go_wp2_with fail
          refine (HC.out _).mono ?_
          rintro e w1 ⟨rfl, rfl⟩
          go_wp2_with fail
          refine (HT.out _).mono ?_
          rintro e w1 ⟨rfl, rfl⟩
          go_wp2
          go_ret3
          rw [HE.out]
          exact ⟨rfl, Gr.refl _⟩
      · have HE : Hid (Sl.endsE s.data.toList p v = (0, 0, 3)) := by
          show _ = _
          rw [HD.out, if_pos rfl, if_neg hn3]
        have hlt : (30000 : Int) < (n : Int) := by omega
        go_enter Tryz.func79, Tryz.ntmps79
        go_wp2_with fail
        refine (HC.out _).mono ?_
        rintro e w1 ⟨rfl, rfl⟩
        go_wp2_with fail
        refine (HT.out _).mono ?_
        rintro e w1 ⟨rfl, rfl⟩
        go_wp2
        go_ret3
        rw [HE.out]
        exact ⟨rfl, Gr.refl _⟩
    · have HE : Hid (Sl.endsE s.data.toList p v = (0, 0, e)) := by
        show _ = _
        rw [HD.out, if_neg he]
      have hne : ((e : Int) != 0) = true := by rw [bne_iff_ne]; omega
      clear hsp
      go_enter Tryz.func79, Tryz.ntmps79
      go_wp2_with fail
      refine (HC.out _).mono ?_
      rintro e w1 ⟨rfl, rfl⟩
      go_wp2_with fail
      refine (HT.out _).mono ?_
      rintro e w1 ⟨rfl, rfl⟩
      go_wp2
      go_ret3
      rw [HE.out]
      exact ⟨rfl, Gr.refl _⟩
  · have HE : Hid (Sl.endsE s.data.toList p v = (0, 0, Sl.headE s.data.toList p v)) := by
      show _ = _
      rw [Sl.endsE, if_neg h0]
    have hne : ((Sl.headE s.data.toList p v : Int) != 0) = true := by rw [bne_iff_ne]; omega
    generalize Sl.headE s.data.toList p v = hd at *
    go_enter Tryz.func79, Tryz.ntmps79
    go_wp2_with fail
    refine (HC.out _).mono ?_
    rintro e w1 ⟨rfl, rfl⟩
    go_wp2
    go_ret3
    rw [HE.out]
    exact ⟨rfl, Gr.refl _⟩

theorem toList_data (s : ByteArray) : s.toList = s.data.toList := by
  have := ByteArray.toList_eq s
  exact this

theorem strsAt1 {w : World} {b : Nat} {s : ByteArray} (h0 : w.cell? ⟨b, 0, none⟩ = some (.string s)) : StrsAt w (some ⟨b, 0, none⟩) [s] := by
  intro j hj
  match j, hj with
  | 0, _ => exact ⟨b, 0, rfl, World.block_lt_of_cell? w _ h0, h0⟩

set_option maxHeartbeats 1000000 in
set_option maxRecDepth 100000 in
theorem open_any (s : ByteArray) (p v : Int) (w : World) (hT : Tab w) (hs : s.size ≤ 140737488355328) :
    Calls Tryz.prog 57 #[.string s, .int .i64 p, .int .i64 v] w fun e w' => e = .returned (.tuple #[.string ⟨(Sl.openE s.data.toList p v).1.toArray⟩, .int .i64 (Sl.openE s.data.toList p v).2.1, .int .i64 (Sl.openE s.data.toList p v).2.2]) ∧ Gr w w' := by
  have hsz : s.data.toList.length = s.size := by simp
  have HC : Hid (∀ w : World, Calls Tryz.prog 79 #[.string s, .int .i64 p, .int .i64 v] w fun e w' => e = .returned (.tuple #[.int .i64 (Sl.endsE s.data.toList p v).1, .int .i64 (Sl.endsE s.data.toList p v).2.1, .int .i64 (Sl.endsE s.data.toList p v).2.2]) ∧ Gr w w') := fun w => bodyEnds_any s p v w hs
  obtain ⟨R, HO⟩ : ∃ R, R = Sl.openE s.data.toList p v := ⟨_, rfl⟩
  rw [← HO]
  have hle := Sl.ends_le s.data.toList p v
  have hhd : (Sl.endsE s.data.toList p v).2.2 = 0 → 0 ≤ p := fun h => (Sl.head_ok _ _ _ (Sl.ends_ok s.data.toList p v _ _ (by rw [← h])).1).1
  unfold Sl.openE at HO
  obtain ⟨⟨f, t, e⟩, ht⟩ : ∃ r, Sl.endsE s.data.toList p v = r := ⟨_, rfl⟩
  rw [ht] at HC HO hle hhd
  simp only at HC HO hle hhd
  by_cases he : e = 0
  · subst he
    obtain ⟨h1, h2, h3, h4⟩ := hle rfl
    obtain ⟨a, rfl⟩ := Int.eq_ofNat_of_zero_le (hhd rfl)
    have hta : ((a : Nat) : Int).toNat = a := by omega
    rw [hta] at h1 HO
    rw [if_pos rfl] at HO
    clear hle hhd hta
    have hat : a ≤ t := by omega
    have hx1 : (s.extract t (t + 8)).toList = (s.data.toList.drop t).take 8 := by
      rw [← ext_dat s t 8]; exact toList_data _
    have hx2 : s.extract a t = ⟨((s.data.toList.drop a).take (t - a)).toArray⟩ := by
      have := ext_dat s a (t - a)
      rw [Nat.add_sub_cancel' hat] at this
      rw [← this]
    have hx3 : s.extract f t = ⟨((s.data.toList.drop f).take (t - f)).toArray⟩ := by
      have := ext_dat s f (t - f)
      rw [Nat.add_sub_cancel' h2] at this
      rw [← this]
    have HS : Hid (∀ (w' : World) (k : Nat), Gr w w' → w'.cell? ⟨k, 0, none⟩ = some (.string (s.extract a t)) →
          Calls Tryz.prog 81 #[.slice (some ⟨k, 0, none⟩) 1 1] w' fun e w2 => e = .returned (.int .u64 (Sl.sum ((s.data.toList.drop a).take (t - a)) : Nat)) ∧ w2 = w') := by
      intro w' k g h0
      have := sum_any [s.extract a t] (some ⟨k, 0, none⟩) 1 w' (hT.gr g) (strsAt1 h0) (by simp) (by
        intro s' hs'
        simp at hs'
        subst hs'
        simp; omega)
      have e : flat [s.extract a t] = (s.data.toList.drop a).take (t - a) := by rw [hx2]; simp [flat]
      rw [e] at this
      exact this
    have HL : Hid (∀ w : World, Calls Tryz.prog 80 #[.int .u64 (Sl.sum ((s.data.toList.drop a).take (t - a)) : Nat)] w fun e w' => e = .returned (.string ⟨(Sl.eight (Sl.sum ((s.data.toList.drop a).take (t - a)))).toArray⟩) ∧ Gr w w') := fun w => laidSum_any _ w
    have HK : Hid (∀ w : World, Calls Tryz.prog 31 #[.string (s.extract f t)] w fun e w' => e = .returned (.string (s.extract f t)) ∧ Gr w w') := fun w => sclone_any _ w (by simp; omega)
    have hb1 : (0 : Int) ≤ (t : Int) := by omega
    have hb2 : (t : Int) ≤ (t : Int) + 8 := by omega
    have hb3 : (t : Int) + 8 ≤ (s.size : Int) := by omega
    have hb4 : ((t : Int) + 8).toNat = t + 8 := by omega
    have hb5 : (0 : Int) ≤ (t : Int) + 8 := by omega
    have hb6 : (a : Int) ≤ (t : Int) := by omega
    have hb7 : (t : Int) ≤ (s.size : Int) := by omega
    have hb8 : (0 : Int) ≤ (a : Int) := by omega
    have HX3 : Hid (s.extract f t = ⟨((s.data.toList.drop f).take (t - f)).toArray⟩) := hx3
    clear hx2 hx3
    generalize Sl.eight (Sl.sum ((s.data.toList.drop a).take (t - a))) = e8 at *
    generalize Sl.sum ((s.data.toList.drop a).take (t - a)) = sm at *
    by_cases hq : (s.data.toList.drop t).take 8 = e8
    · rw [if_pos hq] at HO
      have HR : Hid (R = _) := HO
      clear HO
      have hqb : ((s.data.toList.drop t).take 8 == e8) = true := by rw [hq]; simp
      clear hq
      go_enter Tryz.func57, Tryz.ntmps57
      go_wp2_with fail
      refine (HC.out _).mono ?_
      rintro e w1 ⟨rfl, hg1⟩
      go_wp2_with fail
      go_region_held3 (fun _ => True) (trivial) ((first | (go_at_call 81; refine (HS.out _ _ (by exact (by repeat (first | exact Gr.refl _ | refine Gr.alloc ?_ | refine Gr.drew ?_ | refine Gr.trans ?_ (by assumption)))) (by simp)).mono ?_; rintro e w2 ⟨rfl, rfl⟩) | (go_at_call 80; refine (HL.out _).mono ?_; rintro e w3 ⟨rfl, hg3⟩)))
      all_goals go_wp2_with fail
      all_goals refine (HK.out _).mono ?_
      all_goals rintro e w4 ⟨rfl, hg4⟩
      all_goals go_wp2
      all_goals go_ret3
      all_goals refine ⟨?_, (by repeat (first | exact Gr.refl _ | refine Gr.alloc ?_ | refine Gr.drew ?_ | refine Gr.trans ?_ (by assumption)))⟩
      all_goals rw [HR.out, HX3.out]
      all_goals rfl
    · rw [if_neg hq] at HO
      have HR : Hid (R = _) := HO
      clear HO
      have hqb : ((s.data.toList.drop t).take 8 == e8) = false := by simpa using hq
      clear hq
      go_enter Tryz.func57, Tryz.ntmps57
      go_wp2_with fail
      refine (HC.out _).mono ?_
      rintro e w1 ⟨rfl, hg1⟩
      go_wp2_with fail
      go_region_held3 (fun _ => True) (trivial) ((first | (go_at_call 81; refine (HS.out _ _ (by exact (by repeat (first | exact Gr.refl _ | refine Gr.alloc ?_ | refine Gr.drew ?_ | refine Gr.trans ?_ (by assumption)))) (by simp)).mono ?_; rintro e w2 ⟨rfl, rfl⟩) | (go_at_call 80; refine (HL.out _).mono ?_; rintro e w3 ⟨rfl, hg3⟩)))
      all_goals go_wp2
      all_goals go_ret3
      all_goals refine ⟨?_, (by repeat (first | exact Gr.refl _ | refine Gr.alloc ?_ | refine Gr.drew ?_ | refine Gr.trans ?_ (by assumption)))⟩
      all_goals rw [HR.out]
      all_goals rfl
  · rw [if_neg he] at HO
    have HR : Hid (R = _) := HO
    clear HO
    have hne : ((e : Int) != 0) = true := by rw [bne_iff_ne]; omega
    clear hle hhd
    go_enter Tryz.func57, Tryz.ntmps57
    go_wp2_with fail
    refine (HC.out _).mono ?_
    rintro e w1 ⟨rfl, hg1⟩
    go_wp2
    go_ret3
    rw [HR.out]
    exact ⟨rfl, (by repeat (first | exact Gr.refl _ | refine Gr.alloc ?_ | refine Gr.drew ?_ | refine Gr.trans ?_ (by assumption)))⟩
end Go.Proofs.YtojmhhmpmpbpfaaGreatDoor
