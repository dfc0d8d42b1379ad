/- Parts of these proofs, laid together. -/
import Derived.Test.YtcmbppjfpdkblaaGreatDoorGF
import Derived.Test.YtcmbppjfpdkblaaGreatDoorGD
import Derived.Test.YtcmbppjfpdkblaaGreatDoorGG
import Derived.Test.YtcmbppjfpdkblaaGreatDoorGE
/- The document's eight lays Sl.eight. -/
namespace Go.Proofs.YtcmbppjfpdkblaaGreatDoor
open Go.RowKit

set_option maxHeartbeats 400000 in
set_option maxRecDepth 100000 in
theorem eight_any (n : Nat) (w : World) (hn : n < 18446744073709551616) :
    Calls Tryz.prog 65 #[.int .u64 n] w fun e w' => e = .returned (.string ⟨(Sl.eight n).toArray⟩) ∧ Gr w w' := by
  obtain ⟨i0, hi, hz0, hz1, hz2⟩ := info_parts info5
  have hcv := fun v' (w1 : World) (h : w1.ownsRow w.heap.size 5 1 v' 8 (Lib.byteCells (Sl.eight n))) => own_string (l := Sl.eight n) (w := w1) (v := v') (n := 8) (base := w.heap.size) h (by intro e; have := Sl.eight_len n; rw [e] at this; cases this)
  have HC : Hid (∀ v' (w1 : World), w1.ownsRow w.heap.size 5 1 v' 8 (Lib.byteCells (Sl.eight n)) → (convert 90 9 v').run Tryz.prog w1 = .ok (.string ⟨(Sl.eight n).toArray⟩) w1) := hcv
  clear hcv
  go_enter Tryz.func65, Tryz.ntmps65
  go_wp2
  go_loopw [0, 3, 4] (fun m v i wr => ∃ k : Nat, k ≤ 8 ∧ i = .int .i64 k ∧ m = .int .u64 (n / 256 ^ k : Nat) ∧ wr.ownsRow w.heap.size 5 1 v k (Lib.byteCells (Sl.eightF k n)) ∧ Below w.heap.size w wr)
    (fun _ _ i _ => 8 - (intOf i).toNat)
  case atStart => exact ⟨0, by omega, rfl, by simp, World.ownsRow_nil _ _ _ _, Below.refl _ _⟩
  case round =>
    obtain ⟨k, hk, rfl, rfl, hown, hb⟩ := hrel
    have hbs := hb.size
    by_cases hlt : k < 8
    · have hm1 : k + 1 ≤ maxLen := by unfold maxLen; omega
      have hx : n / 256 ^ k < 18446744073709551616 := Nat.lt_of_le_of_lt (Nat.div_le_self _ _) hn
      have HE : Hid (n / 256 ^ (k + 1) = n / 256 ^ k / 256) := by show _ = _; rw [Nat.div_div_eq_div_mul, Nat.pow_succ]
      have HS := Sl.eightF_snoc k n
      have HS2 : Hid (Lib.byteCells (Sl.eightF (k + 1) n) = Lib.byteCells (Sl.eightF k n) ++ [.int .u8 ((n / 256 ^ k : Nat) % 256 : Int)]) := by
        show _ = _
        rw [HS, byteCells_snoc]
        generalize n / 256 ^ k = m
        simp
      clear HS
      generalize n / 256 ^ k = x at *
      go_wp2_with (first
        | (at_builtin; refine wpList_append_own _ rfl _ _ 90 rfl w.heap.size 5 i0 (.int .u8 0) 1 1 Tryz.underlying90 hi hz0 hz1 hz2 rfl (by decide) _ _ _ rfl (hown.alloc _) ⟨wr.heap.size, 0, none⟩ 1 1 [.int .u8 ((x : Int) % 256)] rfl rfl (cell_one_new _ _ _) (by intro u hu; simp at hu; subst hu; rfl) hm1 (by omega) (by simp; omega) ?_)
        | fail)
      intro v' w1 hown' hgrow _
      go_wp2
      go_roundw
      case rel =>
        refine ⟨k + 1, by omega, by go_num, by rw [HE.out]; go_num, by rw [HS2.out]; exact hown', (hb.alloc hbs _).grown hgrow (by simp; omega) (fun k hk => (hown.lt k hk).1)⟩
      case measure => simp [intOf]; omega
    · have hk8 : k = 8 := by omega
      subst hk8
      have hc1 := HC.out _ wr hown
      clear HC
      go_wp2
      go_ret
      exact ⟨rfl, ⟨hb⟩⟩
end Go.Proofs.YtcmbppjfpdkblaaGreatDoor
/- The document's Sum reckons Sl.sum. -/
namespace Go.Proofs.YtcmbppjfpdkblaaGreatDoor
open Go.RowKit

set_option maxHeartbeats 1000000 in
set_option maxRecDepth 100000 in
theorem refSum_any (s : ByteArray) (w : World) (hs : s.size ≤ 9223372036854775807) :
    Calls Tryz.prog 66 #[.string s] w fun e w' => e = .returned (.int .u64 (Sl.sum s.data.toList : Nat)) ∧ w' = w := by
  have hl : s.data.toList.length = s.size := by simp
  go_enter Tryz.func66, Tryz.ntmps66
  go_wp2
  go_loop [3, 4] (fun r i => ∃ j x : Nat, j ≤ s.size ∧ x < 18446744073709551616 ∧ i = .int .i64 j ∧ r = .int .u64 x ∧ x = Sl.crc Sl.ones (s.data.toList.take j)) (fun _ i => s.size - (intOf i).toNat)
  case atStart => exact ⟨0, 18446744073709551615, by omega, by omega, rfl, rfl, rfl⟩
  case round =>
    obtain ⟨j, x, hj, hx, rfl, rfl, hp⟩ := hrel
    have HP : Hid (x = Sl.crc Sl.ones (s.data.toList.take j)) := hp
    clear hp
    by_cases hlt : j < s.size
    · have h8 : (s[j]'hlt).toNat < 256 := (s[j]'hlt).toNat_lt
      have HN : Hid (Sl.crc Sl.ones (s.data.toList.take (j + 1)) = Sl.zs 8 (x ^^^ (s[j]'hlt).toNat)) := by
        show _ = _
        rw [List.take_succ_eq_append_getElem (by rw [hl]; exact hlt), Sl.crc_snoc, ← HP.out]; rfl
      go_wp2
      go_loop [3, 5] (fun r i => ∃ k y : Nat, k ≤ 8 ∧ y < 18446744073709551616 ∧ i = .int .i64 k ∧ r = .int .u64 y ∧ y = Sl.zs k (x ^^^ ((s[j]'hlt).toNat % 2 ^ k))) (fun _ i => 8 - (intOf i).toNat)
      case atStart => exact ⟨0, x, by omega, hx, rfl, rfl, by simp [Sl.zs, Nat.mod_one]⟩
      case round =>
        obtain ⟨k, y, hk, hy, rfl, rfl, hq⟩ := hrel
        have HQ : Hid (y = Sl.zs k (x ^^^ ((s[j]'hlt).toNat % 2 ^ k))) := hq
        clear hq
        by_cases hlt2 : k < 8
        · have HB : Hid (Sl.zs (k + 1) (x ^^^ ((s[j]'hlt).toNat % 2 ^ (k + 1))) = (y / 2) ^^^ (if y % 2 ≠ (s[j]'hlt).toNat / 2 ^ k % 2 then Sl.poly else 0)) := by
            show _ = _
            rw [Sl.zs_bit, ← HQ.out, Sl.z_bit _ _ (by omega)]
          have hdv : (s[j]'hlt).toNat / 2 ^ k < 256 := Nat.lt_of_le_of_lt (Nat.div_le_self _ _) h8
          have hwr : (IntKind.u64.wrap (((s[j]'hlt).toNat : Int) / 2 ^ k)).tmod 2 = (((s[j]'hlt).toNat / 2 ^ k % 2 : Nat) : Int) := by
            have e : ((s[j]'hlt).toNat : Int) / 2 ^ k = (((s[j]'hlt).toNat / 2 ^ k : Nat) : Int) := by simp
            rw [e]
            generalize (s[j]'hlt).toNat / 2 ^ k = q at *
            rw [w64 _ (by omega) (by omega), Int.tmod_eq_emod_of_nonneg (by omega)]; omega
          have hp2 := bits_xor_u64_nat (y / 2) Sl.poly (by omega) (by decide)
          by_cases hd : y % 2 = (s[j]'hlt).toNat / 2 ^ k % 2
          · have hb : ((y : Int) % 2 != (IntKind.u64.wrap (((s[j]'hlt).toNat : Int) / 2 ^ k)).tmod 2) = false := by
              have e : (y : Int) % 2 = (((s[j]'hlt).toNat / 2 ^ k % 2 : Nat) : Int) := by rw [← hd]; omega
              rw [hwr, e]; exact bne_self_eq_false _
            have HE : Hid (Sl.zs (k + 1) (x ^^^ ((s[j]'hlt).toNat % 2 ^ (k + 1))) = y / 2) := by
              show _ = _
              rw [HB.out, if_neg (by simpa using hd)]; simp
            clear hwr hp2 hdv
            go_wp2
            go_round
            case rel => exact ⟨k + 1, y / 2, by omega, by omega, by go_num, by go_num, HE.out.symm⟩
            case measure => simp [intOf]; omega
          · have hb : ((y : Int) % 2 != (IntKind.u64.wrap (((s[j]'hlt).toNat : Int) / 2 ^ k)).tmod 2) = true := by
              rw [hwr, bne_iff_ne]
              intro h
              have e : ((y % 2 : Nat) : Int) = (((s[j]'hlt).toNat / 2 ^ k % 2 : Nat) : Int) := by rw [← h]; omega
              exact hd (Int.ofNat_inj.1 e)
            have HE : Hid (Sl.zs (k + 1) (x ^^^ ((s[j]'hlt).toNat % 2 ^ (k + 1))) = (y / 2) ^^^ Sl.poly) := by
              show _ = _
              rw [HB.out, if_pos hd]
            have HP2 : Hid (bits .xor .u64 ((y : Int) / 2) 14514072000185962306 = (((y / 2) ^^^ Sl.poly : Nat) : Int)) := by
              show _ = _
              have e : (y : Int) / 2 = ((y / 2 : Nat) : Int) := by omega
              rw [e]; exact hp2
            clear hwr hp2 hdv
            go_wp2
            go_round
            case rel => exact ⟨k + 1, (y / 2) ^^^ Sl.poly, by omega, Nat.xor_lt_two_pow (n := 64) (by omega) (by decide), by go_num, by rw [HP2.out], HE.out.symm⟩
            case measure => simp [intOf]; omega
        · have HR : Hid (Sl.crc Sl.ones (s.data.toList.take (j + 1)) = y) := by
            show _ = _
            have hk8 : k = 8 := by omega
            subst hk8
            rw [HN.out, HQ.out, Nat.mod_eq_of_lt (by simpa using h8)]
          go_wp2
          go_round
          case rel => exact ⟨j + 1, y, by omega, hy, by go_num, rfl, HR.out.symm⟩
          case measure => simp [intOf]; omega
    · have hjl : j = s.size := by omega
      have HR : Hid (Sl.sum s.data.toList = 18446744073709551615 - x) := by
        show _ = _
        rw [HP.out, hjl, ← hl, List.take_length]; rfl
      go_wp2
      go_ret
      rw [HR.out]
      exact ⟨by go_num, rfl⟩
end Go.Proofs.YtcmbppjfpdkblaaGreatDoor
/- The document's Seal answers Sl.sealE. -/
namespace Go.Proofs.YtcmbppjfpdkblaaGreatDoor
open Go.RowKit

set_option maxHeartbeats 1000000 in
set_option maxRecDepth 100000 in
theorem refSeal_any (v : Int) (b : ByteArray) (w : World) (hs : b.size ≤ 9223372036854775807) :
    Calls Tryz.prog 42 #[.int .i64 v, .string b] w fun e w' => e = .returned (.tuple #[.string ⟨(Sl.sealE v b.data.toList).1.toArray⟩, .int .i64 (Sl.sealE v b.data.toList).2]) ∧ Gr w w' := by
  have hsz : b.data.toList.length = b.size := by simp
  by_cases hv : 0 ≤ v ∧ v ≤ 255
  · have hv0 : decide (v < 0) = false := decide_eq_false (by omega)
    have hv1 : decide (255 < v) = false := decide_eq_false (by omega)
    by_cases hb : b.size ≤ 30000
    · have HE : Hid (Sl.sealE v b.data.toList = (Sl.front v.toNat b.data.toList ++ Sl.eight (Sl.sum (Sl.front v.toNat b.data.toList)), 0)) := by
        show _ = _
        rw [Sl.sealE, if_pos hv, if_pos (by omega)]; rfl
      obtain ⟨x, hx⟩ : ∃ x : Nat, v = (x : Int) := ⟨v.toNat, by omega⟩
      subst hx
      have hx : x < 256 := by omega
      have hfl := Sl.front_len x b.data.toList
      have hnl := Pk.num_len b.data.toList.length
      have htl : (Pk.text b.data.toList).length = (Pk.num b.data.toList.length).length + b.data.toList.length := by unfold Pk.text; exact List.length_append
      have HX : Hid (∀ w : World, Calls Tryz.prog 41 #[.string b] w fun e w' => e = .returned (.string ⟨(Pk.text b.data.toList).toArray⟩) ∧ Gr w w') := fun w => refText_any b w (by omega)
      have HS : Hid (∀ (w' : World), Calls Tryz.prog 66 #[.string ⟨(Sl.front x b.data.toList).toArray⟩] w' fun e w2 => e = .returned (.int .u64 (Sl.sum (Sl.front x b.data.toList) : Nat)) ∧ w2 = w') := by
        intro w'
        have := refSum_any ⟨(Sl.front x b.data.toList).toArray⟩ w' (by simp [ByteArray.size]; omega)
        simpa using this
      have hsl := Sl.sum_lt (Sl.front x b.data.toList)
      have HL : Hid (∀ w : World, Calls Tryz.prog 65 #[.int .u64 (Sl.sum (Sl.front x b.data.toList) : Nat)] w fun e w' => e = .returned (.string ⟨(Sl.eight (Sl.sum (Sl.front x b.data.toList))).toArray⟩) ∧ Gr w w') := fun w => eight_any _ w hsl
      have hel := Sl.eight_len (Sl.sum (Sl.front x b.data.toList))
      have ha1 := add_lists [231, UInt8.ofNat x] (Pk.text b.data.toList) (by simp only [List.length_cons, List.length_nil]; omega)
      have ha2 := add_lists (Sl.front x b.data.toList) (Sl.eight (Sl.sum (Sl.front x b.data.toList))) (by omega)
      have hfd : [231, UInt8.ofNat x] ++ Pk.text b.data.toList = Sl.front x b.data.toList := rfl
      rw [hfd] at ha1
      have hcv := fun w k => conv2 w k x hx
      have hw8 := w8 (x : Int) (by omega) (by omega)
      have htn : ((x : Nat) : Int).toNat = x := by omega
      rw [htn] at HE
      generalize Sl.sum (Sl.front x b.data.toList) = sm at *
      generalize Sl.eight sm = e8 at *
      generalize Sl.front x b.data.toList = fr at *
      generalize Pk.text b.data.toList = tx at *
      clear hfd htn hel hnl hfl hsz htl
      go_enter Tryz.func42, Tryz.ntmps42
      go_wp2_with fail
      go_region_with (go_at_call 41; refine (HX.out _).mono ?_; rintro e w1 ⟨rfl, hb1⟩; obtain ⟨hc1, hf1⟩ := hb1.cells)
      all_goals go_wp2_with fail
      all_goals refine (HS.out _).mono ?_
      all_goals rintro e w3 ⟨rfl, rfl⟩
      all_goals go_wp2_with fail
      all_goals refine (HL.out _).mono ?_
      all_goals rintro e w4 ⟨rfl, hg4⟩
      all_goals go_wp2
      all_goals go_ret2
      all_goals exact ⟨by rw [HE.out]; rfl, (by repeat (first | exact Gr.refl _ | refine Gr.alloc ?_ | refine Gr.drew ?_ | refine Gr.trans ?_ (by assumption)))⟩
    · have HE : Hid (Sl.sealE v b.data.toList = ([], 3)) := by
        show _ = _
        rw [Sl.sealE, if_pos hv, if_neg (by omega)]
      clear hsz
      go_enter Tryz.func42, Tryz.ntmps42
      go_wp2
      go_ret2
      rw [HE.out]
      exact ⟨rfl, Gr.refl _⟩
  · have HE : Hid (Sl.sealE v b.data.toList = ([], 2)) := by
      show _ = _
      rw [Sl.sealE, if_neg hv]
    clear hsz
    by_cases h0 : v < 0
    · go_enter Tryz.func42, Tryz.ntmps42
      go_wp2
      go_ret2
      rw [HE.out]
      exact ⟨rfl, Gr.refl _⟩
    · have hv0 : decide (v < 0) = false := decide_eq_false (by omega)
      have h1 : 255 < v := by omega
      go_enter Tryz.func42, Tryz.ntmps42
      go_wp2
      go_ret2
      rw [HE.out]
      exact ⟨rfl, Gr.refl _⟩
end Go.Proofs.YtcmbppjfpdkblaaGreatDoor
/- The document's Open answers Sl.openE. -/
namespace Go.Proofs.YtcmbppjfpdkblaaGreatDoor
open Go.RowKit

set_option maxHeartbeats 2000000 in
set_option maxRecDepth 100000 in
theorem refOpen_any (s : ByteArray) (p v : Int) (w : World) (hs : s.size ≤ 140737488355328) :
    Calls Tryz.prog 49 #[.string s, .int .i64 p, .int .i64 v] w fun e w' => e = .returned (.tuple #[.string ⟨(Sl.openE s.data.toList p v).1.toArray⟩, .int .i64 (Sl.openE s.data.toList p v).2.1, .int .i64 (Sl.openE s.data.toList p v).2.2]) ∧ Gr w w' := by
  have hsz : s.data.toList.length = s.size := by simp
  have hout : ¬ (0 ≤ p ∧ p ≤ s.data.toList.length ∧ 0 ≤ v ∧ v ≤ 255) → Sl.openE s.data.toList p v = ([], 0, 2) := fun h => Sl.open_head _ _ _ 2 (by unfold Sl.headE; rw [if_neg h]) (by decide)
  by_cases h0 : 0 ≤ p
  · have h0' : decide (p < 0) = false := decide_eq_false (by omega)
    by_cases h1 : p ≤ s.size
    · have h1' : decide ((s.size : Int) < p) = false := decide_eq_false (by omega)
      by_cases h2 : 0 ≤ v
      · have h2' : decide (v < 0) = false := decide_eq_false (by omega)
        by_cases h3 : v ≤ 255
        · have h3' : decide (255 < v) = false := decide_eq_false (by omega)
          clear hout
          obtain ⟨a, rfl⟩ := Int.eq_ofNat_of_zero_le h0
          obtain ⟨x, rfl⟩ := Int.eq_ofNat_of_zero_le h2
          have ha : a ≤ s.size := by omega
          have HE : Hid (Sl.headE s.data.toList a x = match s.data.toList.drop a with | [] => 10 | c :: r => if c = 231 then (match r with | [] => 10 | d :: _ => if d.toNat = x then 0 else 21) else 20) := by
            show _ = _
            rw [Sl.headE, if_pos ⟨h0, by omega, h2, h3⟩]; rfl
          have hx := ext_drop s a
          rw [← hx] at HE
          obtain ⟨L, hL⟩ : ∃ L, s.extract a s.size = L := ⟨_, rfl⟩
          have hLs : L.size = s.size - a := by rw [← hL]; simp
          have hLl : L.data.toList.length = L.size := by simp
          rw [hL] at HE hx
          have HX : Hid (L.data.toList = s.data.toList.drop a) := hx
          clear hx
          cases hd : L.data.toList with
          | nil =>
            rw [hd] at hLl HE
            have hz : L.size = 0 := by simpa using hLl.symm
            have hLe : L = ⟨#[]⟩ := by rw [← mk_data L, hd]
            have hLq : (L.toList == []) = true := by rw [toList_data, hd]; rfl
            have HR : Hid (Sl.openE s.data.toList a x = ([], 0, 10)) := Sl.open_head _ _ _ 10 HE.out (by decide)
            clear hLe
            go_enter Tryz.func49, Tryz.ntmps49
            go_wp2
            go_ret3
            rw [HR.out]
            exact ⟨rfl, Gr.refl _⟩
          | cons c r =>
            have hLe : (L.toList == []) = false := by rw [toList_data, hd]; rfl
            rw [hd] at hLl HE
            have hpos : 0 < L.size := by rw [← hLl]; simp
            have hc0 : L[0] = c := by
              show L.data[0] = c
              have : L.data.toList[0]'(by rw [hd]; simp) = c := by simp [hd]
              simpa using this
            by_cases hc : c = 231
            · subst hc
              have hcb : (((231 : UInt8).toNat : Int) != 231) = false := by decide
              cases r with
              | nil =>
                have hz : L.size = 1 := by simpa using hLl.symm
                have HR : Hid (Sl.openE s.data.toList a x = ([], 0, 10)) := Sl.open_head _ _ _ 10 HE.out (by decide)
                go_enter Tryz.func49, Tryz.ntmps49
                go_wp2
                go_ret3
                rw [HR.out]
                exact ⟨rfl, Gr.refl _⟩
              | cons d r =>
                have hz : 2 ≤ L.size := by rw [← hLl]; simp
                have hz1 : 1 < L.size := by omega
                have hz2 : ((L.size : Int) == 1) = false := by rw [beq_eq_false_iff_ne]; omega
                have hd1 : L[1] = d := by
                  show L.data[1] = d
                  have : L.data.toList[1]'(by rw [hd]; simp) = d := by simp [hd]
                  simpa using this
                have hd8 : d.toNat < 256 := d.toNat_lt
                by_cases hv : (d.toNat : Int) = (x : Int)
                · have hvb : ((d.toNat : Int) != (x : Int)) = false := by rw [hv]; exact bne_self_eq_false _
                  have hh : Sl.headE s.data.toList a x = 0 := by rw [HE.out]; simp; omega
                  obtain ⟨⟨n, f, e⟩, ht⟩ : ∃ r, Pk.takeNum s.data.toList ((a : Int) + 2) = r := ⟨_, rfl⟩
                  have hO := Sl.open_take s.data.toList a x hh n f e ht
                  have hS := Sl.take_shift s.data.toList a (by omega)
                  have hsp := Pk.takeNum_spec s.data.toList ((a : Int) + 2)
                  rw [ht] at hS hsp
                  rw [← HX.out] at hS hO
                  simp only at hS hsp
                  have HT : Hid (∀ w : World, Calls Tryz.prog 73 #[.string L, .int .i64 2] w fun e w' => e = .returned (.tuple #[.int .u64 (Pk.takeNum L.data.toList 2).1, .int .i64 (Pk.takeNum L.data.toList 2).2.1, .int .i64 (Pk.takeNum L.data.toList 2).2.2]) ∧ Gr w w') := fun w => refTakeNumber_any L 2 w (by omega)
                  rw [hS] at HT
                  simp only at HT
                  clear hS ht HE
                  by_cases he : e = 0
                  · subst he
                    rw [if_pos rfl] at hO
                    have hb1 : n < 18446744073709551616 ∧ f ≤ s.size ∧ a + 2 ≤ f := by
                      rcases hsp with h | h | h | h <;> simp at h <;> omega
                    obtain ⟨hn, hf, hg⟩ := hb1
                    clear hsp
                    obtain ⟨g, hg2⟩ : ∃ g, f - a = g := ⟨_, rfl⟩
                    rw [hg2] at HT hO
                    by_cases hn3 : n ≤ 30000
                    · rw [if_pos hn3] at hO
                      by_cases hl : f + n + 8 ≤ s.size
                      · rw [if_pos (by omega)] at hO
                        have hnl : ¬ ((L.size : Int) - (g : Int) < (n : Int) + 8) := by omega
                        have hb1 : (0 : Int) ≤ (g : Int) + (n : Int) := by omega
                        have hb2 : (g : Int) + (n : Int) ≤ (L.size : Int) := by omega
                        have hb3 : (g : Int) + (n : Int) + 8 ≤ (L.size : Int) := by omega
                        have hbx := ext_data L g n
                        have hbs : (L.extract g (g + n)).size = n := by simp; omega
                        have hk1 : (L.extract 0 (g + n + 8)).toList = L.data.toList.take (g + n + 8) := by
                          have := ext_data L 0 (g + n + 8)
                          rw [toList_data]; simpa only [Nat.zero_add, List.drop_zero] using this
                        have hkl : (L.data.toList.take (g + n + 8)).length = g + n + 8 := by rw [List.length_take, show L.data.toList.length = L.size by simp]; omega
                        rw [← hbx] at hO
                        obtain ⟨B, hB⟩ : ∃ B, L.extract g (g + n) = B := ⟨_, rfl⟩
                        rw [hB] at hO hbs
                        have HS : Hid (∀ w : World, Calls Tryz.prog 42 #[.int .i64 x, .string B] w fun e w' => e = .returned (.tuple #[.string ⟨(Sl.frame x B.data.toList).toArray⟩, .int .i64 0]) ∧ Gr w w') := by
                          intro w
                          have := refSeal_any x B w (by omega)
                          have e : Sl.sealE x B.data.toList = (Sl.frame x B.data.toList, 0) := by
                            unfold Sl.sealE
                            rw [if_pos ⟨h2, h3⟩, if_pos (by have : B.data.toList.length = B.size := by simp
                                                            omega)]; rfl
                          rw [e] at this
                          exact this
                        generalize Sl.frame x B.data.toList = fr at *
                        generalize L.data.toList.take (g + n + 8) = tk at *
                        clear hbx hd
                        by_cases hq : (fr == tk) = true
                        · rw [if_pos hq] at hO
                          have HR : Hid (Sl.openE s.data.toList a x = _) := hO
                          have hfl : fr.length = g + n + 8 := by rw [beq_iff_eq] at hq; rw [hq]; exact hkl
                          have hfs : (⟨fr.toArray⟩ : ByteArray).size = g + n + 8 := by simpa [ByteArray.size] using hfl
                          clear hO hkl
                          go_enter Tryz.func49, Tryz.ntmps49
                          go_wp2_with fail
                          refine (HT.out _).mono ?_
                          rintro e w1 ⟨rfl, hg1⟩
                          go_wp2_with fail
                          refine (HS.out _).mono ?_
                          rintro e w2 ⟨rfl, hg2'⟩
                          go_wp2
                          go_ret3
                          rw [HR.out]
                          refine ⟨?_, (by repeat (first | exact Gr.refl _ | refine Gr.alloc ?_ | refine Gr.drew ?_ | refine Gr.trans ?_ (by assumption)))⟩
                          show Ending.returned (Value.tuple #[Value.string B, Value.int IntKind.i64 ((a : Int) + ((g : Int) + (n : Int) + 8)), Value.int IntKind.i64 0]) = _
                          have e9 : (a : Int) + ((g : Int) + (n : Int) + 8) = ((f + n + 8 : Nat) : Int) := by omega
                          rw [e9]
                          rfl
                        · have hq' : (fr == tk) = false := by simpa using hq
                          rw [if_neg hq] at hO
                          have HR : Hid (Sl.openE s.data.toList a x = _) := hO
                          clear hO hkl hq
                          go_enter Tryz.func49, Tryz.ntmps49
                          go_wp2_with fail
                          refine (HT.out _).mono ?_
                          rintro e w1 ⟨rfl, hg1⟩
                          go_wp2_with fail
                          refine (HS.out _).mono ?_
                          rintro e w2 ⟨rfl, hg2'⟩
                          go_wp2
                          go_ret3
                          rw [HR.out]
                          exact ⟨rfl, (by repeat (first | exact Gr.refl _ | refine Gr.alloc ?_ | refine Gr.drew ?_ | refine Gr.trans ?_ (by assumption)))⟩
                      · rw [if_neg (by omega)] at hO
                        have HR : Hid (Sl.openE s.data.toList a x = ([], 0, 10)) := hO
                        have hnl : (L.size : Int) - (g : Int) < (n : Int) + 8 := by omega
                        clear hO
                        go_enter Tryz.func49, Tryz.ntmps49
                        go_wp2_with fail
                        refine (HT.out _).mono ?_
                        rintro e w1 ⟨rfl, hg1⟩
                        go_wp2
                        go_ret3
                        rw [HR.out]
                        exact ⟨rfl, (by repeat (first | exact Gr.refl _ | refine Gr.alloc ?_ | refine Gr.drew ?_ | refine Gr.trans ?_ (by assumption)))⟩
                    · rw [if_neg hn3] at hO
                      have HR : Hid (Sl.openE s.data.toList a x = ([], 0, 3)) := hO
                      have hlt : (30000 : Int) < (n : Int) := by omega
                      clear hO
                      go_enter Tryz.func49, Tryz.ntmps49
                      go_wp2_with fail
                      refine (HT.out _).mono ?_
                      rintro e w1 ⟨rfl, hg1⟩
                      go_wp2
                      go_ret3
                      rw [HR.out]
                      exact ⟨rfl, (by repeat (first | exact Gr.refl _ | refine Gr.alloc ?_ | refine Gr.drew ?_ | refine Gr.trans ?_ (by assumption)))⟩
                  · rw [if_neg he] at hO
                    have HR : Hid (Sl.openE s.data.toList a x = ([], 0, e)) := hO
                    have hne : ((e : Int) != 0) = true := by rw [bne_iff_ne]; omega
                    clear hO hsp
                    go_enter Tryz.func49, Tryz.ntmps49
                    go_wp2_with fail
                    refine (HT.out _).mono ?_
                    rintro e w1 ⟨rfl, hg1⟩
                    go_wp2
                    go_ret3
                    rw [HR.out]
                    exact ⟨rfl, (by repeat (first | exact Gr.refl _ | refine Gr.alloc ?_ | refine Gr.drew ?_ | refine Gr.trans ?_ (by assumption)))⟩
                · have HR : Hid (Sl.openE s.data.toList a x = ([], 0, 21)) := Sl.open_head _ _ _ 21 (by rw [HE.out]; simp; omega) (by decide)
                  have hvb : ((d.toNat : Int) != (x : Int)) = true := by rw [bne_iff_ne]; exact hv
                  go_enter Tryz.func49, Tryz.ntmps49
                  go_wp2
                  go_ret3
                  rw [HR.out]
                  exact ⟨rfl, Gr.refl _⟩
            · have HR : Hid (Sl.openE s.data.toList a x = ([], 0, 20)) := Sl.open_head _ _ _ 20 (by rw [HE.out]; simp [hc]) (by decide)
              have hcb : ((c.toNat : Int) != 231) = true := by
                rw [bne_iff_ne]; intro h; apply hc
                exact UInt8.toNat_inj.1 (by have : c.toNat = 231 := by omega
                                            rw [this]; rfl)
              go_enter Tryz.func49, Tryz.ntmps49
              go_wp2
              go_ret3
              rw [HR.out]
              exact ⟨rfl, Gr.refl _⟩
        · have HR : Hid (Sl.openE s.data.toList p v = ([], 0, 2)) := hout (by omega)
          have h3' : 255 < v := by omega
          clear hout
          go_enter Tryz.func49, Tryz.ntmps49
          go_wp2
          go_ret3
          rw [HR.out]
          exact ⟨rfl, Gr.refl _⟩
      · have HR : Hid (Sl.openE s.data.toList p v = ([], 0, 2)) := hout (by omega)
        have h2' : v < 0 := by omega
        clear hout
        go_enter Tryz.func49, Tryz.ntmps49
        go_wp2
        go_ret3
        rw [HR.out]
        exact ⟨rfl, Gr.refl _⟩
    · have HR : Hid (Sl.openE s.data.toList p v = ([], 0, 2)) := hout (by omega)
      have h1' : (s.size : Int) < p := by omega
      clear hout
      go_enter Tryz.func49, Tryz.ntmps49
      go_wp2
      go_ret3
      rw [HR.out]
      exact ⟨rfl, Gr.refl _⟩
  · have HR : Hid (Sl.openE s.data.toList p v = ([], 0, 2)) := hout (by omega)
    have h0' : p < 0 := by omega
    clear hout
    go_enter Tryz.func49, Tryz.ntmps49
    go_wp2
    go_ret3
    rw [HR.out]
    exact ⟨rfl, Gr.refl _⟩
end Go.Proofs.YtcmbppjfpdkblaaGreatDoor
