/- For every input the law SealBursts answers true: a frame in whose body bits are turned that stand within 64 of each other is not opened. -/
import Derived.Test.YtpdcnnlbafcohaaDoorLaidQ
import Derived.Test.YtpdcnnlbafcohaaDoorBurstM
import Derived.Test.YtpdcnnlbafcohaaDoorGoodP
import Derived.Test.YtpdcnnlbafcohaaDoorAwk2
import Derived.Laws.BitsAllLaws
import Derived.BigRegion
import Derived.Deep.Draws
import Derived.SevenTiedAt
namespace Go.Proofs.YtpdcnnlbafcohaaDoor
open Go.ChangeShapes Go.WideShapes Go.ChangeAt Go.RowKit
open Go.ChangeMaps (open_string shut_string)

theorem bytesRow_holds (w : World) (F : ByteArray) (cap : Nat) : Sort.Holds encB (w.alloc (.cells (bytesRow F cap) 5 ((bytesRow F cap).size, (bytesRow F cap).size + 1))).drew w.heap.size 0 F.data := by
  intro j hj
  have h := bytesRow_at F cap j hj
  have hlt : j < (bytesRow F cap).size := (Array.getElem?_eq_some_iff.1 h).1
  have hheap : (w.alloc (.cells (bytesRow F cap) 5 ((bytesRow F cap).size, (bytesRow F cap).size + 1))).drew.heap[w.heap.size]? = some (.cells (bytesRow F cap) 5 ((bytesRow F cap).size, (bytesRow F cap).size + 1)) := Array.getElem?_push_size
  rw [Nat.zero_add, getElem!_pos _ j hj]
  generalize (w.alloc (.cells (bytesRow F cap) 5 ((bytesRow F cap).size, (bytesRow F cap).size + 1))).drew = W at *
  refine ⟨?_, ?_⟩
  · simp [World.cell?, hheap, h]
  · simp [World.frozen?, hheap]
    omega
def rowA (pre B e8 : List UInt8) : Array UInt8 := (pre ++ B ++ e8).toArray
theorem rowA_size (pre B e8 : List UInt8) : (rowA pre B e8).size = pre.length + B.length + e8.length := by simp [rowA]; omega
theorem rowA_get (pre B e8 : List UInt8) (j : Nat) (h : j < B.length) : (rowA pre B e8)[pre.length + j]! = B[j] := by
  rw [getElem!_pos _ _ (by rw [rowA_size]; omega)]
  simp only [rowA, List.getElem_toArray]
  rw [List.getElem_append_left (by simp; omega), List.getElem_append_right (by omega)]
  congr 1
  omega
theorem rowA_set (pre B e8 : List UInt8) (j : Nat) (h : j < B.length) (x : UInt8) : (rowA pre B e8).setIfInBounds (pre.length + j) x = rowA pre (B.set j x) e8 := by
  unfold rowA
  rw [List.setIfInBounds_toArray]
  congr 1
  rw [List.append_assoc, List.set_append_right _ _ (by omega), List.append_assoc]
  congr 1
  rw [List.set_append_left _ _ (by omega)]
  congr 2
  omega

set_option maxHeartbeats 4000000 in
set_option maxRecDepth 100000 in
theorem sealBursts_core (B F : ByteArray) (a y hd : Nat) (pre e8 : List UInt8) (w : World)
    (HA : Hid (∀ w', Gr w w' → Calls Tryd.prog 12 #[] w' fun e w2 => e = .returned (.bool true) ∧ Gr w' w2))
    (HS : Hid (∀ w', Gr w w' → Calls Tryd.prog 13 #[.int .i64 3, .string B] w' fun e w2 => e = .returned (.tuple #[.string F, .int .i64 0]) ∧ Gr w' w2))
    (HO : Hid (∀ (w' : World) (B' : List UInt8), Gr w w' → B'.length = B.size → Calls Tryd.prog 15 #[.string ⟨(pre ++ B' ++ e8).toArray⟩, .int .i64 0, .int .i64 3] w' fun e w2 => e = .returned (.tuple #[.string ⟨(Sl.openE (pre ++ B' ++ e8) 0 3).1.toArray⟩, .int .i64 (Sl.openE (pre ++ B' ++ e8) 0 3).2.1, .int .i64 (Sl.openE (pre ++ B' ++ e8) 0 3).2.2]) ∧ Gr w' w2))
    (H1 : Hid (Sl.openE (pre ++ B.data.toList ++ e8) 0 3 = (B.data.toList, F.size, 0)))
    (H2 : Hid (∀ B' x, B'.length = B.size → x < 18446744073709551616 → x ≠ 0 → Sl.num B' = Sl.num B.data.toList ^^^ (2 ^ a * x) → Sl.openE (pre ++ B' ++ e8) 0 3 = ([], 0, 22)))
    (hF : F.data.toList = pre ++ B.data.toList ++ e8) (hpl : pre.length = hd) (hel : e8.length = 8) (hFs : F.size = hd + B.size + 8) (hhd : hd ≤ 20) (hBs : B.size ≤ 30000) (ha : a < 8 * B.size) (hy : y < 18446744073709551616) (hy0 : y ≠ 0) :
    Calls Tryd.prog 7 #[.string B, .int .i64 a, .int .u64 y] w fun e w' => e = .returned (.bool true) ∧ Gr w w' := by
  have hcv := fun w : World => run_bytes_of_string (P := Tryd.prog) w 9 47 5 F Tryd.underlying9 Tryd.underlying47 Tryd.underlying5
  have hg0 : ((y : Int) == 0) = false := by rw [beq_eq_false_iff_ne]; omega
  have hg1 : decide ((a : Int) < 0) = false := decide_eq_false (by omega)
  have hg2 : decide (8 * (B.size : Int) ≤ (a : Int)) = false := decide_eq_false (by omega)
  have hFd : F.data = rowA pre B.data.toList e8 := by
    unfold rowA; rw [← hF]
  have HFd : Hid (F.data = rowA pre B.data.toList e8) := hFd
  have HPL : Hid (pre.length = hd) := hpl
  have HEL : Hid (e8.length = 8) := hel
  have hBl : B.data.toList.length = B.size := by simp
  clear hFd hpl hel hF
  go_enter Tryd.func7, Tryd.ntmps7
  go_wp2_with fail
  refine (HS.out _ (by repeat (first | exact Gr.refl _ | refine Gr.alloc ?_ | refine Gr.drew ?_ | refine Gr.trans ?_ (by assumption)))).mono ?_
  rintro e1 w1 ⟨rfl, hg1⟩
  go_wp2
  obtain ⟨cp, hcp⟩ : ∃ cp, grownCap w1 (hd + B.size + 8) 0 5 = cp := ⟨_, rfl⟩
  rw [hcp]
  obtain ⟨W1, hW1⟩ : ∃ W1, (w1.alloc (.cells (bytesRow F cp) 5 ((bytesRow F cp).size, (bytesRow F cp).size + 1))).drew = W1 := ⟨_, rfl⟩
  have hH : Sort.Holds encB W1 w1.heap.size 0 (rowA pre B.data.toList e8) := by rw [← hW1, ← HFd.out]; exact bytesRow_holds w1 F cp
  have hG1 : Gr w1 W1 := by rw [← hW1]; exact (Gr.refl w1).alloc.drew
  rw [hW1]
  have HH : Hid (Sort.Holds encB W1 w1.heap.size 0 (rowA pre B.data.toList e8)) := hH
  have HG1 : Hid (Gr w1 W1) := hG1
  clear hW1 hcp hH hG1 hcv
  go_loopw [11, 12] (fun m i wr => ∃ (k q : Nat) (Bk : List UInt8), k ≤ 64 ∧ i = .int .i64 k ∧ Bk.length = B.size ∧ Sl.num Bk = Sl.num B.data.toList ^^^ (2 ^ a * Sl.part y (8 * B.size - a) k) ∧ m = .bool (decide (Sl.part y (8 * B.size - a) k ≠ 0)) ∧ (Sl.part y (8 * B.size - a) k = 0 → Bk = B.data.toList) ∧ wr = (Sort.putRow encB W1 w1.heap.size 0 (rowA pre Bk e8)).drewN q)
    (fun _ i _ => 64 - (intOf i).toNat)
  case atStart =>
    refine ⟨0, 0, B.data.toList, by omega, rfl, hBl, by rw [Sl.part_zero]; simp, by rw [Sl.part_zero]; rfl, fun _ => rfl, ?_⟩
    exact (Sort.putRow_self encB _ _ _ _ HH.out).symm
  case round =>
    obtain ⟨k, q, Bk, hk, rfl, hbl, hnum, rfl, hsame, hwr⟩ := hrel
    have HN : Hid (Sl.num Bk = Sl.num B.data.toList ^^^ (2 ^ a * Sl.part y (8 * B.size - a) k)) := hnum
    have HSm : Hid (Sl.part y (8 * B.size - a) k = 0 → Bk = B.data.toList) := hsame
    have HW : Hid (wr = (Sort.putRow encB W1 w1.heap.size 0 (rowA pre Bk e8)).drewN q) := hwr
    have hHk : Sort.Holds encB wr w1.heap.size 0 (rowA pre Bk e8) := by
      rw [hwr]
      exact Sort.holds_putRow encB W1 w1.heap.size 0 _ _ HH.out (by rw [rowA_size, rowA_size, hbl, hBl])
    have HK : Hid (Sort.Holds encB wr w1.heap.size 0 (rowA pre Bk e8)) := hHk
    clear hnum hsame hwr hHk
    by_cases hlt : k < 64
    · have hyk : y / 2 ^ k < 18446744073709551616 := Nat.lt_of_le_of_lt (Nat.div_le_self _ _) hy
      have hand : bits .and .u64 ((y : Int) / 2 ^ k) 1 = ((y / 2 ^ k % 2 : Nat) : Int) := by
        have e : (y : Int) / 2 ^ k = ((y / 2 ^ k : Nat) : Int) := by simp
        have e1 : (1 : Int) = ((1 : Nat) : Int) := rfl
        rw [e, e1, u64_and_nat _ _ hyk (by omega), Nat.and_one_is_mod]
      by_cases hbit : y / 2 ^ k % 2 = 1
      · have hb1 : (bits .and .u64 ((y : Int) / 2 ^ k) 1 == 1) = true := by rw [hand, hbit]; rfl
        by_cases hM : a + k < 8 * B.size
        · have hM' : (a : Int) + (k : Int) < 8 * (B.size : Int) := by omega
          obtain ⟨pt1, pt2⟩ := Sl.part_turn y (8 * B.size - a) k hbit (by omega)
          have HT1 : Hid (Sl.part y (8 * B.size - a) (k + 1) = Sl.part y (8 * B.size - a) k ^^^ 2 ^ k) := pt1
          have HT2 : Hid (Sl.part y (8 * B.size - a) (k + 1) ≠ 0) := pt2
          clear pt1 pt2 hand
          obtain ⟨j, hj⟩ : ∃ j, (a + k) / 8 = j := ⟨_, rfl⟩
          obtain ⟨r, hr⟩ : ∃ r, (a + k) % 8 = r := ⟨_, rfl⟩
          have hjb : j < Bk.length := by omega
          have hr8 : r < 8 := by omega
          have hc := HK.out (hd + j) (by rw [rowA_size, HPL.out]; omega)
          have hge := rowA_get pre Bk e8 j hjb
          rw [HPL.out] at hge
          rw [hge, Nat.zero_add] at hc
          obtain ⟨hc1, hc2⟩ := hc
          have hdv : ((a : Int) + (k : Int)) / 8 = (j : Int) := by omega
          have hmd : ((a : Int) + (k : Int)) % 8 = (r : Int) := by omega
          have hdv2 : ((a : Int) + (k : Int)).tdiv 8 = (j : Int) := by rw [Int.tdiv_eq_ediv_of_nonneg (by omega)]; exact hdv
          have hmd2 : ((a : Int) + (k : Int)).tmod 8 = (r : Int) := by rw [Int.tmod_eq_emod_of_nonneg (by omega)]; exact hmd
          have hw1 : IntKind.i64.wrap ((hd : Int) + (j : Int)) = (hd : Int) + (j : Int) := by rw [IntKind.wrap_i64]; omega
          have hw2 : ((hd : Int) + (j : Int)).toNat = hd + j := by omega
          have hi0 : (0 : Int) ≤ (hd : Int) + (j : Int) := by omega
          have hi1 : (hd : Int) + (j : Int) < ((hd + B.size + 8 : Nat) : Int) := by omega
          have h2r : 2 ^ r < 256 := by
            have := Nat.pow_lt_pow_right (a := 2) (by omega) hr8
            simpa using this
          have hc8 : (Bk[j]).toNat < 256 := (Bk[j]).toNat_lt
          have HX : Hid (bits .xor .u8 ((Bk[j]).toNat : Int) (2 ^ r % 256) = (((UInt8.ofNat ((Bk[j]).toNat ^^^ 2 ^ r)).toNat : Nat) : Int)) := by
            show _ = _
            have e : (2 : Int) ^ r % 256 = ((2 ^ r : Nat) : Int) := by
              have : (2 : Int) ^ r = ((2 ^ r : Nat) : Int) := by simp
              rw [this]; exact Int.emod_eq_of_lt (Int.natCast_nonneg _) (Int.ofNat_lt.2 h2r)
            have hx : (Bk[j]).toNat ^^^ 2 ^ r < 256 := Nat.xor_lt_two_pow (n := 8) hc8 h2r
            rw [e, u8_xor_nat (Bk[j]).toNat (2 ^ r) hc8 h2r, UInt8.toNat_ofNat', Nat.mod_eq_of_lt (by simpa using hx)]
          have HNF := Sl.num_flip Bk j r hjb hr8
          have HN2 : Hid (Sl.num (Bk.set j (UInt8.ofNat ((Bk[j]).toNat ^^^ 2 ^ r))) = Sl.num B.data.toList ^^^ (2 ^ a * Sl.part y (8 * B.size - a) (k + 1))) := by
            show _ = _
            have e : 8 * j + r = a + k := by omega
            rw [HNF, HN.out, e, HT1.out, Sl.pow_xor, Nat.pow_add, Nat.xor_assoc]
          have HST := Sort.putRow_set encB W1 w1.heap.size 0 (rowA pre Bk e8) (hd + j) (UInt8.ofNat ((Bk[j]).toNat ^^^ 2 ^ r)) (by rw [rowA_size, HPL.out]; omega)
          have hrs := rowA_set pre Bk e8 j hjb (UInt8.ofNat ((Bk[j]).toNat ^^^ 2 ^ r))
          rw [HPL.out] at hrs
          rw [hrs, Nat.zero_add] at HST
          have HST2 : Hid ((Sort.putRow encB W1 w1.heap.size 0 (rowA pre Bk e8)).setCell ⟨w1.heap.size, hd + j, none⟩ (encB (UInt8.ofNat ((Bk[j]).toNat ^^^ 2 ^ r))) = Sort.putRow encB W1 w1.heap.size 0 (rowA pre (Bk.set j (UInt8.ofNat ((Bk[j]).toNat ^^^ 2 ^ r))) e8)) := HST
          clear HNF HST hrs hge
          go_wp2
          go_region
          go_wp2
          go_roundw
          case rel =>
            refine ⟨k + 1, q + 1, Bk.set j (UInt8.ofNat ((Bk[j]).toNat ^^^ 2 ^ r)), by omega, by go_num, by rw [List.length_set]; exact hbl, HN2.out, by rw [decide_eq_true HT2.out], fun h => absurd h HT2.out, ?_⟩
            rw [HX.out, HW.out]
            exact congrArg (fun X : World => (X.drewN q).drew) HST2.out
          case measure => simp [intOf]; omega
        · have hM' : decide ((a : Int) + (k : Int) < 8 * (B.size : Int)) = false := decide_eq_false (by omega)
          have HP : Hid (Sl.part y (8 * B.size - a) (k + 1) = Sl.part y (8 * B.size - a) k) := Sl.part_skip y _ k (Or.inr (by omega))
          clear hand
          go_wp2
          go_roundw
          case rel => exact ⟨k + 1, q, Bk, by omega, by go_num, hbl, by rw [HP.out]; exact HN.out, by rw [HP.out], by rw [HP.out]; exact HSm.out, HW.out⟩
          case measure => simp [intOf]; omega
      · have hb1 : (bits .and .u64 ((y : Int) / 2 ^ k) 1 == 1) = false := by rw [hand, beq_eq_false_iff_ne]; omega
        have HP : Hid (Sl.part y (8 * B.size - a) (k + 1) = Sl.part y (8 * B.size - a) k) := Sl.part_skip y _ k (Or.inl (by omega))
        clear hand
        go_wp2
        go_roundw
        case rel => exact ⟨k + 1, q, Bk, by omega, by go_num, hbl, by rw [HP.out]; exact HN.out, by rw [HP.out], by rw [HP.out]; exact HSm.out, HW.out⟩
        case measure => simp [intOf]; omega
    · have hk64 : k = 64 := by omega
      subst hk64
      have hcv2 := run_convert_bytes_back (P := Tryd.prog) wr 47 9 5 ⟨w1.heap.size, 0, none⟩ cp (pre ++ Bk ++ e8) Tryd.underlying47 Tryd.underlying5 Tryd.underlying9 (by
        intro j hj
        have hj' : j < (rowA pre Bk e8).size := by rw [rowA_size]; simpa only [List.length_append] using hj
        have := (HK.out j hj').1
        rw [getElem!_pos _ j hj'] at this
        simp only [Addr.add_lit]
        rw [this]
        simp only [encB, rowA, List.getElem_toArray])
      have hlen : (pre ++ Bk ++ e8).length = hd + B.size + 8 := by simp only [List.length_append]; rw [HPL.out, HEL.out, hbl]
      rw [hlen] at hcv2
      have hGw : Gr w wr := by
        rw [HW.out]
        exact hg1.trans ⟨below_drewN (putRow_gr HG1.out).below q⟩
      have HOk := HO.out wr Bk hGw hbl
      have hpl := Sl.part_lt y (8 * B.size - a) 64 (by omega)
      by_cases hz : Sl.part y (8 * B.size - a) 64 = 0
      · have hBk := HSm.out hz
        rw [hBk] at HOk hcv2
        rw [H1.out] at HOk
        have HOh : Hid (Calls Tryd.prog 15 #[.string ⟨(pre ++ B.data.toList ++ e8).toArray⟩, .int .i64 0, .int .i64 3] wr fun e w2 => e = .returned (.tuple #[.string B, .int .i64 F.size, .int .i64 0]) ∧ Gr wr w2) := HOk
        have hm : (decide (Sl.part y (8 * B.size - a) 64 ≠ 0)) = false := by rw [hz]; rfl
        rw [hm]
        generalize pre ++ B.data.toList ++ e8 = row at *
        clear HOk hBk hz hm hpl
        go_wp2_with fail
        refine HOh.out.mono ?_
        rintro e2 w2 ⟨rfl, hg2⟩
        go_wp2_with fail
        refine (HA.out _ (by repeat (first | exact Gr.refl _ | refine Gr.alloc ?_ | refine Gr.drew ?_ | refine Gr.trans ?_ (by assumption)))).mono ?_
        rintro e9 w9 ⟨rfl, hg9⟩
        go_wp2
        go_ret
        exact ⟨rfl, (by repeat (first | exact Gr.refl _ | refine Gr.alloc ?_ | refine Gr.drew ?_ | refine Gr.trans ?_ (by assumption)))⟩
      · rw [H2.out Bk _ hbl hpl hz HN.out] at HOk
        have HOh : Hid (Calls Tryd.prog 15 #[.string ⟨(pre ++ Bk ++ e8).toArray⟩, .int .i64 0, .int .i64 3] wr fun e w2 => e = .returned (.tuple #[.string ⟨#[]⟩, .int .i64 0, .int .i64 22]) ∧ Gr wr w2) := HOk
        have hm : (decide (Sl.part y (8 * B.size - a) 64 ≠ 0)) = true := decide_eq_true hz
        rw [hm]
        generalize pre ++ Bk ++ e8 = row at *
        clear HOk hz hm hpl
        go_wp2_with fail
        refine HOh.out.mono ?_
        rintro e2 w2 ⟨rfl, hg2⟩
        go_wp2_with fail
        refine (HA.out _ (by repeat (first | exact Gr.refl _ | refine Gr.alloc ?_ | refine Gr.drew ?_ | refine Gr.trans ?_ (by assumption)))).mono ?_
        rintro e9 w9 ⟨rfl, hg9⟩
        go_wp2
        go_ret
        exact ⟨rfl, (by repeat (first | exact Gr.refl _ | refine Gr.alloc ?_ | refine Gr.drew ?_ | refine Gr.trans ?_ (by assumption)))⟩

set_option maxHeartbeats 4000000 in
set_option maxRecDepth 100000 in
theorem sealBursts_walk (B : ByteArray) (p : Int) (y : Nat) (w : World) (hT : Tab w) (hs : B.size ≤ 9223372036854775807) (hy : y < 18446744073709551616) :
    Calls Tryd.prog 7 #[.string B, .int .i64 p, .int .u64 y] w fun e w' => e = .returned (.bool true) ∧ Gr w w' := by
  have HA : Hid (∀ w', Gr w w' → Calls Tryd.prog 12 #[] w' fun e w2 => e = .returned (.bool true) ∧ Gr w' w2) := fun w' g => awake2_any w' (hT.gr g)
  have HS0 := fun w' (g : Gr w w') => seal_any 3 B w' (hT.gr g) hs
  have hBl : B.data.toList.length = B.size := by simp
  by_cases hb : B.size ≤ 30000
  · have hse : Sl.sealE 3 B.data.toList = (Sl.frame 3 B.data.toList, 0) := seal_good 3 B.data.toList (by omega) (by omega) (by omega)
    rw [hse] at HS0
    obtain ⟨F, hF⟩ : ∃ F : ByteArray, (⟨(Sl.frame 3 B.data.toList).toArray⟩ : ByteArray) = F := ⟨_, rfl⟩
    have hFd : F.data.toList = Sl.frame 3 B.data.toList := by rw [← hF]
    have HS : Hid (∀ w', Gr w w' → Calls Tryd.prog 13 #[.int .i64 3, .string B] w' fun e w2 => e = .returned (.tuple #[.string F, .int .i64 0]) ∧ Gr w' w2) := by
      intro w' g
      have := HS0 w' g
      simp only at this
      rw [hF] at this
      exact this
    clear HS0
    by_cases hy0 : y = 0
    · subst hy0
      clear hT hF hFd hse hBl
      go_enter Tryd.func7, Tryd.ntmps7
      go_wp2_with fail
      refine (HS.out _ (by repeat (first | exact Gr.refl _ | refine Gr.alloc ?_ | refine Gr.drew ?_ | refine Gr.trans ?_ (by assumption)))).mono ?_
      rintro e1 w1 ⟨rfl, hg1⟩
      go_wp2_with fail
      refine (HA.out _ (by repeat (first | exact Gr.refl _ | refine Gr.alloc ?_ | refine Gr.drew ?_ | refine Gr.trans ?_ (by assumption)))).mono ?_
      rintro e9 w9 ⟨rfl, hg9⟩
      go_wp2
      go_ret
      exact ⟨rfl, (by repeat (first | exact Gr.refl _ | refine Gr.alloc ?_ | refine Gr.drew ?_ | refine Gr.trans ?_ (by assumption)))⟩
    · have hg0 : ((y : Int) == 0) = false := by rw [beq_eq_false_iff_ne]; omega
      by_cases hp : p < 0
      · clear hT hF hFd hse hBl
        go_enter Tryd.func7, Tryd.ntmps7
        go_wp2_with fail
        refine (HS.out _ (by repeat (first | exact Gr.refl _ | refine Gr.alloc ?_ | refine Gr.drew ?_ | refine Gr.trans ?_ (by assumption)))).mono ?_
        rintro e1 w1 ⟨rfl, hg1⟩
        go_wp2_with fail
        refine (HA.out _ (by repeat (first | exact Gr.refl _ | refine Gr.alloc ?_ | refine Gr.drew ?_ | refine Gr.trans ?_ (by assumption)))).mono ?_
        rintro e9 w9 ⟨rfl, hg9⟩
        go_wp2
        go_ret
        exact ⟨rfl, (by repeat (first | exact Gr.refl _ | refine Gr.alloc ?_ | refine Gr.drew ?_ | refine Gr.trans ?_ (by assumption)))⟩
      · have hp' : decide (p < 0) = false := decide_eq_false hp
        by_cases hp8 : 8 * (B.size : Int) ≤ p
        · clear hT hF hFd hse hBl
          go_enter Tryd.func7, Tryd.ntmps7
          go_wp2_with fail
          refine (HS.out _ (by repeat (first | exact Gr.refl _ | refine Gr.alloc ?_ | refine Gr.drew ?_ | refine Gr.trans ?_ (by assumption)))).mono ?_
          rintro e1 w1 ⟨rfl, hg1⟩
          go_wp2_with fail
          refine (HA.out _ (by repeat (first | exact Gr.refl _ | refine Gr.alloc ?_ | refine Gr.drew ?_ | refine Gr.trans ?_ (by assumption)))).mono ?_
          rintro e9 w9 ⟨rfl, hg9⟩
          go_wp2
          go_ret
          exact ⟨rfl, (by repeat (first | exact Gr.refl _ | refine Gr.alloc ?_ | refine Gr.drew ?_ | refine Gr.trans ?_ (by assumption)))⟩
        · obtain ⟨a, rfl⟩ := Int.eq_ofNat_of_zero_le (show 0 ≤ p by omega)
          have hnl := Pk.num_len B.data.toList.length
          have hfl := Sl.frame_len 3 B.data.toList
          have hFs : F.size = (Sl.frame 3 B.data.toList).length := by rw [← hFd]; simp
          have hrow : ∀ B' : List UInt8, ([231, UInt8.ofNat 3] ++ Pk.num B.data.toList.length) ++ B' ++ Sl.eight (Sl.sum (Sl.front 3 B.data.toList)) = [231, UInt8.ofNat 3] ++ Pk.num B.data.toList.length ++ B' ++ Sl.eight (Sl.sum (Sl.front 3 B.data.toList)) := fun _ => rfl
          have hoo := fun (B' : List UInt8) (h : B'.length = B.size) => Sl.open_other 3 B.data.toList B' (by omega) (by omega) (by omega)
          refine sealBursts_core B F a y (2 + (Pk.num B.data.toList.length).length) ([231, UInt8.ofNat 3] ++ Pk.num B.data.toList.length) (Sl.eight (Sl.sum (Sl.front 3 B.data.toList))) w HA HS ?_ ?_ ?_ ?_ ?_ (Sl.eight_len _) (by omega) (by omega) hb (by omega) hy hy0
          · intro w' B' g hl
            have hlen : (([231, UInt8.ofNat 3] ++ Pk.num B.data.toList.length) ++ B' ++ Sl.eight (Sl.sum (Sl.front 3 B.data.toList))).length ≤ 140737488355328 := by
              simp only [List.length_append, List.length_cons, List.length_nil]; rw [Sl.eight_len]; omega
            have := open_any (mkT (([231, UInt8.ofNat 3] ++ Pk.num B.data.toList.length) ++ B' ++ Sl.eight (Sl.sum (Sl.front 3 B.data.toList)))) 0 3 w' (hT.gr g) (by rw [mkT_size]; exact hlen)
            exact this
          · have := hoo B.data.toList hBl
            rw [if_pos rfl, ← hFs] at this
            exact this
          · intro B' x hl hx h0 hn
            have := hoo B' hl
            rw [if_neg] at this
            · exact this
            · have hfr : ∀ b : List UInt8, b.length = B.data.toList.length → Sl.front 3 b = ([231, UInt8.ofNat 3] ++ Pk.num B.data.toList.length) ++ b := by
                intro b hb'
                simp [Sl.front, Pk.text, hb']
              rw [hfr B' (by omega), hfr _ rfl]
              exact Sl.sum_burst _ B.data.toList B' a x (by omega) (by omega) hx h0 hn
          · rw [hFd]
            simp [Sl.frame, Sl.front, Pk.text]
          · simp; omega
  · have hse : Sl.sealE 3 B.data.toList = ([], 3) := by
      unfold Sl.sealE
      rw [if_pos ⟨by omega, by omega⟩, if_neg (by omega)]
    rw [hse] at HS0
    have HS : Hid (∀ w', Gr w w' → Calls Tryd.prog 13 #[.int .i64 3, .string B] w' fun e w2 => e = .returned (.tuple #[.string ⟨#[]⟩, .int .i64 3]) ∧ Gr w' w2) := HS0
    clear HS0 hse hT hBl
    go_enter Tryd.func7, Tryd.ntmps7
    go_wp2_with fail
    refine (HS.out _ (by repeat (first | exact Gr.refl _ | refine Gr.alloc ?_ | refine Gr.drew ?_ | refine Gr.trans ?_ (by assumption)))).mono ?_
    rintro e1 w1 ⟨rfl, hg1⟩
    go_wp2_with fail
    refine (HA.out _ (by repeat (first | exact Gr.refl _ | refine Gr.alloc ?_ | refine Gr.drew ?_ | refine Gr.trans ?_ (by assumption)))).mono ?_
    rintro e9 w9 ⟨rfl, hg9⟩
    go_wp2
    go_ret
    exact ⟨rfl, (by repeat (first | exact Gr.refl _ | refine Gr.alloc ?_ | refine Gr.drew ?_ | refine Gr.trans ?_ (by assumption)))⟩

set_option maxRecDepth 100000 in
theorem sealBursts_lifted (os : Os) (started : os.Started) (H : Type) (enc : TypeId × Value → H) :
    ReturnsInHanded {} Tryd.checked os 7 .any (fun w args => (Rows.sealBurstsSpec.pre enc Tryd.prog Tryd.f7 [] false w args ∧ laidMetH Tryd.prog laidL w) ∧ sizedMet enc Tryd.prog Tryd.f7 (OpenSpec.ofChange Rows.sealBurstsSpec) false w args)
      (Rows.sealBurstsSpec.post enc Tryd.prog Tryd.f7 false true false false) := by
  refine returnsInHanded_of_change_and (C := Tryd.checked) (X := fun w _ => laidMetH Tryd.prog laidL w) (fun _ _ _ hh h => h.of_heap hh) own2 started (by kernel_rfl) Tryd.func7
    (ChangeSpec.witness_shaped (enc := enc) (C := Tryd.checked) (os := os) (X := fun w _ => laidMetH Tryd.prog laidL w) false (World.doorLaid Tryd.prog 400 os) #[.string ByteArray.empty, .int .i64 0, .int .u64 0] 8 rfl (World.shaped_of_RefB (by kernel_rfl) (by kernel_rfl)) (by kernel_rfl) (by kernel_rfl) (by kernel_rfl) (door_met os _)) ?_
  intro W base args ds gs before hval0 hW _ hsz0 hL _
  have hval : ∀ (j : Nat) t v, Tryd.f7.params[j]? = some t → args[j]? = some v → Value.okWide Tryd.prog W .any base t v := hval0
  have hsz : (DataW.weightsEach Tryd.prog (Tryd.f7.params.toList ++ Rows.sealBurstsSpec.plain.varTypes Tryd.prog) (ds ++ gs)).all (· ≤ reachBytes) = true := hsz0
  have hW' := hW
  obtain ⟨p, q, hA0, hV, rfl, hfz, hnd⟩ := hW
  have hA : DataW.TrodAll enc Tryd.prog W 0 (fun _ => true) true Tryd.f7.params.toList args.toList ds p := hA0
  rw [Tryd.params7] at hA hval hsz
  obtain ⟨v0, v1, v2, d0, d1, d2, p0, p1, p2, rfl, rfl, rfl, h0, h1, h2⟩ := trodAll_three hA
  obtain ⟨rfl, rfl⟩ := trodVars_none hV
  obtain ⟨a0, rfl, rfl, rfl, wa0⟩ := open_string Tryd.underlying9 (hval 0 9 v0 rfl rfl) h0
  have hr0 : a0.size ≤ 140737488355328 := by
    have hr := sized_string hsz (j := 0) (t := 9) rfl rfl
    have : a0.data.toList.length = a0.size := by simp
    simp only [reachBytes] at hr
    omega
  obtain ⟨a1, rfl, rfl, rfl, wa1⟩ := open_int Tryd.underlying3 (hval 1 3 v1 rfl rfl) h1
  obtain ⟨a2, rfl, rfl, rfl, wa2⟩ := open_int Tryd.underlying24 (hval 2 24 v2 rfl rfl) h2
  clear hA0 hval0
  have hT := tab_of_laid hL
  have hb2 := bounds_u64 wa2
  obtain ⟨y2, rfl⟩ := Int.eq_ofNat_of_zero_le (show 0 ≤ a2 by omega)
  refine (sealBursts_walk a0 a1 y2 W hT (by omega) (by omega)).mono fun e W' ⟨he, hg⟩ => ?_
  subst he
  exact ⟨_, rfl, _, _, _, [], _, [], hW', trodAll_mk1 (shut_bool Tryd.underlying4 _), trodAll_mk3 (shut_string Tryd.underlying9 wa0) (shut_int Tryd.underlying3 wa1) (shut_int Tryd.underlying24 wa2), rfl, hg.below.frame _, fun h => by cases h⟩

theorem sealBursts_holds : Rows.SealBurstsSaid :=
  OpenClaim.holds_of_wide 7 Tryd.f7 rfl rfl rfl rfl rfl rfl rfl ⟨rfl, rfl, rfl, rfl, rfl⟩ rfl rfl rfl rfl rfl (by kernel_rfl) Tryd.func7 (by kernel_rfl)
    (of_decide_eq_true (by kernel_rfl)) (by unfold Func.isWrapper; first | (rw [if_pos (by decide +kernel)]; kernel_rfl) | (rw [if_neg (by decide +kernel)]; exact ⟨rfl, rfl⟩))
    (fun os started H enc _ => sealBursts_lifted os started H enc)

theorem sealBursts_card_holds : Rows.SealBurstsCardSaid :=
  Claim7.holds_tied_plain_at .later [] [.data] true (true, "1c24556f4e88b58e43e1ad978c52960a73eb3474e9c74cdefc0d2444945d9111") false
    sealBursts_holds (fun _ h => by cases h) (by kernel_rfl) (fun _ h => by cases h) sealBursts_row_tie rfl ⟨rfl, rfl⟩ (by kernel_rfl) rfl
    (fun f fn hf hfn => by
      obtain rfl : f = 7 := Option.some.inj ((show Tryd.prog.funcNamed "entente/ententelaw02.SealBursts" = some 7 by kernel_rfl).symm.trans hf) |>.symm
      obtain rfl : fn = Tryd.f7 := (Option.some.inj (Tryd.func7.symm.trans hfn)).symm
      exact ⟨by kernel_rfl, fun j t ht => by
        rw [Tryd.params7] at ht
        have hm : t ∈ [9, 3, 24] := by simpa using Array.mem_of_getElem? ht
        have hall : ([9, 3, 24].all fun u => !Tryd.prog.wantsStandIn u) = true := by kernel_rfl
        exact (show Tryd.prog.wantsStandIn t = false by simpa using List.all_eq_true.1 hall t hm)⟩)
    (by kernel_rfl)
end Go.Proofs.YtpdcnnlbafcohaaDoor
