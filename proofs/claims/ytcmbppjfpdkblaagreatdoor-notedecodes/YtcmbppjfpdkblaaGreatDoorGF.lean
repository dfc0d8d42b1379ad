/- Parts of these proofs, laid together. -/
import Derived.Test.YtcmbppjfpdkblaaGreatDoorGA
import Derived.Test.YtcmbppjfpdkblaaGreatDoorGC
import Derived.Test.YtcmbppjfpdkblaaGreatDoorShelf
import Derived.Laws.Bits64
import Derived.Sort.Row
import Derived.Test.YtcmbppjfpdkblaaGreatDoorGD
import Derived.Deep.RegionHeld3
/- seal.Sum reckons Sl.sum. -/
namespace Go.Proofs.YtcmbppjfpdkblaaGreatDoor
open Go.RowKit

/- the table of seal, where the program has laid it -/
def Tab (w : World) : Prop := ∀ j, j < 16 → w.cell? ⟨1, j, none⟩ = some (.int .u64 ((Sl.zs 4 j : Nat) : Int))
theorem Tab.gr {w w' : World} (h : Tab w) (g : Gr w w') : Tab w' := fun j hj => g.keep (h j hj)

theorem step4 (y : Nat) (hy : y < 18446744073709551616) : bits .xor .u64 ((y : Int) / 16) ((Sl.zs 4 (y % 16) : Nat) : Int) = ((Sl.zs 4 y : Nat) : Int) := by
  have e : (y : Int) / 16 = ((y / 16 : Nat) : Int) := by omega
  rw [e, bits_xor_u64_nat _ _ (by omega) (Sl.zs_lt 4 _ (by omega)), Sl.four y]
theorem step1 (x c : Nat) (hx : x < 18446744073709551616) (hc : c < 256) : bits .xor .u64 (x : Int) (c : Int) = ((x ^^^ c : Nat) : Int) :=
  bits_xor_u64_nat _ _ hx (by omega)

theorem compl (x : Nat) (hx : x < 18446744073709551616) : bits .xor .u64 IntKind.u64.max (x : Int) = ((18446744073709551615 - x : Nat) : Int) := by
  have e : IntKind.u64.max = ((18446744073709551615 : Nat) : Int) := by decide
  rw [e, bits_xor_u64_nat _ _ (by omega) hx]
  exact congrArg _ (Sl.round_about x hx)

def flat (L : List ByteArray) : List UInt8 := L.flatMap fun s => s.data.toList
theorem flat_more (L : List ByteArray) (k : Nat) (h : k < L.length) : flat (L.take (k + 1)) = flat (L.take k) ++ L[k].data.toList := by
  unfold flat; rw [List.take_succ_eq_append_getElem h, List.flatMap_append]; simp

set_option maxHeartbeats 1000000 in
set_option maxRecDepth 100000 in
theorem sum_any (L : List ByteArray) (ad : Option Addr) (cap : Nat) (w : World) (hT : Tab w) (hL : StrsAt w ad L) (hn : L.length ≤ 9223372036854775807) (hsz : ∀ s ∈ L, s.size ≤ 9223372036854775807) :
    Calls Tryz.prog 63 #[.slice ad L.length cap] w fun e w' => e = .returned (.int .u64 (Sl.sum (flat L) : Nat)) ∧ w' = w := by
  have HL : Hid (StrsAt w ad L) := hL
  have HZ : Hid (∀ s ∈ L, s.size ≤ 9223372036854775807) := hsz
  have HT : Hid (Tab w) := hT
  clear hL hsz hT
  go_enter Tryz.func63, Tryz.ntmps63
  go_wp2
  go_loop [3, 9] (fun r i => ∃ k x : Nat, k ≤ L.length ∧ x < 18446744073709551616 ∧ i = .int .i64 k ∧ r = .int .u64 x ∧ x = Sl.crc Sl.ones (flat (L.take k))) (fun _ i => L.length - (intOf i).toNat)
  case atStart => exact ⟨0, 18446744073709551615, by omega, by omega, rfl, rfl, rfl⟩
  case round =>
    obtain ⟨k, x, hk, hx, rfl, rfl, hq⟩ := hrel
    have HQ : Hid (x = Sl.crc Sl.ones (flat (L.take k))) := hq
    clear hq
    by_cases hlt : k < L.length
    · obtain ⟨b, off, rfl, hbl, hc⟩ := HL.out k hlt
      have hz := HZ.out L[k] (List.getElem_mem hlt)
      have HF : Hid (Sl.crc Sl.ones (flat (L.take (k + 1))) = Sl.crc x L[k].data.toList) := by show _ = _; rw [flat_more L k hlt, Sl.crc_append, ← HQ.out]
      have hl : L[k].data.toList.length = L[k].size := by simp
      generalize L[k] = s at *
      go_wp2
      go_loop [3, 15] (fun r i => ∃ j y : Nat, j ≤ s.size ∧ y < 18446744073709551616 ∧ i = .int .i64 j ∧ r = .int .u64 y ∧ y = Sl.crc x (s.data.toList.take j)) (fun _ i => s.size - (intOf i).toNat)
      case atStart => exact ⟨0, x, by omega, hx, rfl, rfl, rfl⟩
      case round =>
        obtain ⟨j, y, hj, hy, rfl, rfl, hp⟩ := hrel
        have HP : Hid (y = Sl.crc x (s.data.toList.take j)) := hp
        clear hp
        by_cases hlt2 : j < s.size
        · have h8 : (s[j]'hlt2).toNat < 256 := (s[j]'hlt2).toNat_lt
          have HN : Hid (Sl.crc x (s.data.toList.take (j + 1)) = Sl.zs 8 (y ^^^ (s[j]'hlt2).toNat)) := by
            show _ = _
            rw [List.take_succ_eq_append_getElem (by rw [hl]; exact hlt2), Sl.crc_snoc, ← HP.out]; rfl
          have hx1 := step1 y _ hy h8
          have hy1 : y ^^^ (s[j]'hlt2).toNat < 18446744073709551616 := Nat.xor_lt_two_pow (n := 64) hy (by omega)
          have hx2 := step4 _ hy1
          have hc1 := HT.out ((y ^^^ (s[j]'hlt2).toNat) % 16) (by omega)
          have hy2 := Sl.zs_lt 4 _ hy1
          have hx3 := step4 _ hy2
          have hc2 := HT.out (Sl.zs 4 (y ^^^ (s[j]'hlt2).toNat) % 16) (by omega)
          have hy3 := Sl.zs_lt 4 _ hy2
          rw [Sl.eight_four] at HN
          go_wp2
          go_round
          case rel => exact ⟨j + 1, _, by omega, hy3, by go_num, rfl, HN.out.symm⟩
          case measure => simp [intOf]; omega
        · have hjs : j = s.size := by omega
          have HR : Hid (Sl.crc Sl.ones (flat (L.take (k + 1))) = y) := by
            show _ = _
            rw [HF.out, HP.out, hjs, ← hl, List.take_length]
          go_wp2
          go_round
          case rel => exact ⟨k + 1, y, by omega, hy, by go_num, rfl, HR.out.symm⟩
          case measure => simp [intOf]; omega
    · have hkl : k = L.length := by omega
      have HR : Hid (Sl.sum (flat L) = 18446744073709551615 - x) := by
        show _ = _
        rw [HQ.out, hkl, List.take_length]; rfl
      have hcm := compl x hx
      go_wp2
      go_ret
      rw [HR.out]
      exact ⟨rfl, rfl⟩
end Go.Proofs.YtcmbppjfpdkblaaGreatDoor
/- seal.laidSum lays Sl.eight; isVersion. -/
namespace Go.Proofs.YtcmbppjfpdkblaaGreatDoor
open Go.RowKit

set_option maxRecDepth 100000 in
theorem isVersion_any (v : Int) (w : World) : Calls Tryz.prog 61 #[.int .i64 v] w fun e w' => e = .returned (.bool (decide (0 ≤ v ∧ v ≤ 255))) ∧ w' = w := by
  by_cases h0 : 0 ≤ v
  · by_cases h1 : v ≤ 255
    · have e : decide (0 ≤ v ∧ v ≤ 255) = true := decide_eq_true ⟨h0, h1⟩
      rw [e]; clear e
      go_enter Tryz.func61, Tryz.ntmps61
      go_wp2
      go_ret
      exact ⟨rfl, rfl⟩
    · have e : decide (0 ≤ v ∧ v ≤ 255) = false := decide_eq_false (by omega)
      rw [e]; clear e
      have h1' : decide (v ≤ 255) = false := decide_eq_false h1
      go_enter Tryz.func61, Tryz.ntmps61
      go_wp2
      go_ret
      exact ⟨rfl, rfl⟩
  · have e : decide (0 ≤ v ∧ v ≤ 255) = false := decide_eq_false (by omega)
    rw [e]; clear e
    have h0' : decide (0 ≤ v) = false := decide_eq_false h0
    go_enter Tryz.func61, Tryz.ntmps61
    go_wp2
    go_ret
    exact ⟨rfl, rfl⟩

abbrev encB : UInt8 → Value := fun b => .int .u8 (b.toNat : Int)
def laidA (n k : Nat) : Array UInt8 := Array.ofFn (n := 8) fun i => if i.val < k then UInt8.ofNat (n / 256 ^ i.val % 256) else 0
theorem laidA_size (n k : Nat) : (laidA n k).size = 8 := by simp [laidA]
theorem laidA_more (n k : Nat) : (laidA n k).setIfInBounds k (UInt8.ofNat (n / 256 ^ k % 256)) = laidA n (k + 1) := by
  apply Array.ext
  · simp [laidA]
  · intro i h1 h2
    rw [Array.getElem_setIfInBounds (by simpa using h1)]
    simp only [laidA, Array.getElem_ofFn]
    by_cases h : k = i
    · subst h; simp
    · rw [if_neg h]
      have : (i < k) = (i < k + 1) := by apply propext; omega
      simp only [this]
theorem laidA_get (n k i : Nat) (h : i < (laidA n k).size) : (laidA n k)[i] = if i < k then UInt8.ofNat (n / 256 ^ i % 256) else 0 := by
  simp only [laidA, Array.getElem_ofFn]
theorem laidA_full (n : Nat) : (laidA n 8).toList = Sl.eight n := by
  apply List.ext_getElem
  · simp [laidA_size, Sl.eight_len]
  · intro i h1 h2
    rw [Sl.eight_get]
    have hi : i < 8 := by simpa [laidA_size] using h1
    rw [Array.getElem_toList, laidA_get, if_pos hi]

abbrev w8z (w : World) : World := w.alloc (.cells #[.int .u8 0, .int .u8 0, .int .u8 0, .int .u8 0, .int .u8 0, .int .u8 0, .int .u8 0, .int .u8 0] 111)
theorem w8z_holds (n : Nat) (w : World) : Sort.Holds encB (w8z w) w.heap.size 0 (laidA n 0) := by
  intro j hj
  rw [laidA_size] at hj
  have e : (laidA n 0)[j]! = 0 := by
    rw [getElem!_pos _ j (by rw [laidA_size]; exact hj)]; simp [laidA]
  rw [e]
  match j, hj with
  | 0, _ => exact ⟨by simp, by simp⟩
  | 1, _ => exact ⟨by simp, by simp⟩
  | 2, _ => exact ⟨by simp, by simp⟩
  | 3, _ => exact ⟨by simp, by simp⟩
  | 4, _ => exact ⟨by simp, by simp⟩
  | 5, _ => exact ⟨by simp, by simp⟩
  | 6, _ => exact ⟨by simp, by simp⟩
  | 7, _ => exact ⟨by simp, by simp⟩
theorem putRow_gr {w w1 : World} {d : Array UInt8} (g : Gr w w1) : Gr w (Sort.putRow encB w1 w.heap.size 0 d) := by
  refine ⟨⟨g.below.os, g.below.tape, g.below.output, by simpa using g.size, ?_⟩⟩
  intro k hk
  rw [← g.below.block k hk]
  simp [Sort.putRow, Sort.mapBlock, Array.getElem?_modify]
  omega

set_option maxHeartbeats 400000 in
set_option maxRecDepth 100000 in
theorem laidSum_any (n : Nat) (w : World) :
    Calls Tryz.prog 62 #[.int .u64 n] w fun e w' => e = .returned (.string ⟨(Sl.eight n).toArray⟩) ∧ Gr w w' := by
  have HZ := w8z_holds n w
  go_enter Tryz.func62, Tryz.ntmps62
  go_wp2
  go_loopw [5] (fun i wr => ∃ k : Nat, k ≤ 8 ∧ i = .int .i64 k ∧ wr = Sort.putRow encB (w8z w) w.heap.size 0 (laidA n k)) (fun i _ => 8 - (intOf i).toNat)
  case atStart => exact ⟨0, by omega, rfl, (Sort.putRow_self encB _ _ _ _ HZ).symm⟩
  case round =>
    obtain ⟨k, hk, rfl, hwr⟩ := hrel
    have HW : Hid (wr = Sort.putRow encB (w8z w) w.heap.size 0 (laidA n k)) := hwr
    have hH := Sort.holds_putRow encB (w8z w) w.heap.size 0 (laidA n 0) (laidA n k) HZ (by rw [laidA_size, laidA_size])
    rw [← hwr] at hH
    have HH : Hid (Sort.Holds encB wr w.heap.size 0 (laidA n k)) := hH
    clear hwr hH HZ
    by_cases hlt : k < 8
    · have hc := HH.out k (by rw [laidA_size]; exact hlt)
      simp only [Nat.zero_add] at hc
      obtain ⟨hc1, hc2⟩ := hc
      have hb : IntKind.u8.wrap ((n : Int) / 2 ^ (8 * k)) = (((UInt8.ofNat (n / 256 ^ k % 256)).toNat : Nat) : Int) := by
        have e : (2 : Int) ^ (8 * k) = ((256 ^ k : Nat) : Int) := by rw [Int.pow_mul]; simp
        rw [e, IntKind.wrap_u8]
        generalize 256 ^ k = q
        have e2 : (n : Int) / (q : Int) = ((n / q : Nat) : Int) := by simp
        rw [e2]
        generalize n / q = m
        simp
      go_wp2
      go_roundw
      case rel =>
        refine ⟨k + 1, by omega, by go_num, ?_⟩
        have hv : (Value.int .u8 ((n : Int) / 256 ^ k % 256)) = encB (UInt8.ofNat (n / 256 ^ k % 256)) := by
          have e : ((n : Int) / 256 ^ k) = ((n / 256 ^ k : Nat) : Int) := by simp
          rw [e]
          generalize n / 256 ^ k = m
          simp [encB]
        have := Sort.putRow_set encB (w8z w) w.heap.size 0 (laidA n k) k (UInt8.ofNat (n / 256 ^ k % 256)) (by rw [laidA_size]; exact hlt)
        rw [laidA_more, Nat.zero_add, ← HW.out, ← hv] at this
        exact this
      case measure => simp [intOf]; omega
    · have hk8 : k = 8 := by omega
      subst hk8
      have hcv := run_convert_bytes_back (P := Tryz.prog) wr 90 9 5 ⟨w.heap.size, 0, none⟩ 8 (Sl.eight n) Tryz.underlying90 Tryz.underlying5 Tryz.underlying9 (by
        intro j hj
        rw [Sl.eight_len] at hj
        have := (HH.out j (by rw [laidA_size]; exact hj)).1
        rw [getElem!_pos _ j (by rw [laidA_size]; exact hj)] at this
        simp only [Addr.add_lit]
        rw [this]
        simp only [encB, ← laidA_full, Array.getElem_toList])
      rw [Sl.eight_len] at hcv
      clear hlt
      go_wp2
      go_ret
      exact ⟨rfl, by rw [HW.out]; exact putRow_gr (Gr.refl w).alloc⟩
end Go.Proofs.YtcmbppjfpdkblaaGreatDoor
/- seal.Seal answers Sl.sealE. -/
namespace Go.Proofs.YtcmbppjfpdkblaaGreatDoor
open Go.RowKit

theorem conv2 (w : World) (b : Nat) (x : Nat) (hx : x < 256) (h0 : w.cell? ⟨b, 0, none⟩ = some (.int .u8 231)) (h : w.cell? ⟨b, 1, none⟩ = some (.int .u8 (x : Int))) :
    (convert 90 9 (.slice (some ⟨b, 0, none⟩) 2 2)).run Tryz.prog w = .ok (.string ⟨#[231, UInt8.ofNat x]⟩) w := by
  have := run_convert_bytes_back (P := Tryz.prog) w 90 9 5 ⟨b, 0, none⟩ 2 [231, UInt8.ofNat x] Tryz.underlying90 Tryz.underlying5 Tryz.underlying9 (by
    intro j hj
    match j, hj with
    | 0, _ => simpa [Addr.add] using h0
    | 1, _ => simpa [Addr.add, Nat.mod_eq_of_lt hx] using h)
  simpa using this
theorem strsAt2 {w : World} {b : Nat} {s t : ByteArray} (h0 : w.cell? ⟨b, 0, none⟩ = some (.string s)) (h1 : w.cell? ⟨b, 1, none⟩ = some (.string t)) : StrsAt w (some ⟨b, 0, none⟩) [s, t] := by
  intro j hj
  match j, hj with
  | 0, _ => exact ⟨b, 0, rfl, World.block_lt_of_cell? w _ h0, h0⟩
  | 1, _ => exact ⟨b, 0, rfl, World.block_lt_of_cell? w _ h1, h1⟩

set_option maxHeartbeats 1000000 in
set_option maxRecDepth 100000 in
theorem seal_any (v : Int) (b : ByteArray) (w : World) (hT : Tab w) (hs : b.size ≤ 9223372036854775807) :
    Calls Tryz.prog 39 #[.int .i64 v, .string b] w fun e w' => e = .returned (.tuple #[.string ⟨(Sl.sealE v b.data.toList).1.toArray⟩, .int .i64 (Sl.sealE v b.data.toList).2]) ∧ Gr w w' := by
  have hsz : b.data.toList.length = b.size := by simp
  have HV : Hid (∀ w : World, Calls Tryz.prog 61 #[.int .i64 v] w fun e w' => e = .returned (.bool (decide (0 ≤ v ∧ v ≤ 255))) ∧ w' = w) := fun w => isVersion_any v w
  by_cases hv : 0 ≤ v ∧ v ≤ 255
  · rw [decide_eq_true hv] at HV
    by_cases hb : b.size ≤ 30000
    · have HE : Hid (Sl.sealE v b.data.toList = (Sl.front v.toNat b.data.toList ++ Sl.eight (Sl.sum (Sl.front v.toNat b.data.toList)), 0)) := by
        show _ = _
        rw [Sl.sealE, if_pos hv, if_pos (by omega)]; rfl
      obtain ⟨x, hx⟩ : ∃ x : Nat, v = (x : Int) := ⟨v.toNat, by omega⟩
      subst hx
      have hx : x < 256 := by omega
      have hfl := Sl.front_len x b.data.toList
      have hnl := Pk.num_len b.data.toList.length
      have htl : (Pk.text b.data.toList).length = (Pk.num b.data.toList.length).length + b.data.toList.length := by unfold Pk.text; exact List.length_append
      have HX : Hid (∀ w : World, Calls Tryz.prog 60 #[.string b] w fun e w' => e = .returned (.string ⟨(Pk.text b.data.toList).toArray⟩) ∧ Gr w w') := fun w => text_any b w (by omega)
      have HS : Hid (∀ (w' : World) (k : Nat), Gr w w' → w'.cell? ⟨k, 0, none⟩ = some (.string ⟨#[231, UInt8.ofNat x]⟩) → w'.cell? ⟨k, 1, none⟩ = some (.string ⟨(Pk.text b.data.toList).toArray⟩) →
          Calls Tryz.prog 63 #[.slice (some ⟨k, 0, none⟩) 2 2] w' fun e w2 => e = .returned (.int .u64 (Sl.sum (Sl.front x b.data.toList) : Nat)) ∧ w2 = w') := by
        intro w' k g h0 h1
        have := sum_any [⟨#[231, UInt8.ofNat x]⟩, ⟨(Pk.text b.data.toList).toArray⟩] (some ⟨k, 0, none⟩) 2 w' (hT.gr g) (strsAt2 h0 h1) (by simp) (by
          intro s hs
          simp at hs
          rcases hs with rfl | rfl
          · simp [ByteArray.size]
          · have : (Pk.text b.data.toList).length ≤ 9223372036854775807 := by omega
            simpa [ByteArray.size] using this)
        simpa [flat, Sl.front] using this
      have HL : Hid (∀ w : World, Calls Tryz.prog 62 #[.int .u64 (Sl.sum (Sl.front x b.data.toList) : Nat)] w fun e w' => e = .returned (.string ⟨(Sl.eight (Sl.sum (Sl.front x b.data.toList))).toArray⟩) ∧ Gr w w') := fun w => laidSum_any _ w
      have hel := Sl.eight_len (Sl.sum (Sl.front x b.data.toList))
      have ha1 := add_lists [231, UInt8.ofNat x] (Pk.text b.data.toList) (by simp only [List.length_cons, List.length_nil]; omega)
      have ha2 := add_lists (Sl.front x b.data.toList) (Sl.eight (Sl.sum (Sl.front x b.data.toList))) (by omega)
      have hfd : [231, UInt8.ofNat x] ++ Pk.text b.data.toList = Sl.front x b.data.toList := rfl
      rw [hfd] at ha1
      have hcv := fun w k => conv2 w k x hx
      have hw8 := w8 (x : Int) (by omega) (by omega)
      have htn : ((x : Nat) : Int).toNat = x := by omega
      rw [htn] at HE
      generalize Sl.sum (Sl.front x b.data.toList) = sm at *
      generalize Sl.eight sm = e8 at *
      generalize Sl.front x b.data.toList = fr at *
      generalize Pk.text b.data.toList = tx at *
      clear hfd htn hel hnl hfl hsz htl
      go_enter Tryz.func39, Tryz.ntmps39
      go_wp2_with fail
      refine (HV.out _).mono ?_
      rintro e w1 ⟨rfl, rfl⟩
      go_wp2_with fail
      go_region_with (go_at_call 60; refine (HX.out _).mono ?_; rintro e w1 ⟨rfl, hb1⟩; obtain ⟨hc1, hf1⟩ := hb1.cells)
      all_goals go_wp2_with fail
      all_goals refine (HS.out _ _ (by exact (by repeat (first | exact Gr.refl _ | refine Gr.alloc ?_ | refine Gr.drew ?_ | refine Gr.trans ?_ (by assumption)))) (by simp) (by simp)).mono ?_
      all_goals rintro e w3 ⟨rfl, rfl⟩
      all_goals go_wp2_with fail
      all_goals refine (HL.out _).mono ?_
      all_goals rintro e w4 ⟨rfl, hg4⟩
      all_goals go_wp2
      all_goals go_ret2
      all_goals exact ⟨by rw [HE.out]; rfl, (by repeat (first | exact Gr.refl _ | refine Gr.alloc ?_ | refine Gr.drew ?_ | refine Gr.trans ?_ (by assumption)))⟩
    · have HE : Hid (Sl.sealE v b.data.toList = ([], 3)) := by
        show _ = _
        rw [Sl.sealE, if_pos hv, if_neg (by omega)]
      clear hsz
      go_enter Tryz.func39, Tryz.ntmps39
      go_wp2_with fail
      refine (HV.out _).mono ?_
      rintro e w1 ⟨rfl, rfl⟩
      go_wp2
      go_ret2
      rw [HE.out]
      exact ⟨rfl, Gr.refl _⟩
  · rw [decide_eq_false hv] at HV
    have HE : Hid (Sl.sealE v b.data.toList = ([], 2)) := by
      show _ = _
      rw [Sl.sealE, if_neg hv]
    clear hsz
    go_enter Tryz.func39, Tryz.ntmps39
    go_wp2_with fail
    refine (HV.out _).mono ?_
    rintro e w1 ⟨rfl, rfl⟩
    go_wp2
    go_ret2
    rw [HE.out]
    exact ⟨rfl, Gr.refl _⟩
end Go.Proofs.YtcmbppjfpdkblaaGreatDoor
