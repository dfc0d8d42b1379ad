
/- seal.laidSum lays Sl.eight; isVersion. -/
import Derived.Test.YtoeibjflaiiljaaDoorSealM
import Derived.Test.YtoeibjflaiiljaaDoorSumP
import Derived.Sort.Row
namespace Go.Proofs.YtoeibjflaiiljaaDoor
open Go.RowKit

set_option maxRecDepth 100000 in
theorem isVersion_any (v : Int) (w : World) : Calls Tryd.prog 33 #[.int .i64 v] w fun e w' => e = .returned (.bool (decide (0 ≤ v ∧ v ≤ 255))) ∧ w' = w := by
  by_cases h0 : 0 ≤ v
  · by_cases h1 : v ≤ 255
    · have e : decide (0 ≤ v ∧ v ≤ 255) = true := decide_eq_true ⟨h0, h1⟩
      rw [e]; clear e
      go_enter Tryd.func33, Tryd.ntmps33
      go_wp2
      go_ret
      exact ⟨rfl, rfl⟩
    · have e : decide (0 ≤ v ∧ v ≤ 255) = false := decide_eq_false (by omega)
      rw [e]; clear e
      have h1' : decide (v ≤ 255) = false := decide_eq_false h1
      go_enter Tryd.func33, Tryd.ntmps33
      go_wp2
      go_ret
      exact ⟨rfl, rfl⟩
  · have e : decide (0 ≤ v ∧ v ≤ 255) = false := decide_eq_false (by omega)
    rw [e]; clear e
    have h0' : decide (0 ≤ v) = false := decide_eq_false h0
    go_enter Tryd.func33, Tryd.ntmps33
    go_wp2
    go_ret
    exact ⟨rfl, rfl⟩

abbrev encB : UInt8 → Value := fun b => .int .u8 (b.toNat : Int)
def laidA (n k : Nat) : Array UInt8 := Array.ofFn (n := 8) fun i => if i.val < k then UInt8.ofNat (n / 256 ^ i.val % 256) else 0
theorem laidA_size (n k : Nat) : (laidA n k).size = 8 := by simp [laidA]
theorem laidA_more (n k : Nat) : (laidA n k).setIfInBounds k (UInt8.ofNat (n / 256 ^ k % 256)) = laidA n (k + 1) := by
  apply Array.ext
  · simp [laidA]
  · intro i h1 h2
    rw [Array.getElem_setIfInBounds (by simpa using h1)]
    simp only [laidA, Array.getElem_ofFn]
    by_cases h : k = i
    · subst h; simp
    · rw [if_neg h]
      have : (i < k) = (i < k + 1) := by apply propext; omega
      simp only [this]
theorem laidA_get (n k i : Nat) (h : i < (laidA n k).size) : (laidA n k)[i] = if i < k then UInt8.ofNat (n / 256 ^ i % 256) else 0 := by
  simp only [laidA, Array.getElem_ofFn]
theorem laidA_full (n : Nat) : (laidA n 8).toList = Sl.eight n := by
  apply List.ext_getElem
  · simp [laidA_size, Sl.eight_len]
  · intro i h1 h2
    rw [Sl.eight_get]
    have hi : i < 8 := by simpa [laidA_size] using h1
    rw [Array.getElem_toList, laidA_get, if_pos hi]

abbrev w8z (w : World) : World := w.alloc (.cells #[.int .u8 0, .int .u8 0, .int .u8 0, .int .u8 0, .int .u8 0, .int .u8 0, .int .u8 0, .int .u8 0] 86)
theorem w8z_holds (n : Nat) (w : World) : Sort.Holds encB (w8z w) w.heap.size 0 (laidA n 0) := by
  intro j hj
  rw [laidA_size] at hj
  have e : (laidA n 0)[j]! = 0 := by
    rw [getElem!_pos _ j (by rw [laidA_size]; exact hj)]; simp [laidA]
  rw [e]
  match j, hj with
  | 0, _ => exact ⟨by simp, by simp⟩
  | 1, _ => exact ⟨by simp, by simp⟩
  | 2, _ => exact ⟨by simp, by simp⟩
  | 3, _ => exact ⟨by simp, by simp⟩
  | 4, _ => exact ⟨by simp, by simp⟩
  | 5, _ => exact ⟨by simp, by simp⟩
  | 6, _ => exact ⟨by simp, by simp⟩
  | 7, _ => exact ⟨by simp, by simp⟩
theorem putRow_gr {w w1 : World} {d : Array UInt8} (g : Gr w w1) : Gr w (Sort.putRow encB w1 w.heap.size 0 d) := by
  refine ⟨⟨g.below.os, g.below.tape, g.below.output, by simpa using g.size, ?_⟩⟩
  intro k hk
  rw [← g.below.block k hk]
  simp [Sort.putRow, Sort.mapBlock, Array.getElem?_modify]
  omega

set_option maxHeartbeats 400000 in
set_option maxRecDepth 100000 in
theorem laidSum_any (n : Nat) (w : World) :
    Calls Tryd.prog 35 #[.int .u64 n] w fun e w' => e = .returned (.string ⟨(Sl.eight n).toArray⟩) ∧ Gr w w' := by
  have HZ := w8z_holds n w
  go_enter Tryd.func35, Tryd.ntmps35
  go_wp2
  go_loopw [5] (fun i wr => ∃ k : Nat, k ≤ 8 ∧ i = .int .i64 k ∧ wr = Sort.putRow encB (w8z w) w.heap.size 0 (laidA n k)) (fun i _ => 8 - (intOf i).toNat)
  case atStart => exact ⟨0, by omega, rfl, (Sort.putRow_self encB _ _ _ _ HZ).symm⟩
  case round =>
    obtain ⟨k, hk, rfl, hwr⟩ := hrel
    have HW : Hid (wr = Sort.putRow encB (w8z w) w.heap.size 0 (laidA n k)) := hwr
    have hH := Sort.holds_putRow encB (w8z w) w.heap.size 0 (laidA n 0) (laidA n k) HZ (by rw [laidA_size, laidA_size])
    rw [← hwr] at hH
    have HH : Hid (Sort.Holds encB wr w.heap.size 0 (laidA n k)) := hH
    clear hwr hH HZ
    by_cases hlt : k < 8
    · have hc := HH.out k (by rw [laidA_size]; exact hlt)
      simp only [Nat.zero_add] at hc
      obtain ⟨hc1, hc2⟩ := hc
      have hb : IntKind.u8.wrap ((n : Int) / 2 ^ (8 * k)) = (((UInt8.ofNat (n / 256 ^ k % 256)).toNat : Nat) : Int) := by
        have e : (2 : Int) ^ (8 * k) = ((256 ^ k : Nat) : Int) := by rw [Int.pow_mul]; simp
        rw [e, IntKind.wrap_u8]
        generalize 256 ^ k = q
        have e2 : (n : Int) / (q : Int) = ((n / q : Nat) : Int) := by simp
        rw [e2]
        generalize n / q = m
        simp
      go_wp2
      go_roundw
      case rel =>
        refine ⟨k + 1, by omega, by go_num, ?_⟩
        have hv : (Value.int .u8 ((n : Int) / 256 ^ k % 256)) = encB (UInt8.ofNat (n / 256 ^ k % 256)) := by
          have e : ((n : Int) / 256 ^ k) = ((n / 256 ^ k : Nat) : Int) := by simp
          rw [e]
          generalize n / 256 ^ k = m
          simp [encB]
        have := Sort.putRow_set encB (w8z w) w.heap.size 0 (laidA n k) k (UInt8.ofNat (n / 256 ^ k % 256)) (by rw [laidA_size]; exact hlt)
        rw [laidA_more, Nat.zero_add, ← HW.out, ← hv] at this
        exact this
      case measure => simp [intOf]; omega
    · have hk8 : k = 8 := by omega
      subst hk8
      have hcv := run_convert_bytes_back (P := Tryd.prog) wr 50 9 5 ⟨w.heap.size, 0, none⟩ 8 (Sl.eight n) Tryd.underlying50 Tryd.underlying5 Tryd.underlying9 (by
        intro j hj
        rw [Sl.eight_len] at hj
        have := (HH.out j (by rw [laidA_size]; exact hj)).1
        rw [getElem!_pos _ j (by rw [laidA_size]; exact hj)] at this
        simp only [Addr.add_lit]
        rw [this]
        simp only [encB, ← laidA_full, Array.getElem_toList])
      rw [Sl.eight_len] at hcv
      clear hlt
      go_wp2
      go_ret
      exact ⟨rfl, by rw [HW.out]; exact putRow_gr (Gr.refl w).alloc⟩
end Go.Proofs.YtoeibjflaiiljaaDoor
