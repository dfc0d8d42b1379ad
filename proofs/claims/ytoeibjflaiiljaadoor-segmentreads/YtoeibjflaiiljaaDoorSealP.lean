
/- seal.Seal answers Sl.sealE. -/
import Derived.Test.YtoeibjflaiiljaaDoorLaidP
import Derived.Test.YtoeibjflaiiljaaDoorTxtA
import Derived.Deep.RegionHeld3
namespace Go.Proofs.YtoeibjflaiiljaaDoor
open Go.RowKit

theorem conv2 (w : World) (b : Nat) (x : Nat) (hx : x < 256) (h0 : w.cell? ⟨b, 0, none⟩ = some (.int .u8 231)) (h : w.cell? ⟨b, 1, none⟩ = some (.int .u8 (x : Int))) :
    (convert 50 9 (.slice (some ⟨b, 0, none⟩) 2 2)).run Tryd.prog w = .ok (.string ⟨#[231, UInt8.ofNat x]⟩) w := by
  have := run_convert_bytes_back (P := Tryd.prog) w 50 9 5 ⟨b, 0, none⟩ 2 [231, UInt8.ofNat x] Tryd.underlying50 Tryd.underlying5 Tryd.underlying9 (by
    intro j hj
    match j, hj with
    | 0, _ => simpa [Addr.add] using h0
    | 1, _ => simpa [Addr.add, Nat.mod_eq_of_lt hx] using h)
  simpa using this
theorem strsAt2 {w : World} {b : Nat} {s t : ByteArray} (h0 : w.cell? ⟨b, 0, none⟩ = some (.string s)) (h1 : w.cell? ⟨b, 1, none⟩ = some (.string t)) : StrsAt w (some ⟨b, 0, none⟩) [s, t] := by
  intro j hj
  match j, hj with
  | 0, _ => exact ⟨b, 0, rfl, World.block_lt_of_cell? w _ h0, h0⟩
  | 1, _ => exact ⟨b, 0, rfl, World.block_lt_of_cell? w _ h1, h1⟩

set_option maxHeartbeats 1000000 in
set_option maxRecDepth 100000 in
theorem seal_any (v : Int) (b : ByteArray) (w : World) (hT : Tab w) (hs : b.size ≤ 9223372036854775807) :
    Calls Tryd.prog 18 #[.int .i64 v, .string b] w fun e w' => e = .returned (.tuple #[.string ⟨(Sl.sealE v b.data.toList).1.toArray⟩, .int .i64 (Sl.sealE v b.data.toList).2]) ∧ Gr w w' := by
  have hsz : b.data.toList.length = b.size := by simp
  have HV : Hid (∀ w : World, Calls Tryd.prog 33 #[.int .i64 v] w fun e w' => e = .returned (.bool (decide (0 ≤ v ∧ v ≤ 255))) ∧ w' = w) := fun w => isVersion_any v w
  by_cases hv : 0 ≤ v ∧ v ≤ 255
  · rw [decide_eq_true hv] at HV
    by_cases hb : b.size ≤ 30000
    · have HE : Hid (Sl.sealE v b.data.toList = (Sl.front v.toNat b.data.toList ++ Sl.eight (Sl.sum (Sl.front v.toNat b.data.toList)), 0)) := by
        show _ = _
        rw [Sl.sealE, if_pos hv, if_pos (by omega)]; rfl
      obtain ⟨x, hx⟩ : ∃ x : Nat, v = (x : Int) := ⟨v.toNat, by omega⟩
      subst hx
      have hx : x < 256 := by omega
      have hfl := Sl.front_len x b.data.toList
      have hnl := Pk.num_len b.data.toList.length
      have htl : (Pk.text b.data.toList).length = (Pk.num b.data.toList.length).length + b.data.toList.length := by unfold Pk.text; exact List.length_append
      have HX : Hid (∀ w : World, Calls Tryd.prog 34 #[.string b] w fun e w' => e = .returned (.string ⟨(Pk.text b.data.toList).toArray⟩) ∧ Gr w w') := fun w => text_any b w (by omega)
      have HS : Hid (∀ (w' : World) (k : Nat), Gr w w' → w'.cell? ⟨k, 0, none⟩ = some (.string ⟨#[231, UInt8.ofNat x]⟩) → w'.cell? ⟨k, 1, none⟩ = some (.string ⟨(Pk.text b.data.toList).toArray⟩) →
          Calls Tryd.prog 36 #[.slice (some ⟨k, 0, none⟩) 2 2] w' fun e w2 => e = .returned (.int .u64 (Sl.sum (Sl.front x b.data.toList) : Nat)) ∧ w2 = w') := by
        intro w' k g h0 h1
        have := sum_any [⟨#[231, UInt8.ofNat x]⟩, ⟨(Pk.text b.data.toList).toArray⟩] (some ⟨k, 0, none⟩) 2 w' (hT.gr g) (strsAt2 h0 h1) (by simp) (by
          intro s hs
          simp at hs
          rcases hs with rfl | rfl
          · simp [ByteArray.size]
          · have : (Pk.text b.data.toList).length ≤ 9223372036854775807 := by omega
            simpa [ByteArray.size] using this)
        simpa [flat, Sl.front] using this
      have HL : Hid (∀ w : World, Calls Tryd.prog 35 #[.int .u64 (Sl.sum (Sl.front x b.data.toList) : Nat)] w fun e w' => e = .returned (.string ⟨(Sl.eight (Sl.sum (Sl.front x b.data.toList))).toArray⟩) ∧ Gr w w') := fun w => laidSum_any _ w
      have hel := Sl.eight_len (Sl.sum (Sl.front x b.data.toList))
      have ha1 := add_lists [231, UInt8.ofNat x] (Pk.text b.data.toList) (by simp only [List.length_cons, List.length_nil]; omega)
      have ha2 := add_lists (Sl.front x b.data.toList) (Sl.eight (Sl.sum (Sl.front x b.data.toList))) (by omega)
      have hfd : [231, UInt8.ofNat x] ++ Pk.text b.data.toList = Sl.front x b.data.toList := rfl
      rw [hfd] at ha1
      have hcv := fun w k => conv2 w k x hx
      have hw8 := w8 (x : Int) (by omega) (by omega)
      have htn : ((x : Nat) : Int).toNat = x := by omega
      rw [htn] at HE
      generalize Sl.sum (Sl.front x b.data.toList) = sm at *
      generalize Sl.eight sm = e8 at *
      generalize Sl.front x b.data.toList = fr at *
      generalize Pk.text b.data.toList = tx at *
      clear hfd htn hel hnl hfl hsz htl
      go_enter Tryd.func18, Tryd.ntmps18
      go_wp2_with fail
      refine (HV.out _).mono ?_
      rintro e w1 ⟨rfl, rfl⟩
      go_wp2_with fail
      go_region_with (go_at_call 34; refine (HX.out _).mono ?_; rintro e w1 ⟨rfl, hb1⟩; obtain ⟨hc1, hf1⟩ := hb1.cells)
      all_goals go_wp2_with fail
      all_goals refine (HS.out _ _ (by exact (by repeat (first | exact Gr.refl _ | refine Gr.alloc ?_ | refine Gr.drew ?_ | refine Gr.trans ?_ (by assumption)))) (by simp) (by simp)).mono ?_
      all_goals rintro e w3 ⟨rfl, rfl⟩
      all_goals go_wp2_with fail
      all_goals refine (HL.out _).mono ?_
      all_goals rintro e w4 ⟨rfl, hg4⟩
      all_goals go_wp2
      all_goals go_ret2
      all_goals exact ⟨by rw [HE.out]; rfl, (by repeat (first | exact Gr.refl _ | refine Gr.alloc ?_ | refine Gr.drew ?_ | refine Gr.trans ?_ (by assumption)))⟩
    · have HE : Hid (Sl.sealE v b.data.toList = ([], 3)) := by
        show _ = _
        rw [Sl.sealE, if_pos hv, if_neg (by omega)]
      clear hsz
      go_enter Tryd.func18, Tryd.ntmps18
      go_wp2_with fail
      refine (HV.out _).mono ?_
      rintro e w1 ⟨rfl, rfl⟩
      go_wp2
      go_ret2
      rw [HE.out]
      exact ⟨rfl, Gr.refl _⟩
  · rw [decide_eq_false hv] at HV
    have HE : Hid (Sl.sealE v b.data.toList = ([], 2)) := by
      show _ = _
      rw [Sl.sealE, if_neg hv]
    clear hsz
    go_enter Tryd.func18, Tryd.ntmps18
    go_wp2_with fail
    refine (HV.out _).mono ?_
    rintro e w1 ⟨rfl, rfl⟩
    go_wp2
    go_ret2
    rw [HE.out]
    exact ⟨rfl, Gr.refl _⟩
end Go.Proofs.YtoeibjflaiiljaaDoor
