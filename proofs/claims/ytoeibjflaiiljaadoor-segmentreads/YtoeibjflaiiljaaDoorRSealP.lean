
/- The document's Seal answers Sl.sealE. -/
import Derived.Test.YtoeibjflaiiljaaDoorSealP
import Derived.Test.YtoeibjflaiiljaaDoorREigP
import Derived.Test.YtoeibjflaiiljaaDoorRSumP
import Derived.Test.YtoeibjflaiiljaaDoorRTxtA
namespace Go.Proofs.YtoeibjflaiiljaaDoor
open Go.RowKit

set_option maxHeartbeats 1000000 in
set_option maxRecDepth 100000 in
theorem refSeal_any (v : Int) (b : ByteArray) (w : World) (hs : b.size ≤ 9223372036854775807) :
    Calls Tryd.prog 10 #[.int .i64 v, .string b] w fun e w' => e = .returned (.tuple #[.string ⟨(Sl.sealE v b.data.toList).1.toArray⟩, .int .i64 (Sl.sealE v b.data.toList).2]) ∧ Gr w w' := by
  have hsz : b.data.toList.length = b.size := by simp
  by_cases hv : 0 ≤ v ∧ v ≤ 255
  · have hv0 : decide (v < 0) = false := decide_eq_false (by omega)
    have hv1 : decide (255 < v) = false := decide_eq_false (by omega)
    by_cases hb : b.size ≤ 30000
    · have HE : Hid (Sl.sealE v b.data.toList = (Sl.front v.toNat b.data.toList ++ Sl.eight (Sl.sum (Sl.front v.toNat b.data.toList)), 0)) := by
        show _ = _
        rw [Sl.sealE, if_pos hv, if_pos (by omega)]; rfl
      obtain ⟨x, hx⟩ : ∃ x : Nat, v = (x : Int) := ⟨v.toNat, by omega⟩
      subst hx
      have hx : x < 256 := by omega
      have hfl := Sl.front_len x b.data.toList
      have hnl := Pk.num_len b.data.toList.length
      have htl : (Pk.text b.data.toList).length = (Pk.num b.data.toList.length).length + b.data.toList.length := by unfold Pk.text; exact List.length_append
      have HX : Hid (∀ w : World, Calls Tryd.prog 19 #[.string b] w fun e w' => e = .returned (.string ⟨(Pk.text b.data.toList).toArray⟩) ∧ Gr w w') := fun w => refText_any b w (by omega)
      have HS : Hid (∀ (w' : World), Calls Tryd.prog 21 #[.string ⟨(Sl.front x b.data.toList).toArray⟩] w' fun e w2 => e = .returned (.int .u64 (Sl.sum (Sl.front x b.data.toList) : Nat)) ∧ w2 = w') := by
        intro w'
        have := refSum_any ⟨(Sl.front x b.data.toList).toArray⟩ w' (by simp [ByteArray.size]; omega)
        simpa using this
      have hsl := Sl.sum_lt (Sl.front x b.data.toList)
      have HL : Hid (∀ w : World, Calls Tryd.prog 20 #[.int .u64 (Sl.sum (Sl.front x b.data.toList) : Nat)] w fun e w' => e = .returned (.string ⟨(Sl.eight (Sl.sum (Sl.front x b.data.toList))).toArray⟩) ∧ Gr w w') := fun w => eight_any _ w hsl
      have hel := Sl.eight_len (Sl.sum (Sl.front x b.data.toList))
      have ha1 := add_lists [231, UInt8.ofNat x] (Pk.text b.data.toList) (by simp only [List.length_cons, List.length_nil]; omega)
      have ha2 := add_lists (Sl.front x b.data.toList) (Sl.eight (Sl.sum (Sl.front x b.data.toList))) (by omega)
      have hfd : [231, UInt8.ofNat x] ++ Pk.text b.data.toList = Sl.front x b.data.toList := rfl
      rw [hfd] at ha1
      have hcv := fun w k => conv2 w k x hx
      have hw8 := w8 (x : Int) (by omega) (by omega)
      have htn : ((x : Nat) : Int).toNat = x := by omega
      rw [htn] at HE
      generalize Sl.sum (Sl.front x b.data.toList) = sm at *
      generalize Sl.eight sm = e8 at *
      generalize Sl.front x b.data.toList = fr at *
      generalize Pk.text b.data.toList = tx at *
      clear hfd htn hel hnl hfl hsz htl
      go_enter Tryd.func10, Tryd.ntmps10
      go_wp2_with fail
      go_region_with (go_at_call 19; refine (HX.out _).mono ?_; rintro e w1 ⟨rfl, hb1⟩; obtain ⟨hc1, hf1⟩ := hb1.cells)
      all_goals go_wp2_with fail
      all_goals refine (HS.out _).mono ?_
      all_goals rintro e w3 ⟨rfl, rfl⟩
      all_goals go_wp2_with fail
      all_goals refine (HL.out _).mono ?_
      all_goals rintro e w4 ⟨rfl, hg4⟩
      all_goals go_wp2
      all_goals go_ret2
      all_goals exact ⟨by rw [HE.out]; rfl, (by repeat (first | exact Gr.refl _ | refine Gr.alloc ?_ | refine Gr.drew ?_ | refine Gr.trans ?_ (by assumption)))⟩
    · have HE : Hid (Sl.sealE v b.data.toList = ([], 3)) := by
        show _ = _
        rw [Sl.sealE, if_pos hv, if_neg (by omega)]
      clear hsz
      go_enter Tryd.func10, Tryd.ntmps10
      go_wp2
      go_ret2
      rw [HE.out]
      exact ⟨rfl, Gr.refl _⟩
  · have HE : Hid (Sl.sealE v b.data.toList = ([], 2)) := by
      show _ = _
      rw [Sl.sealE, if_neg hv]
    clear hsz
    by_cases h0 : v < 0
    · go_enter Tryd.func10, Tryd.ntmps10
      go_wp2
      go_ret2
      rw [HE.out]
      exact ⟨rfl, Gr.refl _⟩
    · have hv0 : decide (v < 0) = false := decide_eq_false (by omega)
      have h1 : 255 < v := by omega
      go_enter Tryd.func10, Tryd.ntmps10
      go_wp2
      go_ret2
      rw [HE.out]
      exact ⟨rfl, Gr.refl _⟩
end Go.Proofs.YtoeibjflaiiljaaDoor
