
/- seal.bodyEnds answers Sl.endsE, seal.Open Sl.openE. -/
import Derived.Test.YtoeibjflaiiljaaDoorHeadP
import Derived.Test.YtoeibjflaiiljaaDoorSealP
import Derived.Test.YtoeibjflaiiljaaDoorTake
import Derived.Test.YtoeibjflaiiljaaDoorCloA
namespace Go.Proofs.YtoeibjflaiiljaaDoor
open Go.RowKit

theorem ext_dat (s : ByteArray) (a n : Nat) : (s.extract a (a + n)).data.toList = (s.data.toList.drop a).take n := by
  rw [Lib.extract_data]; simp

set_option maxHeartbeats 1000000 in
set_option maxRecDepth 100000 in
theorem bodyEnds_any (s : ByteArray) (p v : Int) (w : World) (hs : s.size ≤ 140737488355328) :
    Calls Tryd.prog 39 #[.string s, .int .i64 p, .int .i64 v] w fun e w' => e = .returned (.tuple #[.int .i64 (Sl.endsE s.data.toList p v).1, .int .i64 (Sl.endsE s.data.toList p v).2.1, .int .i64 (Sl.endsE s.data.toList p v).2.2]) ∧ Gr w w' := by
  have hsz : s.data.toList.length = s.size := by simp
  have HC : Hid (∀ w : World, Calls Tryd.prog 45 #[.string s, .int .i64 p, .int .i64 v] w fun e w' => e = .returned (.int .i64 (Sl.headE s.data.toList p v : Nat)) ∧ w' = w) := fun w => checkHead_any s p v w
  by_cases h0 : Sl.headE s.data.toList p v = 0
  · obtain ⟨ha, _, _, hb, _⟩ := Sl.head_ok _ _ _ h0
    have HT : Hid (∀ w : World, Calls Tryd.prog 46 #[.string s, .int .i64 (p + 2)] w fun e w' => e = .returned (.tuple #[.int .u64 (Pk.takeNum s.data.toList (p + 2)).1, .int .i64 (Pk.takeNum s.data.toList (p + 2)).2.1, .int .i64 (Pk.takeNum s.data.toList (p + 2)).2.2]) ∧ w' = w) := fun w => takeNumber_any s (p + 2) w hs
    have hsp := Pk.takeNum_spec s.data.toList (p + 2)
    have HD : Hid (Sl.endsE s.data.toList p v = if (Pk.takeNum s.data.toList (p + 2)).2.2 = 0 then
      (if (Pk.takeNum s.data.toList (p + 2)).1 ≤ 30000 then
        (if (Pk.takeNum s.data.toList (p + 2)).2.1 + (Pk.takeNum s.data.toList (p + 2)).1 + 8 ≤ s.data.toList.length then ((Pk.takeNum s.data.toList (p + 2)).2.1, (Pk.takeNum s.data.toList (p + 2)).2.1 + (Pk.takeNum s.data.toList (p + 2)).1, 0) else (0, 0, 10))
      else (0, 0, 3))
      else (0, 0, (Pk.takeNum s.data.toList (p + 2)).2.2)) := by
      show _ = _
      rw [Sl.endsE, if_pos h0]
    rw [h0] at HC
    obtain ⟨⟨n, f, e⟩, ht⟩ : ∃ r, Pk.takeNum s.data.toList (p + 2) = r := ⟨_, rfl⟩
    rw [ht] at HT HD hsp
    simp only at HT HD hsp
    by_cases he : e = 0
    · subst he
      have hb1 : n < 18446744073709551616 ∧ f ≤ s.size := by
        rcases hsp with h | h | h | h <;> simp at h <;> omega
      obtain ⟨hn, hf⟩ := hb1
      clear hsp
      by_cases hn3 : n ≤ 30000
      · by_cases hl : f + n + 8 ≤ s.size
        · have HE : Hid (Sl.endsE s.data.toList p v = (f, f + n, 0)) := by
            show _ = _
            rw [HD.out, if_pos rfl, if_pos hn3, if_pos (by omega)]
          go_enter Tryd.func39, Tryd.ntmps39
          go_wp2_with fail
          refine (HC.out _).mono ?_
          rintro e w1 ⟨rfl, rfl⟩
          go_wp2_with fail
          refine (HT.out _).mono ?_
          rintro e w1 ⟨rfl, rfl⟩
          go_wp2
          go_ret3
          rw [HE.out]
          exact ⟨by go_num, Gr.refl _⟩
        · have HE : Hid (Sl.endsE s.data.toList p v = (0, 0, 10)) := by
            show _ = _
            rw [HD.out, if_pos rfl, if_pos hn3, if_neg (by omega)]
          have hlt : (s.size : Int) - ((f : Int) + (n : Int)) < 8 := by omega
          go_enter Tryd.func39, Tryd.ntmps39
          go_wp2_with fail
          refine (HC.out _).mono ?_
          rintro e w1 ⟨rfl, rfl⟩
          go_wp2_with fail
          refine (HT.out _).mono ?_
          rintro e w1 ⟨rfl, rfl⟩
          go_wp2
          go_ret3
          rw [HE.out]
          exact ⟨rfl, Gr.refl _⟩
      · have HE : Hid (Sl.endsE s.data.toList p v = (0, 0, 3)) := by
          show _ = _
          rw [HD.out, if_pos rfl, if_neg hn3]
        have hlt : (30000 : Int) < (n : Int) := by omega
        go_enter Tryd.func39, Tryd.ntmps39
        go_wp2_with fail
        refine (HC.out _).mono ?_
        rintro e w1 ⟨rfl, rfl⟩
        go_wp2_with fail
        refine (HT.out _).mono ?_
        rintro e w1 ⟨rfl, rfl⟩
        go_wp2
        go_ret3
        rw [HE.out]
        exact ⟨rfl, Gr.refl _⟩
    · have HE : Hid (Sl.endsE s.data.toList p v = (0, 0, e)) := by
        show _ = _
        rw [HD.out, if_neg he]
      have hne : ((e : Int) != 0) = true := by rw [bne_iff_ne]; omega
      clear hsp
      go_enter Tryd.func39, Tryd.ntmps39
      go_wp2_with fail
      refine (HC.out _).mono ?_
      rintro e w1 ⟨rfl, rfl⟩
      go_wp2_with fail
      refine (HT.out _).mono ?_
      rintro e w1 ⟨rfl, rfl⟩
      go_wp2
      go_ret3
      rw [HE.out]
      exact ⟨rfl, Gr.refl _⟩
  · have HE : Hid (Sl.endsE s.data.toList p v = (0, 0, Sl.headE s.data.toList p v)) := by
      show _ = _
      rw [Sl.endsE, if_neg h0]
    have hne : ((Sl.headE s.data.toList p v : Int) != 0) = true := by rw [bne_iff_ne]; omega
    generalize Sl.headE s.data.toList p v = hd at *
    go_enter Tryd.func39, Tryd.ntmps39
    go_wp2_with fail
    refine (HC.out _).mono ?_
    rintro e w1 ⟨rfl, rfl⟩
    go_wp2
    go_ret3
    rw [HE.out]
    exact ⟨rfl, Gr.refl _⟩

theorem toList_data (s : ByteArray) : s.toList = s.data.toList := by
  have := ByteArray.toList_eq s
  exact this

theorem strsAt1 {w : World} {b : Nat} {s : ByteArray} (h0 : w.cell? ⟨b, 0, none⟩ = some (.string s)) : StrsAt w (some ⟨b, 0, none⟩) [s] := by
  intro j hj
  match j, hj with
  | 0, _ => exact ⟨b, 0, rfl, World.block_lt_of_cell? w _ h0, h0⟩

set_option maxHeartbeats 1000000 in
set_option maxRecDepth 100000 in
theorem open_any (s : ByteArray) (p v : Int) (w : World) (hT : Tab w) (hs : s.size ≤ 140737488355328) :
    Calls Tryd.prog 27 #[.string s, .int .i64 p, .int .i64 v] w fun e w' => e = .returned (.tuple #[.string ⟨(Sl.openE s.data.toList p v).1.toArray⟩, .int .i64 (Sl.openE s.data.toList p v).2.1, .int .i64 (Sl.openE s.data.toList p v).2.2]) ∧ Gr w w' := by
  have hsz : s.data.toList.length = s.size := by simp
  have HC : Hid (∀ w : World, Calls Tryd.prog 39 #[.string s, .int .i64 p, .int .i64 v] w fun e w' => e = .returned (.tuple #[.int .i64 (Sl.endsE s.data.toList p v).1, .int .i64 (Sl.endsE s.data.toList p v).2.1, .int .i64 (Sl.endsE s.data.toList p v).2.2]) ∧ Gr w w') := fun w => bodyEnds_any s p v w hs
  obtain ⟨R, HO⟩ : ∃ R, R = Sl.openE s.data.toList p v := ⟨_, rfl⟩
  rw [← HO]
  have hle := Sl.ends_le s.data.toList p v
  have hhd : (Sl.endsE s.data.toList p v).2.2 = 0 → 0 ≤ p := fun h => (Sl.head_ok _ _ _ (Sl.ends_ok s.data.toList p v _ _ (by rw [← h])).1).1
  unfold Sl.openE at HO
  obtain ⟨⟨f, t, e⟩, ht⟩ : ∃ r, Sl.endsE s.data.toList p v = r := ⟨_, rfl⟩
  rw [ht] at HC HO hle hhd
  simp only at HC HO hle hhd
  by_cases he : e = 0
  · subst he
    obtain ⟨h1, h2, h3, h4⟩ := hle rfl
    obtain ⟨a, rfl⟩ := Int.eq_ofNat_of_zero_le (hhd rfl)
    have hta : ((a : Nat) : Int).toNat = a := by omega
    rw [hta] at h1 HO
    rw [if_pos rfl] at HO
    clear hle hhd hta
    have hat : a ≤ t := by omega
    have hx1 : (s.extract t (t + 8)).toList = (s.data.toList.drop t).take 8 := by
      rw [← ext_dat s t 8]; exact toList_data _
    have hx2 : s.extract a t = ⟨((s.data.toList.drop a).take (t - a)).toArray⟩ := by
      have := ext_dat s a (t - a)
      rw [Nat.add_sub_cancel' hat] at this
      rw [← this]
    have hx3 : s.extract f t = ⟨((s.data.toList.drop f).take (t - f)).toArray⟩ := by
      have := ext_dat s f (t - f)
      rw [Nat.add_sub_cancel' h2] at this
      rw [← this]
    have HS : Hid (∀ (w' : World) (k : Nat), Gr w w' → w'.cell? ⟨k, 0, none⟩ = some (.string (s.extract a t)) →
          Calls Tryd.prog 36 #[.slice (some ⟨k, 0, none⟩) 1 1] w' fun e w2 => e = .returned (.int .u64 (Sl.sum ((s.data.toList.drop a).take (t - a)) : Nat)) ∧ w2 = w') := by
      intro w' k g h0
      have := sum_any [s.extract a t] (some ⟨k, 0, none⟩) 1 w' (hT.gr g) (strsAt1 h0) (by simp) (by
        intro s' hs'
        simp at hs'
        subst hs'
        simp; omega)
      have e : flat [s.extract a t] = (s.data.toList.drop a).take (t - a) := by rw [hx2]; simp [flat]
      rw [e] at this
      exact this
    have HL : Hid (∀ w : World, Calls Tryd.prog 35 #[.int .u64 (Sl.sum ((s.data.toList.drop a).take (t - a)) : Nat)] w fun e w' => e = .returned (.string ⟨(Sl.eight (Sl.sum ((s.data.toList.drop a).take (t - a)))).toArray⟩) ∧ Gr w w') := fun w => laidSum_any _ w
    have HK : Hid (∀ w : World, Calls Tryd.prog 40 #[.string (s.extract f t)] w fun e w' => e = .returned (.string (s.extract f t)) ∧ Gr w w') := fun w => clone_any _ w (by simp; omega)
    have hb1 : (0 : Int) ≤ (t : Int) := by omega
    have hb2 : (t : Int) ≤ (t : Int) + 8 := by omega
    have hb3 : (t : Int) + 8 ≤ (s.size : Int) := by omega
    have hb4 : ((t : Int) + 8).toNat = t + 8 := by omega
    have hb5 : (0 : Int) ≤ (t : Int) + 8 := by omega
    have hb6 : (a : Int) ≤ (t : Int) := by omega
    have hb7 : (t : Int) ≤ (s.size : Int) := by omega
    have hb8 : (0 : Int) ≤ (a : Int) := by omega
    have HX3 : Hid (s.extract f t = ⟨((s.data.toList.drop f).take (t - f)).toArray⟩) := hx3
    clear hx2 hx3
    generalize Sl.eight (Sl.sum ((s.data.toList.drop a).take (t - a))) = e8 at *
    generalize Sl.sum ((s.data.toList.drop a).take (t - a)) = sm at *
    by_cases hq : (s.data.toList.drop t).take 8 = e8
    · rw [if_pos hq] at HO
      have HR : Hid (R = _) := HO
      clear HO
      have hqb : ((s.data.toList.drop t).take 8 == e8) = true := by rw [hq]; simp
      clear hq
      go_enter Tryd.func27, Tryd.ntmps27
      go_wp2_with fail
      refine (HC.out _).mono ?_
      rintro e w1 ⟨rfl, hg1⟩
      go_wp2_with fail
      go_region_held3 (fun _ => True) (trivial) ((first | (go_at_call 36; refine (HS.out _ _ (by exact (by repeat (first | exact Gr.refl _ | refine Gr.alloc ?_ | refine Gr.drew ?_ | refine Gr.trans ?_ (by assumption)))) (by simp)).mono ?_; rintro e w2 ⟨rfl, rfl⟩) | (go_at_call 35; refine (HL.out _).mono ?_; rintro e w3 ⟨rfl, hg3⟩)))
      all_goals go_wp2_with fail
      all_goals refine (HK.out _).mono ?_
      all_goals rintro e w4 ⟨rfl, hg4⟩
      all_goals go_wp2
      all_goals go_ret3
      all_goals refine ⟨?_, (by repeat (first | exact Gr.refl _ | refine Gr.alloc ?_ | refine Gr.drew ?_ | refine Gr.trans ?_ (by assumption)))⟩
      all_goals rw [HR.out, HX3.out]
      all_goals rfl
    · rw [if_neg hq] at HO
      have HR : Hid (R = _) := HO
      clear HO
      have hqb : ((s.data.toList.drop t).take 8 == e8) = false := by simpa using hq
      clear hq
      go_enter Tryd.func27, Tryd.ntmps27
      go_wp2_with fail
      refine (HC.out _).mono ?_
      rintro e w1 ⟨rfl, hg1⟩
      go_wp2_with fail
      go_region_held3 (fun _ => True) (trivial) ((first | (go_at_call 36; refine (HS.out _ _ (by exact (by repeat (first | exact Gr.refl _ | refine Gr.alloc ?_ | refine Gr.drew ?_ | refine Gr.trans ?_ (by assumption)))) (by simp)).mono ?_; rintro e w2 ⟨rfl, rfl⟩) | (go_at_call 35; refine (HL.out _).mono ?_; rintro e w3 ⟨rfl, hg3⟩)))
      all_goals go_wp2
      all_goals go_ret3
      all_goals refine ⟨?_, (by repeat (first | exact Gr.refl _ | refine Gr.alloc ?_ | refine Gr.drew ?_ | refine Gr.trans ?_ (by assumption)))⟩
      all_goals rw [HR.out]
      all_goals rfl
  · rw [if_neg he] at HO
    have HR : Hid (R = _) := HO
    clear HO
    have hne : ((e : Int) != 0) = true := by rw [bne_iff_ne]; omega
    clear hle hhd
    go_enter Tryd.func27, Tryd.ntmps27
    go_wp2_with fail
    refine (HC.out _).mono ?_
    rintro e w1 ⟨rfl, hg1⟩
    go_wp2
    go_ret3
    rw [HR.out]
    exact ⟨rfl, (by repeat (first | exact Gr.refl _ | refine Gr.alloc ?_ | refine Gr.drew ?_ | refine Gr.trans ?_ (by assumption)))⟩
end Go.Proofs.YtoeibjflaiiljaaDoor
