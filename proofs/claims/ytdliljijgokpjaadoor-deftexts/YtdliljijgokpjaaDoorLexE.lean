/- lexic: Value; and the document's. -/
import Derived.Test.YtdliljijgokpjaaDoorLexQ
import Derived.Test.YtdliljijgokpjaaDoorLexN
namespace Go.Proofs.YtdliljijgokpjaaDoor
open Go.RowKit
open _root_.Go.Proofs.YtdliljijgokpjaaDoor.Act (letB digB sgnB nameB)
open Lex (Tok numB sigB vl valE valB)

theorem refDigit_any (b : UInt8) (w : World) : Calls Tryd.prog 67 #[.int .u8 (b.toNat : Int)] w fun e w' => e = .returned (.bool (digB b)) ∧ w' = w := by
  unfold Act.digB
  by_cases h0 : (48 : Int) ≤ (b.toNat : Int)
  · by_cases h1 : (b.toNat : Int) ≤ 57
    · rw [decide_eq_true h0, decide_eq_true h1]
      go_enter Tryd.func67, Tryd.ntmps67
      go_wp2
      go_ret
      exact ⟨rfl, rfl⟩
    · rw [decide_eq_true h0, decide_eq_false h1]
      go_enter Tryd.func67, Tryd.ntmps67
      go_wp2
      go_ret
      exact ⟨rfl, rfl⟩
  · rw [decide_eq_false h0]
    go_enter Tryd.func67, Tryd.ntmps67
    go_wp2
    go_ret
    exact ⟨rfl, rfl⟩
theorem refSmall_any (b : UInt8) (w : World) : Calls Tryd.prog 66 #[.int .u8 (b.toNat : Int)] w fun e w' => e = .returned (.bool (letB b)) ∧ w' = w := by
  unfold Act.letB
  by_cases h0 : (97 : Int) ≤ (b.toNat : Int)
  · by_cases h1 : (b.toNat : Int) ≤ 122
    · rw [decide_eq_true h0, decide_eq_true h1]
      go_enter Tryd.func66, Tryd.ntmps66
      go_wp2
      go_ret
      exact ⟨rfl, rfl⟩
    · rw [decide_eq_true h0, decide_eq_false h1]
      go_enter Tryd.func66, Tryd.ntmps66
      go_wp2
      go_ret
      exact ⟨rfl, rfl⟩
  · rw [decide_eq_false h0]
    go_enter Tryd.func66, Tryd.ntmps66
    go_wp2
    go_ret
    exact ⟨rfl, rfl⟩
set_option maxHeartbeats 2000000 in
theorem refSign_any (s : ByteArray) (w : World) : Calls Tryd.prog 59 #[.string s] w fun e w' => e = .returned (.bool (sigB s)) ∧ w' = w := by
  have a0 := text_eq s [123]
  have a1 := text_eq s [125]
  have a2 := text_eq s [59]
  rw [show (⟨[123].toArray⟩ : ByteArray) = ⟨#[123]⟩ from rfl] at a0
  rw [show (⟨[125].toArray⟩ : ByteArray) = ⟨#[125]⟩ from rfl] at a1
  rw [show (⟨[59].toArray⟩ : ByteArray) = ⟨#[59]⟩ from rfl] at a2
  have HE : Hid (sigB s = (decide (s = ⟨#[123]⟩) || decide (s = ⟨#[125]⟩) || decide (s = ⟨#[59]⟩))) := rfl
  generalize decide (s = ⟨#[123]⟩) = c0 at a0 HE
  generalize decide (s = ⟨#[125]⟩) = c1 at a1 HE
  generalize decide (s = ⟨#[59]⟩) = c2 at a2 HE
  rw [HE.out]
  cases c0 <;> cases c1 <;> cases c2
  all_goals
    go_enter Tryd.func59, Tryd.ntmps59
    go_wp2
    go_ret
    exact ⟨rfl, rfl⟩

set_option maxHeartbeats 2000000 in
set_option maxRecDepth 100000 in
theorem refNumber_any (s : ByteArray) (w : World) (hs : s.size ≤ 9223372036854775807) : Calls Tryd.prog 58 #[.string s] w fun e w' => e = .returned (.bool (numB s)) ∧ w' = w := by
  by_cases hz : (s.size : Int) < 1
  · have HE : Hid (numB s = false) := Lex.num_empty s (by omega)
    go_enter Tryd.func58, Tryd.ntmps58
    go_wp2
    go_ret
    exact ⟨by rw [HE.out]; rfl, rfl⟩
  have hp : 0 < s.size := by omega
  by_cases h16 : (16 : Int) < (s.size : Int)
  · have HE : Hid (numB s = false) := Lex.num_long s (by omega)
    go_enter Tryd.func58, Tryd.ntmps58
    go_wp2
    go_ret
    exact ⟨by rw [HE.out]; rfl, rfl⟩
  have HD : Hid (∀ (b : UInt8) (w : World), Calls Tryd.prog 67 #[.int .u8 (b.toNat : Int)] w fun e w' => e = .returned (.bool (digB b)) ∧ w' = w) := refDigit_any
  go_enter Tryd.func58, Tryd.ntmps58
  go_wp2
  go_loop [3] (fun i => ∃ k : Nat, k ≤ s.size ∧ i = .int .i64 k ∧ ∀ j (hj : j < s.size), j < k → digB (s[j]'hj) = true) (fun i => s.size - (intOf i).toNat)
  case atStart => exact ⟨0, by omega, rfl, fun j hj h => absurd h (by omega)⟩
  case round =>
    obtain ⟨k, hk, rfl, hall⟩ := hrel
    have HA : Hid (∀ j (hj : j < s.size), j < k → digB (s[j]'hj) = true) := hall
    clear hall
    by_cases hlt : k < s.size
    · cases hdk : digB (s[k]'hlt) with
      | true =>
        have HS : Hid (digB (s[k]'hlt) = true) := hdk
        go_wp2_with fail
        refine (HD.out (s[k]'hlt) _).mono ?_
        rintro e w1 ⟨rfl, hw1⟩; obtain rfl := hw1.symm
        go_wp2
        go_round
        case rel => exact ⟨k + 1, by omega, by go_num, fun j hj h => if e : j = k then by subst e; exact HS.out else HA.out j hj (by omega)⟩
        case measure => simp [intOf]; omega
      | false =>
        have HE : Hid (numB s = false) := Lex.num_sign s k hlt hdk
        go_wp2_with fail
        refine (HD.out (s[k]'hlt) _).mono ?_
        rintro e w1 ⟨rfl, hw1⟩; obtain rfl := hw1.symm
        go_wp2
        go_ret
        exact ⟨by rw [HE.out]; rfl, rfl⟩
    · have HE : Hid (numB s = (decide (s.size = 1) || !decide (((s[0]'hp).toNat : Int) = 48))) := Lex.num_all s hp (by omega) (fun j hj => HA.out j hj (by omega))
      by_cases h1 : s.size = 1
      · rw [decide_eq_true h1] at HE
        have e1 : ((s.size : Int) == 1) = true := by rw [beq_iff_eq]; omega
        clear h1
        go_wp2
        go_ret
        exact ⟨by rw [HE.out]; rfl, rfl⟩
      · rw [decide_eq_false h1] at HE
        have e1 : ((s.size : Int) == 1) = false := by
          rw [beq_eq_false_iff_ne]; omega
        by_cases h48 : ((s[0]'hp).toNat : Int) = 48
        · rw [decide_eq_true h48] at HE
          have e2 : (((s[0]'hp).toNat : Int) != 48) = false := by simpa using h48
          clear h48 h1
          go_wp2
          go_ret
          exact ⟨by rw [HE.out]; rfl, rfl⟩
        · rw [decide_eq_false h48] at HE
          have e2 : (((s[0]'hp).toNat : Int) != 48) = true := by simpa using h48
          clear h48 h1
          go_wp2
          go_ret
          exact ⟨by rw [HE.out]; rfl, rfl⟩

set_option maxHeartbeats 4000000 in
set_option maxRecDepth 100000 in
theorem value_any (k : Int) (s : ByteArray) (p : Int) (w : World) (hs : s.size ≤ 9223372036854775807) : Calls Tryd.prog 97 #[.agg #[.int .i64 k, .string s, .int .i64 p]] w fun e w' => e = .returned (.tuple #[.int .i64 (valE k s), .bool (valB k s)]) ∧ Gr w w' := by
  by_cases h2 : k = 2
  · subst h2
    have HN : Hid (∀ w : World, Calls Tryd.prog 74 #[.string s] w fun e w' => e = .returned (.bool (numB s)) ∧ Gr w w') := fun w => isNumber_any s w hs
    cases hnb : numB s with
    | false =>
      have E1 : valE 2 s = 0 := by unfold Lex.valE; rw [if_neg]; rw [hnb]; simp
      have E2 : valB 2 s = false := by unfold Lex.valB; rw [hnb]; rfl
      rw [E1, E2]
      rw [hnb] at HN
      go_enter Tryd.func97, Tryd.ntmps97
      go_wp2_with fail
      refine (HN.out _).mono ?_
      rintro e w1 ⟨rfl, hg1⟩
      go_wp2
      go_ret2
      exact ⟨rfl, (by repeat (first | exact Gr.refl _ | refine Gr.alloc ?_ | refine Gr.drew ?_ | refine Gr.trans ?_ (by assumption)))⟩
    | true =>
      have E1 : valE 2 s = vl s.data.toList 0 := by unfold Lex.valE; rw [if_pos ⟨rfl, hnb⟩]
      have E2 : valB 2 s = true := by unfold Lex.valB; rw [hnb]; rfl
      obtain ⟨p1, p16, pd⟩ := Lex.num_parts hnb
      rw [E2, E1]
      rw [hnb] at HN
      have hl : s.data.toList.length = s.size := by simp
      have HV : Hid (∀ j (hj : j < s.size), vl (s.data.toList.take (j + 1)) 0 = vl (s.data.toList.take j) 0 * 10 + (((s[j]'hj).toNat : Int) - 48)) := fun j hj => Lex.vl_take s.data.toList j (by omega)
      have HR : Hid (∀ j, 0 ≤ vl (s.data.toList.take j) 0 ∧ vl (s.data.toList.take j) 0 < 10000000000000000) := fun j => Lex.vl_rng _ (by rw [List.length_take]; omega) (fun b hb => by
        obtain ⟨i, hi, rfl⟩ := List.getElem_of_mem (List.mem_of_mem_take hb)
        exact pd i (by omega))
      have HD : Hid (∀ j (hj : j < s.size), (48 : Int) ≤ ((s[j]'hj).toNat : Int) ∧ ((s[j]'hj).toNat : Int) ≤ 57) := fun j hj => by
        have := pd j hj
        unfold Act.digB at this; simpa only [Bool.and_eq_true, decide_eq_true_eq] using this
      have HL : Hid (s.data.toList.take s.size = s.data.toList) := by show _ = _; rw [← hl, List.take_length]
      clear hnb E1 E2 pd hl
      generalize s.data.toList = L at *
      go_enter Tryd.func97, Tryd.ntmps97
      go_wp2_with fail
      refine (HN.out _).mono ?_
      rintro e w1 ⟨rfl, hg1⟩
      have hx1 := (BoxAt.new w (.int .i64 2) (.string s) (.int .i64 p) 66 _ rfl).gr hg1
      have HG1 : Hid (Gr w w1) := (Gr.refl _).alloc.trans hg1
      obtain ⟨x0, x1, x2, _, _, _, xl⟩ := hx1
      clear hg1
      go_wp2
      go_loop [4, 18] (fun n i => ∃ j : Nat, j ≤ s.size ∧ i = .int .i64 (j : Int) ∧ n = .int .i64 (vl (L.take j) 0)) (fun _ i => s.size - (intOf i).toNat)
      case atStart => exact ⟨0, by omega, rfl, rfl⟩
      case round =>
        obtain ⟨j, hj, rfl, rfl⟩ := hrel
        by_cases hlt : j < s.size
        · have hv := HV.out j hlt
          obtain ⟨r0, r1⟩ := HR.out j
          obtain ⟨d0, d1⟩ := HD.out j hlt
          have w1' : wrap64 (vl (L.take j) 0 * 10) = vl (L.take j) 0 * 10 := by unfold wrap64; omega
          have w2' : IntKind.u8.wrap (((s[j]'hlt).toNat : Int) - 48) = ((s[j]'hlt).toNat : Int) - 48 := by rw [IntKind.wrap_u8]; omega
          have w3' : wrap64 (((s[j]'hlt).toNat : Int) - 48) = ((s[j]'hlt).toNat : Int) - 48 := by unfold wrap64; omega
          have w4' : wrap64 (vl (L.take j) 0 * 10 + (((s[j]'hlt).toNat : Int) - 48)) = vl (L.take (j + 1)) 0 := by rw [hv]; unfold wrap64; omega
          have HV2 : Hid (vl (L.take j) 0 * 10 + (((s[j]'hlt).toNat : Int) - 48) = vl (L.take (j + 1)) 0) := hv.symm
          clear hv
          go_wp2
          go_round
          case rel => exact ⟨j + 1, by omega, by go_num, by rw [← HV2.out]⟩
          case measure => simp [intOf]; omega
        · obtain rfl : j = s.size := by omega
          rw [HL.out]
          go_wp2
          go_ret2
          exact ⟨rfl, HG1.out⟩
  · have E1 : valE k s = 0 := by unfold Lex.valE; rw [if_neg (fun h => h2 h.1)]
    have E2 : valB k s = false := by unfold Lex.valB; rw [decide_eq_false h2]; rfl
    rw [E1, E2]
    have e2 : (k != 2) = true := by simpa using h2
    clear h2
    go_enter Tryd.func97, Tryd.ntmps97
    go_wp2
    go_ret2
    exact ⟨rfl, (by repeat (first | exact Gr.refl _ | refine Gr.alloc ?_ | refine Gr.drew ?_ | refine Gr.trans ?_ (by assumption)))⟩
set_option maxHeartbeats 4000000 in
set_option maxRecDepth 100000 in
theorem refValue_any (k : Int) (s : ByteArray) (p : Int) (w : World) (hs : s.size ≤ 9223372036854775807) : Calls Tryd.prog 63 #[.agg #[.int .i64 k, .string s, .int .i64 p]] w fun e w' => e = .returned (.tuple #[.int .i64 (valE k s), .bool (valB k s)]) ∧ Gr w w' := by
  by_cases h2 : k = 2
  · subst h2
    have HN : Hid (∀ w : World, Calls Tryd.prog 58 #[.string s] w fun e w' => e = .returned (.bool (numB s)) ∧ w' = w) := fun w => refNumber_any s w hs
    cases hnb : numB s with
    | false =>
      have E1 : valE 2 s = 0 := by unfold Lex.valE; rw [if_neg]; rw [hnb]; simp
      have E2 : valB 2 s = false := by unfold Lex.valB; rw [hnb]; rfl
      rw [E1, E2]
      rw [hnb] at HN
      go_enter Tryd.func63, Tryd.ntmps63
      go_wp2_with fail
      refine (HN.out _).mono ?_
      rintro e w1 ⟨rfl, hw1⟩; subst hw1
      go_wp2
      go_ret2
      exact ⟨rfl, (by repeat (first | exact Gr.refl _ | refine Gr.alloc ?_ | refine Gr.drew ?_ | refine Gr.trans ?_ (by assumption)))⟩
    | true =>
      have E1 : valE 2 s = vl s.data.toList 0 := by unfold Lex.valE; rw [if_pos ⟨rfl, hnb⟩]
      have E2 : valB 2 s = true := by unfold Lex.valB; rw [hnb]; rfl
      obtain ⟨p1, p16, pd⟩ := Lex.num_parts hnb
      rw [E2, E1]
      rw [hnb] at HN
      have hl : s.data.toList.length = s.size := by simp
      have HV : Hid (∀ j (hj : j < s.size), vl (s.data.toList.take (j + 1)) 0 = vl (s.data.toList.take j) 0 * 10 + (((s[j]'hj).toNat : Int) - 48)) := fun j hj => Lex.vl_take s.data.toList j (by omega)
      have HR : Hid (∀ j, 0 ≤ vl (s.data.toList.take j) 0 ∧ vl (s.data.toList.take j) 0 < 10000000000000000) := fun j => Lex.vl_rng _ (by rw [List.length_take]; omega) (fun b hb => by
        obtain ⟨i, hi, rfl⟩ := List.getElem_of_mem (List.mem_of_mem_take hb)
        exact pd i (by omega))
      have HD : Hid (∀ j (hj : j < s.size), (48 : Int) ≤ ((s[j]'hj).toNat : Int) ∧ ((s[j]'hj).toNat : Int) ≤ 57) := fun j hj => by
        have := pd j hj
        unfold Act.digB at this; simpa only [Bool.and_eq_true, decide_eq_true_eq] using this
      have HL : Hid (s.data.toList.take s.size = s.data.toList) := by show _ = _; rw [← hl, List.take_length]
      clear hnb E1 E2 pd hl
      generalize s.data.toList = L at *
      go_enter Tryd.func63, Tryd.ntmps63
      go_wp2_with fail
      refine (HN.out _).mono ?_
      rintro e w1 ⟨rfl, hw1⟩; subst hw1
      have hx1 := (BoxAt.new w (.int .i64 2) (.string s) (.int .i64 p) 66 _ rfl)
      have HG1 : Hid (Gr w (w.alloc (.cells #[.int .i64 2, .string s, .int .i64 p] 66))) := (Gr.refl _).alloc
      obtain ⟨x0, x1, x2, _, _, _, xl⟩ := hx1
      go_wp2
      go_loop [4, 5] (fun n i => ∃ j : Nat, j ≤ s.size ∧ i = .int .i64 (j : Int) ∧ n = .int .i64 (vl (L.take j) 0)) (fun _ i => s.size - (intOf i).toNat)
      case atStart => exact ⟨0, by omega, rfl, rfl⟩
      case round =>
        obtain ⟨j, hj, rfl, rfl⟩ := hrel
        by_cases hlt : j < s.size
        · have hv := HV.out j hlt
          obtain ⟨r0, r1⟩ := HR.out j
          obtain ⟨d0, d1⟩ := HD.out j hlt
          have w1' : wrap64 (10 * vl (L.take j) 0) = 10 * vl (L.take j) 0 := by unfold wrap64; omega
          have w2' : wrap64 (((s[j]'hlt).toNat : Int)) = ((s[j]'hlt).toNat : Int) := by unfold wrap64; omega
          have w3' : wrap64 (10 * vl (L.take j) 0 + ((s[j]'hlt).toNat : Int)) = 10 * vl (L.take j) 0 + ((s[j]'hlt).toNat : Int) := by unfold wrap64; omega
          have w4' : wrap64 (10 * vl (L.take j) 0 + ((s[j]'hlt).toNat : Int) - 48) = vl (L.take (j + 1)) 0 := by rw [hv]; unfold wrap64; omega
          have HV2 : Hid (10 * vl (L.take j) 0 + ((s[j]'hlt).toNat : Int) - 48 = vl (L.take (j + 1)) 0) := by show _ = _; omega
          clear hv
          go_wp2
          go_round
          case rel => exact ⟨j + 1, by omega, by go_num, by rw [← HV2.out]⟩
          case measure => simp [intOf]; omega
        · obtain rfl : j = s.size := by omega
          rw [HL.out]
          go_wp2
          go_ret2
          exact ⟨rfl, HG1.out⟩
  · have E1 : valE k s = 0 := by unfold Lex.valE; rw [if_neg (fun h => h2 h.1)]
    have E2 : valB k s = false := by unfold Lex.valB; rw [decide_eq_false h2]; rfl
    rw [E1, E2]
    have e2 : (k != 2) = true := by simpa using h2
    clear h2
    go_enter Tryd.func63, Tryd.ntmps63
    go_wp2
    go_ret2
    exact ⟨rfl, (by repeat (first | exact Gr.refl _ | refine Gr.alloc ?_ | refine Gr.drew ?_ | refine Gr.trans ?_ (by assumption)))⟩
end Go.Proofs.YtdliljijgokpjaaDoor
