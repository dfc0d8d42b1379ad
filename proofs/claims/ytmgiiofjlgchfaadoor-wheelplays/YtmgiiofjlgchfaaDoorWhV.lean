
/- awake. -/
import Derived.Test.YtmgiiofjlgchfaaDoorWhU
namespace Go.Proofs.YtmgiiofjlgchfaaDoor
open Go.RowKit Go.Maps Go.Sort
open Wh (Tm Sl ks hasK atK del ins put dig whl Inv tlt Up trn upto past)

abbrev kA : ByteArray := ⟨#[97]⟩
abbrev kB : ByteArray := ⟨#[98]⟩
abbrev kX : ByteArray := ⟨#[120]⟩
theorem ab : ¬ kA = kB := by decide
theorem ba : ¬ kB = kA := by decide
theorem aw1 : setE 0 [] kA 3 = 0 ∧ setL 0 [] kA 3 = [(kA, 3)] := by
  have e : setE 0 [] kA 3 = 0 := by decide
  refine ⟨e, ?_⟩
  unfold setL
  rw [if_pos e]
  simp [ins, del]
theorem aw2 : setE 0 [(kA, 3)] kB 2 = 0 ∧ setL 0 [(kA, 3)] kB 2 = [(kB, 2), (kA, 3)] := by
  have e : setE 0 [(kA, 3)] kB 2 = 0 := by decide
  refine ⟨e, ?_⟩
  unfold setL
  rw [if_pos e]
  simp [ins, del, tlt]
theorem aw3 : setE 0 [(kB, 2), (kA, 3)] kB 5 = 0 ∧ setL 0 [(kB, 2), (kA, 3)] kB 5 = [(kA, 3), (kB, 5)] := by
  have e : setE 0 [(kB, 2), (kA, 3)] kB 5 = 0 := by decide
  refine ⟨e, ?_⟩
  unfold setL
  rw [if_pos e]
  simp [ins, del, tlt]
theorem aw4 : setE 0 [(kA, 3), (kB, 5)] kX 0 = 110 ∧ setL 0 [(kA, 3), (kB, 5)] kX 0 = [(kA, 3), (kB, 5)] := by
  have e : setE 0 [(kA, 3), (kB, 5)] kX 0 = 110 := by decide
  refine ⟨e, ?_⟩
  unfold setL
  rw [if_neg (by rw [e]; decide)]
theorem aw5 : upto [(kA, 3), (kB, 5)] 4 = [(kA, 3)] ∧ past [(kA, 3), (kB, 5)] 4 = [(kB, 5)] ∧ upto [(kB, 5)] 5 = [(kB, 5)] := by simp [upto, past]
set_option maxHeartbeats 8000000 in
set_option maxRecDepth 100000 in
theorem awake_any (w : World) (hT : Tb w) : Calls Tryd.prog 8 #[] w fun e w' => e = .returned (.bool true) ∧ Gr w w' := by
  have HN := Lib.hid (new_yes (t := 0) w (by omega))
  have HT : Hid (Tb w) := hT
  clear hT
  go_enter Tryd.func8, Tryd.ntmps8
  go_wp2_with fail
  refine HN.out.mono ?_
  rintro e w1 ⟨rfl, hw, hg⟩
  have HW1 := Lib.hid (Wl.new (by omega) hw hg)
  obtain ⟨b, hb⟩ : ∃ b, b = w.heap.size + 1 := ⟨_, rfl⟩
  rw [← hb] at HW1 ⊢
  obtain ⟨m, hm⟩ : ∃ m, m = w.heap.size := ⟨_, rfl⟩
  rw [← hm] at HW1
  clear hw hg HN hb hm
  go_wp2_with fail
  refine (set_all HW1.out.wa HW1.out.iv kA 3).mono ?_
  rintro e w2 ⟨rfl, S2, V2, ha, hi, ht⟩
  rw [aw1.2] at ha hi
  rw [aw1.1]
  have HW2 := Lib.hid (HW1.out.tn ht ha hi)
  clear ha hi ht HW1
  go_wp2_with fail
  refine (set_all HW2.out.wa HW2.out.iv kB 2).mono ?_
  rintro e w3 ⟨rfl, S3, V3, ha, hi, ht⟩
  rw [aw2.2] at ha hi
  rw [aw2.1]
  have HW3 := Lib.hid (HW2.out.tn ht ha hi)
  clear ha hi ht HW2
  go_wp2_with fail
  refine (set_all HW3.out.wa HW3.out.iv kB 5).mono ?_
  rintro e w4 ⟨rfl, S4, V4, ha, hi, ht⟩
  rw [aw3.2] at ha hi
  rw [aw3.1]
  have HW4 := Lib.hid (HW3.out.tn ht ha hi)
  clear ha hi ht HW3
  go_wp2_with fail
  refine (set_all HW4.out.wa HW4.out.iv kX 0).mono ?_
  rintro e w5 ⟨rfl, S5, V5, ha, hi, ht⟩
  rw [aw4.2] at ha hi
  rw [aw4.1]
  have HW5 := Lib.hid (HW4.out.tn ht ha hi)
  clear ha hi ht HW4
  go_wp2_with fail
  refine (skip_all HW5.out.wa HW5.out.iv 4 (HW5.out.tab HT.out).1 (HW5.out.tab HT.out).2).mono ?_
  rintro e w6 ⟨v6, S6, V6, rfl, hk⟩
  have hk' : SkI w5 b m [(kA, 3), (kB, 5)] V5 w6 4 S6 V6 v6 := hk
  have HW6 := Lib.hid (HW5.out.sk hk')
  have htr := hk'.tr
  have hoff := hk'.off
  have hlow : ∀ j, v6.ownBlock = some j → w.heap.size ≤ j := fun j hj => Nat.le_trans HW5.out.gr.size (htr.lt j hj).1
  rw [aw5.2.1] at HW6
  rw [aw5.1] at htr
  rw [show skF 4 = 0 from rfl]
  have HR := Lib.hid htr
  have HO := Lib.hid hoff
  clear hk hk' htr hoff hlow HW5
  go_wp2_with fail
  refine (tick_all HW6.out.wa HW6.out.iv (HW6.out.tab HT.out).1 (HW6.out.tab HT.out).2 rfl).mono ?_
  rintro e w7 ⟨v7, S7, V7, rfl, hk⟩
  have hk' : SkI w6 b m [(kB, 5)] V6 w7 5 S7 V7 v7 := hk
  have HW7 := Lib.hid (HW6.out.sk hk')
  have htr := hk'.tr
  rw [aw5.2.2] at htr
  have hr6 : w7.ownsRow w5.heap.size 61 2 v6 [(kA, 3)].length ([(kA, 3)].flatMap tmf) := row_keep HR.out (fun j hj => hk'.tn.block j (HR.out.lt j hj).2 (HO.out j hj))
  obtain ⟨a6, c6, rfl, hc6, hm6, hr6, _, _⟩ := own_row hr6
  obtain ⟨a7, c7, rfl, hc7, hm7, hr7, _, _⟩ := own_row htr
  obtain ⟨x6, o6, rfl, _, q0⟩ := hr6 0 (.string kA) rfl
  obtain ⟨_, _, e1, _, q1⟩ := hr6 1 (.int .i64 3) rfl
  cases e1
  obtain ⟨x7, o7, rfl, _, p0⟩ := hr7 0 (.string kB) rfl
  rw [Nat.add_zero] at q0 p0
  have HNw := Lib.hid (now_any HW7.out.wa)
  clear hk hk' htr hr6 hr7 HR HO HW6
  go_wp2_with (go_at_call 23; refine HNw.out.mono ?_; rintro e w' ⟨rfl, hw⟩; obtain rfl := hw.symm; clear hw)
  go_ret
  exact ⟨rfl, HW7.out.gr⟩
end Go.Proofs.YtmgiiofjlgchfaaDoor
