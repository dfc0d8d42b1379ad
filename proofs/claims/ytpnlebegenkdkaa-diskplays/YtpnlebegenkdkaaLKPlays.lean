
/- For every room and every row of acts: a disk under any calls answers as the document's does (DiskPlays, P15.1 to P15.5); no condition. -/
import Derived.Test.YtpnlebegenkdkaaOpenK
import Derived.Test.YtpnlebegenkdkaaPkD
import Derived.Test.YtpnlebegenkdkaaPkE
namespace Go.Proofs.Ytpnlebegenkdkaa
open Go.ChangeShapes Go.WideShapes Go.ChangeAt Go.RowKit
open Dk (Fl Fo St Ok Up zf used)
theorem ab_of {w : World} {ad : Option Addr} {T : List Ac} (h : Acts w ad T) (hf : fewB T = true) {x : Ac} (hx : x ∈ T) : Ab w x := ⟨h.each x hx, by have := (fewA_in T (Int.le_refl 0) hf x hx).1; omega⟩
theorem may_nil (room : Int) : mayL room [] = decide (0 ≤ room ∧ room ≤ 200000) := by simp [mayL, mayA]
set_option maxHeartbeats 8000000 in
set_option maxRecDepth 100000 in
theorem plays_l1 (room : Int) (T : List Ac) (ad : Option Addr) (cap : Nat) (w : World) (hT : Acts w ad T) (h1 : fewB T = false) :
    Calls Try.prog 3 #[.int .i64 room, .slice ad T.length cap] w fun e w' => e = .returned (.bool true) ∧ Gr w w' := by
  have HAw : Hid (∀ w', Calls Try.prog 10 #[] w' fun e w2 => e = .returned (.bool true) ∧ Gr w' w2) := fun w' => awake_any w'
  have HF := Lib.hid (few_any T ad cap w hT)
  rw [h1] at HF
  clear hT
  go_enter Try.func3, Try.ntmps3
  go_wp2_with fail
  refine HF.out.mono ?_
  rintro e w1 ⟨rfl, hg1⟩
  have G1 := Lib.hid hg1
  clear hg1 HF
  go_wp2_with fail
  refine (HAw.out _).mono ?_
  rintro e w2 ⟨rfl, hg2⟩
  have G2 := Lib.hid (G1.out.trans hg2)
  clear hg2 HAw
  go_wp2
  go_ret
  exact ⟨rfl, G2.out⟩
set_option maxHeartbeats 8000000 in
set_option maxRecDepth 100000 in
theorem plays_l2 (room : Int) (T : List Ac) (ad : Option Addr) (cap : Nat) (w : World) (hT : Acts w ad T) (h1 : fewB T = true) (hr1 : room ≤ 9223372036854775807) (h2 : ¬ (0 ≤ room ∧ room ≤ 200000)) :
    Calls Try.prog 3 #[.int .i64 room, .slice ad T.length cap] w fun e w' => e = .returned (.bool true) ∧ Gr w w' := by
  have HAw : Hid (∀ w', Calls Try.prog 10 #[] w' fun e w2 => e = .returned (.bool true) ∧ Gr w' w2) := fun w' => awake_any w'
  have HF := Lib.hid (few_any T ad cap w hT)
  rw [h1] at HF
  have HN : Hid (∀ w', Calls Try.prog 11 #[.int .i64 room] w' fun e w2 => e = .returned (.tuple #[nilP, .int .i64 2]) ∧ Gr w' w2) := fun w' => by
    refine (new_any room w' hr1).mono ?_
    intro e w2 h
    unfold LdR at h
    rw [may_nil, decide_eq_false h2] at h
    exact h
  have HM : Hid (∀ w', Calls Try.prog 12 #[.int .i64 room] w' fun e w2 => e = .returned (.tuple #[nilP, .int .i64 2]) ∧ w2 = w') := fun w' => by
    have := rnew_any (fun _ => False) room w' (fun j hj => hj.elim)
    simp only [if_neg h2] at this
    exact this
  have hln := hT.len
  clear hT h2
  go_enter Try.func3, Try.ntmps3
  go_wp2_with fail
  refine HF.out.mono ?_
  rintro e w1 ⟨rfl, hg1⟩
  have G1 := Lib.hid hg1
  clear hg1 HF
  go_wp2_with fail
  refine (HN.out _).mono ?_
  rintro e w2 ⟨rfl, hg2⟩
  have G2 := Lib.hid (G1.out.trans hg2)
  clear hg2 HN
  go_wp2_with (go_at_call 12; refine (HM.out _).mono ?_; rintro e w' ⟨rfl, hw⟩; obtain rfl := hw.symm; clear hw)
  go_loopw [9] (fun i wr => i = .int .i64 0 ∧ wr = w2) (fun _ _ => 0)
  case atStart => exact ⟨rfl, rfl⟩
  case round =>
    obtain ⟨rfl, rfl⟩ := hrel
    by_cases h3 : (0 : Int) < (T.length : Int)
    · have h3b : decide ((0 : Int) < (T.length : Int)) = true := decide_eq_true h3
      have h3c : decide (0 < T.length) = true := decide_eq_true (by omega)
      go_wp2_with fail
      refine (HAw.out _).mono ?_
      rintro e w3 ⟨rfl, hg3⟩
      have G3 := Lib.hid (G2.out.trans hg3)
      clear hg3 HAw
      go_wp2
      go_ret
      exact ⟨rfl, G3.out⟩
    · have h3b : T.length = 0 := by omega
      go_wp2_with fail
      refine (HAw.out _).mono ?_
      rintro e w3 ⟨rfl, hg3⟩
      have G3 := Lib.hid (G2.out.trans hg3)
      clear hg3 HAw
      go_wp2
      go_ret
      exact ⟨rfl, G3.out⟩
set_option maxHeartbeats 16000000 in
set_option maxRecDepth 100000 in
theorem plays_main (room : Int) (T : List Ac) (ad : Option Addr) (cap : Nat) (w : World) (hT : Acts w ad T) (h1 : fewB T = true) (h2 : 0 ≤ room ∧ room ≤ 200000) :
    Calls Try.prog 3 #[.int .i64 room, .slice ad T.length cap] w fun e w' => e = .returned (.bool true) ∧ Gr w w' := by
  have HAw : Hid (∀ w', Calls Try.prog 10 #[] w' fun e w2 => e = .returned (.bool true) ∧ Gr w' w2) := fun w' => awake_any w'
  have HF := Lib.hid (few_any T ad cap w hT)
  rw [h1] at HF
  have HN : Hid (∀ w', Calls Try.prog 11 #[.int .i64 room] w' fun e w2 => ∃ b m, e = .returned (.tuple #[ptr b, .int .i64 0]) ∧ New w' w2 b m (Dk.new room [])) := fun w' => by
    refine (new_any room w' (by omega)).mono ?_
    intro e w2 h
    unfold LdR at h
    rw [may_nil, decide_eq_true h2] at h
    exact h
  have HM : Hid (∀ w1 w' b m, New w1 w' b m (Dk.new room []) → Calls Try.prog 12 #[.int .i64 room] w' fun e w2 => ∃ r, e = .returned (.tuple #[ptr r, .int .i64 0]) ∧ Pq w1 w2 b m r (Dk.new room []) (Dk.new room [])) := fun w1 w' b m hn => by
    obtain ⟨A, hA⟩ := hn.at_
    have := rnew_any (Xb b m) room w' (fun j hj => by rcases hj with rfl | rfl; exact hA.lt; exact hA.fl.lt)
    simp only [if_pos h2] at this
    refine this.mono ?_
    rintro e w2 ⟨rfl, q1, q2⟩
    exact ⟨_, rfl, hn.up q2, ⟨_, _, _, _, q1⟩, hn.gr.size⟩
  have HAb : Hid (∀ w' x, Gr w w' → x ∈ T → Ab w' x) := fun w' x g hx => ab_of (hT.gr g) h1 hx
  have HT := Lib.hid hT
  have hln := hT.len
  clear hT h2
  go_enter Try.func3, Try.ntmps3
  go_wp2_with fail
  refine HF.out.mono ?_
  rintro e w1 ⟨rfl, hg1⟩
  have G1 := Lib.hid hg1
  clear hg1 HF
  go_wp2_with fail
  refine (HN.out _).mono ?_
  rintro e w2 ⟨b, m, rfl, hn⟩
  have N2 := Lib.hid hn
  clear hn HN
  go_wp2_with fail
  refine (HM.out _ _ _ _ N2.out).mono ?_
  rintro e w3 ⟨r, rfl, hp⟩
  have P3 := Lib.hid hp
  clear hp HM N2
  go_wp2
  go_loopw [9] (fun i wr => ∃ k : Nat, k ≤ T.length ∧ i = .int .i64 (k : Int) ∧ Pq w1 wr b m r (plL (Dk.new room []) (T.take k)) (plL (Dk.new room []) (T.take k))) (fun i _ => T.length - (intOf i).toNat)
  case atStart => exact ⟨0, Nat.zero_le _, rfl, P3.out⟩
  case round =>
    obtain ⟨k, hk, rfl, hp⟩ := hrel
    by_cases hlt : k < T.length
    · have hgr := G1.out.trans hp.nw.gr
      obtain ⟨x, off, hade, hxb, c0, c1, c2, c3, c4⟩ := ac_at HT.out.row k hlt
      have c0 := hgr.keep c0
      have c1 := hgr.keep c1
      have c2 := hgr.keep c2
      have c3 := hgr.keep c3
      have c4 := hgr.keep c4
      have HDo := Lib.hid (does_any hp T[k] (HAb.out w1 T[k] G1.out (List.getElem_mem hlt)))
      have HS := Lib.hid (plL_succ (Dk.new room []) T k hlt)
      obtain ⟨s', es⟩ : ∃ s', s' = plL (Dk.new room []) (T.take (k + 1)) := ⟨_, rfl⟩
      rw [← es] at HS
      rw [← HS.out] at HDo
      have HE := Lib.hid es
      have hltb : decide ((k : Int) < (T.length : Int)) = true := decide_eq_true (by omega)
      subst hade
      clear es hp hgr P3 HS
      generalize T[k] = z at *
      obtain ⟨zk, zn, zz, zd, za, zc, zK⟩ := z
      simp only at *
      go_wp2_with fail
      refine HDo.out.mono ?_
      rintro e w4 ⟨rfl, hp4⟩
      have P4 := Lib.hid hp4
      clear hp4 HDo
      go_wp2_with fail
      refine (same_any P4.out).mono ?_
      rintro e w5 ⟨rfl, hg5⟩
      have P5 := Lib.hid (P4.out.up hg5)
      clear hg5 P4
      go_wp2
      go_roundw
      case rel => exact ⟨k + 1, by omega, by simp, by rw [← HE.out]; exact P5.out⟩
      case measure => simp [intOf]; omega
    · obtain rfl : k = T.length := by omega
      have G4 := Lib.hid (G1.out.trans hp.nw.gr)
      have P4 := Lib.hid hp
      clear hp
      go_wp2_with fail
      refine (HAw.out _).mono ?_
      rintro e w4 ⟨rfl, hg4⟩
      have G5 := Lib.hid (G4.out.trans hg4)
      clear hg4
      go_wp2
      go_ret
      exact ⟨rfl, G5.out⟩
theorem diskPlays_walk (room : Int) (T : List Ac) (ad : Option Addr) (cap : Nat) (w : World) (hT : Acts w ad T) (hr1 : room ≤ 9223372036854775807) :
    Calls Try.prog 3 #[.int .i64 room, .slice ad T.length cap] w fun e w' => e = .returned (.bool true) ∧ Gr w w' := by
  cases h1 : fewB T with
  | false => exact plays_l1 room T ad cap w hT h1
  | true =>
    by_cases h2 : 0 ≤ room ∧ room ≤ 200000
    · exact plays_main room T ad cap w hT h1 h2
    · exact plays_l2 room T ad cap w hT h1 hr1 h2

set_option maxRecDepth 100000 in
theorem diskPlays_lifted (os : Os) (started : os.Started) (H : Type) (enc : TypeId × Value → H) :
    ReturnsInHanded {} Try.checked os 3 .any (Rows.diskPlaysSpec.pre6 enc Try.prog Try.f3 Rows.diskPlaysRow.domain false) (Rows.diskPlaysSpec.post enc Try.prog Try.f3 false true false false) := by
  refine returnsInHanded_of_change (C := Try.checked) own2 started (by kernel_rfl) Try.func3
    (ChangeSpec.witness6 (enc := enc) (C := Try.checked) false ⟨#[], #[.int .i64 0, .slice none 0 0], []⟩ 8 (by kernel_rfl) (by kernel_rfl) (by kernel_rfl) (by kernel_rfl)) ?_
  intro W base args ds gs before hval0 hW hcnd _
  have hval : ∀ (j : Nat) t v, Try.f3.params[j]? = some t → args[j]? = some v → Value.okWide Try.prog W .any base t v := hval0
  have hW' := hW
  obtain ⟨p, q, hA0, hV, rfl, hfz, hnd⟩ := hW
  have hA : DataW.TrodAll enc Try.prog W 0 (fun _ => true) true Try.f3.params.toList args.toList ds p := hA0
  rw [Try.params3] at hA hval
  obtain ⟨v0, v1, d0, d1, p0, p1, rfl, rfl, rfl, q0, q1⟩ := trodAll_two hA
  obtain ⟨rfl, rfl⟩ := trodVars_none hV
  have k1 := q1
  have lt1 : ∀ x ∈ p1, x.block < W.heap.size := by obtain ⟨m, hm⟩ := k1; exact DataW.trod_lt m _ _ _ hm
  obtain ⟨a0, rfl, rfl, rfl, wa0⟩ := open_int Try.underlying3 (hval 0 3 v0 rfl rfl) q0
  have rg0 := rng_i64 wa0
  obtain ⟨ad1, cap1, T1, rfl, hT1⟩ := open_kacts (hval 1 22 v1 rfl rfl) q1
  clear hA0 hval0
  refine (diskPlays_walk a0 T1 ad1 cap1 W hT1 rg0.2).mono fun e W' ⟨he, hg⟩ => ?_
  subst he
  exact ⟨_, rfl, _, _, _, [], _, [], hW', trodAll_mk1 (shut_bool Try.underlying4 _), trodAll_mk2 (shut_int Try.underlying3 wa0) (Below.trod laidOut2 (by kernel_rfl) (of_decide_eq_true (by kernel_rfl)) k1 hg.below lt1), rfl, hg.below.frame _, fun h => by cases h⟩

theorem diskPlays_holds : Rows.DiskPlaysSaid :=
  OpenClaim.holds_of_wide 3 Try.f3 rfl rfl rfl rfl rfl rfl rfl ⟨rfl, rfl, rfl, rfl, rfl⟩ rfl rfl rfl rfl rfl (by kernel_rfl) Try.func3 (by kernel_rfl)
    (of_decide_eq_true (by kernel_rfl)) (by unfold Func.isWrapper; first | (rw [if_pos (by decide +kernel)]; kernel_rfl) | (rw [if_neg (by decide +kernel)]; exact ⟨rfl, rfl⟩))
    (fun os started H enc _ => diskPlays_lifted os started H enc)
end Go.Proofs.Ytpnlebegenkdkaa
