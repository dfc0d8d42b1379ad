/- The document's Same, at ledgers that are the same. -/
import Derived.Test.YtiakajheoajepaaLedP
import Derived.Test.YtiakajheoajepaaActW
import Derived.BigQuiet
namespace Go.Proofs.Ytiakajheoajepaa
open Go.RowKit
open Led (Acc Mk)

set_option maxHeartbeats 4000000 in
set_option maxRecDepth 100000 in
theorem same7_eq (A : List Acc) (M : List Mk) (a1 a2 b1 b2 : Option Addr) (c1 c2 c3 c4 : Nat) (w : World) (hA : AccsAt w a1 A) (hM : MksAt w a2 M) (hA' : AccsAt w b1 A) (hM' : MksAt w b2 M) (hnA : A.length ≤ 9223372036854775807) (hnM : M.length ≤ 9223372036854775807) :
    Calls Try.prog 25 #[.agg #[.slice a1 A.length c1, .slice a2 M.length c2], .agg #[.slice b1 A.length c3, .slice b2 M.length c4]] w fun e w' => e = .returned (.bool true) ∧ Gr w w' := by
  have H1 : Hid (AccsAt w a1 A) := hA
  have H2 : Hid (MksAt w a2 M) := hM
  have H3 : Hid (AccsAt w b1 A) := hA'
  have H4 : Hid (MksAt w b2 M) := hM'
  clear hA hM hA' hM'
  go_enter Try.func25, Try.ntmps25
  go_wp2
  have HBX : Hid (TwoAt ((w.alloc (.cells #[.slice a1 A.length c1, .slice a2 M.length c2] 25)).alloc (.cells #[.slice b1 A.length c3, .slice b2 M.length c4] 25)) w.heap.size (.slice a1 A.length c1) (.slice a2 M.length c2)) := (TwoAt.new w _ _ _ _ rfl).gr (Gr.refl _).alloc
  have HBY : Hid (TwoAt ((w.alloc (.cells #[.slice a1 A.length c1, .slice a2 M.length c2] 25)).alloc (.cells #[.slice b1 A.length c3, .slice b2 M.length c4] 25)) (w.heap.size + 1) (.slice b1 A.length c3) (.slice b2 M.length c4)) := TwoAt.new _ _ _ _ (w.heap.size + 1) (by simp)
  go_loopw [5] (fun s5 wr => ∃ k : Nat, s5 = .int .i64 k ∧ k ≤ A.length ∧ TwoAt wr w.heap.size (.slice a1 A.length c1) (.slice a2 M.length c2) ∧ TwoAt wr (w.heap.size + 1) (.slice b1 A.length c3) (.slice b2 M.length c4) ∧ Gr w wr) (fun s5 _ => A.length - (intOf s5).toNat)
  case atStart => exact ⟨0, rfl, Nat.zero_le _, HBX.out, HBY.out, (Gr.refl _).alloc.alloc⟩
  case round =>
    clear HBX HBY
    obtain ⟨k, rfl, hk, hX, hY, hg⟩ := hrel
    have HX : Hid (TwoAt wr w.heap.size (.slice a1 A.length c1) (.slice a2 M.length c2)) := hX
    have HY : Hid (TwoAt wr (w.heap.size + 1) (.slice b1 A.length c3) (.slice b2 M.length c4)) := hY
    have HG : Hid (Gr w wr) := hg
    obtain ⟨x0, x1, _, _, xl⟩ := hX
    obtain ⟨y0, y1, _, _, yl⟩ := hY
    clear hg
    by_cases hlt : k < A.length
    · obtain ⟨b, off, rfl, hb, d0, d1, d2, d3, d4, d5, d6⟩ := (AccsAt.at H1.out k hlt)
      obtain ⟨b', off', rfl, hb', e0, e1, e2, e3, e4, e5, e6⟩ := (AccsAt.at H3.out k hlt)
      have d0 := HG.out.keep d0
      have d1 := HG.out.keep d1
      have d2 := HG.out.keep d2
      have d3 := HG.out.keep d3
      have d4 := HG.out.keep d4
      have d5 := HG.out.keep d5
      have d6 := HG.out.keep d6
      have e0 := HG.out.keep e0
      have e1 := HG.out.keep e1
      have e2 := HG.out.keep e2
      have e3 := HG.out.keep e3
      have e4 := HG.out.keep e4
      have e5 := HG.out.keep e5
      have e6 := HG.out.keep e6
      have hbw : b < wr.heap.size := Nat.lt_of_lt_of_le hb HG.out.size
      have hbw' : b' < wr.heap.size := Nat.lt_of_lt_of_le hb' HG.out.size
      have hki : (k : Int) < (A.length : Int) := by omega
      generalize A[k] = x at *
      go_wp2_with fail
      go_quiet (fail)
      go_wp2
      go_roundw
      case rel => exact ⟨k + 1, by go_num, by omega, HX.out.gr ((Gr.refl _).drewN _), HY.out.gr ((Gr.refl _).drewN _), HG.out.drewN _⟩
      case measure => simp [intOf]; omega
    · have hge : ¬ ((k : Int) < (A.length : Int)) := by omega
      go_wp2
      go_loopw [6] (fun s6 wr => ∃ k : Nat, s6 = .int .i64 k ∧ k ≤ M.length ∧ TwoAt wr w.heap.size (.slice a1 A.length c1) (.slice a2 M.length c2) ∧ TwoAt wr (w.heap.size + 1) (.slice b1 A.length c3) (.slice b2 M.length c4) ∧ Gr w wr) (fun s6 _ => M.length - (intOf s6).toNat)
      case atStart => exact ⟨0, rfl, Nat.zero_le _, HX.out, HY.out, HG.out⟩
      case round =>
        clear HX HY HG x0 x1 xl y0 y1 yl
        obtain ⟨k, rfl, hk, hX, hY, hg⟩ := hrel
        have HX : Hid (TwoAt wr w.heap.size (.slice a1 A.length c1) (.slice a2 M.length c2)) := hX
        have HY : Hid (TwoAt wr (w.heap.size + 1) (.slice b1 A.length c3) (.slice b2 M.length c4)) := hY
        have HG : Hid (Gr w wr) := hg
        obtain ⟨x0, x1, _, _, xl⟩ := hX
        obtain ⟨y0, y1, _, _, yl⟩ := hY
        clear hg
        by_cases hlt : k < M.length
        · obtain ⟨b, off, rfl, hb, d0, d1, d2, d3, d4⟩ := (MksAt.at H2.out k hlt)
          obtain ⟨b', off', rfl, hb', e0, e1, e2, e3, e4⟩ := (MksAt.at H4.out k hlt)
          have d0 := HG.out.keep d0
          have d1 := HG.out.keep d1
          have d2 := HG.out.keep d2
          have d3 := HG.out.keep d3
          have d4 := HG.out.keep d4
          have e0 := HG.out.keep e0
          have e1 := HG.out.keep e1
          have e2 := HG.out.keep e2
          have e3 := HG.out.keep e3
          have e4 := HG.out.keep e4
          have hbw : b < wr.heap.size := Nat.lt_of_lt_of_le hb HG.out.size
          have hbw' : b' < wr.heap.size := Nat.lt_of_lt_of_le hb' HG.out.size
          have hki : (k : Int) < (M.length : Int) := by omega
          generalize M[k] = x at *
          go_wp2_with fail
          go_quiet (fail)
          go_wp2
          go_roundw
          case rel => exact ⟨k + 1, by go_num, by omega, HX.out.gr ((Gr.refl _).drewN _), HY.out.gr ((Gr.refl _).drewN _), HG.out.drewN _⟩
          case measure => simp [intOf]; omega
        · have hge : ¬ ((k : Int) < (M.length : Int)) := by omega
          go_wp2
          go_ret
          exact ⟨rfl, HG.out⟩
end Go.Proofs.Ytiakajheoajepaa
