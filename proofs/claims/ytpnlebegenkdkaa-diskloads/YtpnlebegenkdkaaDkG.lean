
/- disk: mayBe, Load, New. -/
import Derived.Test.YtpnlebegenkdkaaDkQ
import Derived.Test.YtpnlebegenkdkaaDkR
import Derived.Test.YtpnlebegenkdkaaDkC
namespace Go.Proofs.Ytpnlebegenkdkaa
open Go.RowKit Go.Maps
open Dk (Fl Fo St Ok Up zf emp used cutF fallA kf)
variable {w w' : World} {b m : Nat} {A : Nat → Int} {s : St}

def okF (lo room : Int) (f : Fl) : Bool := decide (lo ≤ f.n ∧ f.n ≤ 1000000) && decide (1 ≤ (f.d.size : Int) ∧ (f.d.size : Int) ≤ room) && decide (0 ≤ f.y ∧ f.y ≤ (f.d.size : Int))
def mayA : Int → Int → List Fl → Bool
  | _, _, [] => true
  | lo, room, f :: r => okF lo room f && mayA (f.n + 1) (room - f.d.size) r
def mayL (room : Int) (l : List Fl) : Bool := decide (0 ≤ room ∧ room ≤ 200000) && decide (l.length ≤ 8) && mayA 0 room l
theorem mayA_drop {lo room : Int} {l : List Fl} {k : Nat} (h : k < l.length) : mayA lo room (l.drop k) = (okF lo room l[k] && mayA (l[k].n + 1) (room - l[k].d.size) (l.drop (k + 1))) := by
  rw [List.drop_eq_getElem_cons h]
  rfl
theorem mayA_in : ∀ (l : List Fl) {lo room : Int}, 0 ≤ lo → mayA lo room l = true → Up l ∧ (∀ f ∈ l, Fo f ∧ lo ≤ f.n) ∧ (l = [] ∨ (used l : Int) ≤ room)
  | [], _, _, _, _ => ⟨List.Pairwise.nil, fun f hf => by (cases hf), Or.inl rfl⟩
  | f :: r, lo, room, h0, h => by
    simp only [mayA, Bool.and_eq_true] at h
    obtain ⟨h1, h2⟩ := h
    simp only [okF, Bool.and_eq_true, decide_eq_true_eq] at h1
    obtain ⟨⟨⟨a1, a2⟩, a3, a4⟩, a5, a6⟩ := h1
    obtain ⟨q1, q2, q3⟩ := mayA_in r (by omega) h2
    have hu : used (f :: r) = f.d.size + used r := by simp [used]
    refine ⟨List.pairwise_cons.2 ⟨fun g hg => by have := (q2 g hg).2; omega, q1⟩, fun g hg => ?_, Or.inr ?_⟩
    · rcases List.mem_cons.1 hg with rfl | hg
      · exact ⟨⟨by omega, a2, by omega, a5, a6⟩, a1⟩
      · exact ⟨(q2 g hg).1, by have := (q2 g hg).2; omega⟩
    · rw [hu]
      rcases q3 with rfl | q3
      · simp [used]; omega
      · omega
theorem mayL_ok {room : Int} {l : List Fl} (h : mayL room l = true) : Ok (Dk.new room l) := by
  simp only [mayL, Bool.and_eq_true, decide_eq_true_eq] at h
  obtain ⟨⟨⟨h1, h2⟩, h3⟩, h4⟩ := h
  obtain ⟨q1, q2, q3⟩ := mayA_in l (Int.le_refl 0) h4
  refine ⟨q1, fun f hf => (q2 f hf).1, h3, ?_, h2, Int.le_refl _, by simp [Dk.new]⟩
  rcases q3 with rfl | q3
  · simpa [Dk.new, used] using h1
  · exact q3
theorem ok_take {room : Int} {l : List Fl} (h : Ok (Dk.new room l)) (k : Nat) : Ok (Dk.new room (l.take k)) := by
  have hs : (l.take k).Sublist l := List.take_sublist k l
  have hu : used (l.take k) ≤ used l := by
    have : used (l.take k) + used (l.drop k) = used l := by
      have e : used (l.take k ++ l.drop k) = used (l.take k) + used (l.drop k) := by
        unfold used; rw [List.map_append, List.sum_append]
      rw [← e, List.take_append_drop]
    omega
  have h1 := h.len
  have h2 := h.fits
  simp only [Dk.new] at h1 h2
  refine ⟨h.up.sublist hs, fun f hf => h.fo f (hs.subset hf), ?_, ?_, h.r1, h.l0, h.l1⟩
  · show (l.take k).length ≤ 8
    rw [List.length_take]; omega
  · show (used (l.take k) : Int) ≤ room
    omega
set_option maxHeartbeats 8000000 in
set_option maxRecDepth 100000 in
theorem mayBe_any (room : Int) (l : List Fl) (ad : Option Addr) (cap : Nat) (w : World) (hL : RowAt flf w ad l) (hn : l.length ≤ 9223372036854775807) (hd : ∀ f ∈ l, f.d.size ≤ 9223372036854775807) (hr1 : room ≤ 9223372036854775807) :
    Calls Try.prog 39 #[.int .i64 room, .slice ad l.length cap] w fun e w' => e = .returned (.bool (mayL room l)) ∧ Gr w w' := by
  have HW : Hid (∀ (n a c : Int) (w' : World), Calls Try.prog 45 #[.int .i64 n, .int .i64 a, .int .i64 c] w' fun e w2 => e = .returned (.bool (decide (a ≤ n ∧ n ≤ c))) ∧ w2 = w') := fun n a c w' => within_any n a c w'
  unfold mayL
  by_cases h1 : 0 ≤ room ∧ room ≤ 200000
  · rw [decide_eq_true h1]
    have d1 : decide (0 ≤ room ∧ room ≤ 200000) = true := decide_eq_true h1
    by_cases h2 : l.length ≤ 8
    · rw [decide_eq_true h2]
      have d2 : decide ((8 : Int) < (l.length : Int)) = false := decide_eq_false (by omega)
      simp only [Bool.true_and]
      have HL := Lib.hid hL
      clear hL hn
      go_enter Try.func39, Try.ntmps39
      go_wp2_with (go_at_call 45; refine (HW.out _ _ _ _).mono ?_; rintro e w' ⟨rfl, hw⟩; obtain rfl := hw.symm; clear hw; rw [d1])
      go_loopw [19, 5, 0] (fun i lo rm wr => ∃ (k : Nat) (a c : Int), k ≤ l.length ∧ i = .int .i64 (k : Int) ∧ lo = .int .i64 a ∧ rm = .int .i64 c ∧ 0 ≤ a ∧ a ≤ 1000001 ∧ 0 ≤ c ∧ c ≤ 200000 ∧ mayA 0 room l = mayA a c (l.drop k) ∧ Gr w wr) (fun i _ _ _ => l.length - (intOf i).toNat)
      case atStart => exact ⟨0, 0, room, Nat.zero_le _, rfl, rfl, rfl, by omega, by omega, by omega, by omega, rfl, Gr.refl w⟩
      case round =>
        obtain ⟨k, a, c, hk, rfl, rfl, rfl, ha0, ha1, hc0, hc1, hm, hg⟩ := hrel
        have HG := Lib.hid hg
        by_cases hlt : k < l.length
        · obtain ⟨x, off, hade, hxb, c0, c1, c2⟩ := fl_at HL.out k hlt
          have c0 := hg.keep c0
          have c1 := hg.keep c1
          have c2 := hg.keep c2
          have hxb2 : x < wr.heap.size := Nat.lt_of_lt_of_le hxb hg.size
          have hds := hd _ (List.getElem_mem hlt)
          rw [mayA_drop hlt] at hm
          have HM := Lib.hid hm
          subst hade
          clear hg hm hd
          generalize l[k] = f at *
          obtain ⟨fn, fd, fy⟩ := f
          simp only at *
          by_cases p1 : a ≤ fn ∧ fn ≤ 1000000
          · have q1 : decide (a ≤ fn ∧ fn ≤ 1000000) = true := decide_eq_true p1
            by_cases p2 : 1 ≤ (fd.size : Int) ∧ (fd.size : Int) ≤ c
            · have q2 : decide (1 ≤ (fd.size : Int) ∧ (fd.size : Int) ≤ c) = true := decide_eq_true p2
              by_cases p3 : 0 ≤ fy ∧ fy ≤ (fd.size : Int)
              · have q3 : decide (0 ≤ fy ∧ fy ≤ (fd.size : Int)) = true := decide_eq_true p3
                have HM2 : Hid (mayA 0 room l = mayA (fn + 1) (c - fd.size) (l.drop (k + 1))) := by
                  have := HM.out
                  simp only [okF, q1, q2, q3, Bool.true_and] at this
                  exact this
                clear HM
                go_wp2_with (go_at_call 45; refine (HW.out _ _ _ _).mono ?_; rintro e w' ⟨rfl, hw⟩; obtain rfl := hw.symm; clear hw; first | rw [q1] | rw [q2] | rw [q3])
                go_roundw
                case rel => exact ⟨k + 1, fn + 1, c - fd.size, by omega, by simp, rfl, rfl, by omega, by omega, by omega, by omega, HM2.out, HG.out.alloc⟩
                case measure => simp [intOf]; omega
              · have q3 : decide (0 ≤ fy ∧ fy ≤ (fd.size : Int)) = false := decide_eq_false p3
                have HM2 : Hid (mayA 0 room l = false) := by
                  have := HM.out
                  simp only [okF, q3, Bool.and_false, Bool.false_and] at this
                  exact this
                clear HM
                go_wp2_with (go_at_call 45; refine (HW.out _ _ _ _).mono ?_; rintro e w' ⟨rfl, hw⟩; obtain rfl := hw.symm; clear hw; first | rw [q1] | rw [q2] | rw [q3])
                go_ret
                exact ⟨by rw [HM2.out]; rfl, HG.out.alloc⟩
            · have q2 : decide (1 ≤ (fd.size : Int) ∧ (fd.size : Int) ≤ c) = false := decide_eq_false p2
              have HM2 : Hid (mayA 0 room l = false) := by
                have := HM.out
                simp only [okF, q2, Bool.and_false, Bool.false_and] at this
                exact this
              clear HM
              go_wp2_with (go_at_call 45; refine (HW.out _ _ _ _).mono ?_; rintro e w' ⟨rfl, hw⟩; obtain rfl := hw.symm; clear hw; first | rw [q1] | rw [q2])
              go_ret
              exact ⟨by rw [HM2.out]; rfl, HG.out.alloc⟩
          · have q1 : decide (a ≤ fn ∧ fn ≤ 1000000) = false := decide_eq_false p1
            have HM2 : Hid (mayA 0 room l = false) := by
              have := HM.out
              simp only [okF, q1, Bool.false_and] at this
              exact this
            clear HM
            go_wp2_with (go_at_call 45; refine (HW.out _ _ _ _).mono ?_; rintro e w' ⟨rfl, hw⟩; obtain rfl := hw.symm; clear hw; first | rw [q1])
            go_ret
            exact ⟨by rw [HM2.out]; rfl, HG.out.alloc⟩
        · obtain rfl : k = l.length := by omega
          rw [List.drop_length] at hm
          have HM2 : Hid (mayA 0 room l = true) := hm
          clear hm hg
          go_wp2
          go_ret
          exact ⟨by rw [HM2.out]; rfl, HG.out⟩
    · rw [decide_eq_false h2]
      have d2 : decide ((8 : Int) < (l.length : Int)) = true := decide_eq_true (by omega)
      simp only [Bool.and_false, Bool.false_and]
      clear hL hd
      go_enter Try.func39, Try.ntmps39
      go_wp2_with (go_at_call 45; refine (HW.out _ _ _ _).mono ?_; rintro e w' ⟨rfl, hw⟩; obtain rfl := hw.symm; clear hw; rw [d1])
      go_ret
      exact ⟨rfl, Gr.refl w⟩
  · rw [decide_eq_false h1]
    have d1 : decide (0 ≤ room ∧ room ≤ 200000) = false := decide_eq_false h1
    simp only [Bool.false_and]
    clear hL hd
    go_enter Try.func39, Try.ntmps39
    go_wp2_with (go_at_call 45; refine (HW.out _ _ _ _).mono ?_; rintro e w' ⟨rfl, hw⟩; obtain rfl := hw.symm; clear hw; rw [d1])
    go_ret
    exact ⟨rfl, Gr.refl w⟩
end Go.Proofs.Ytpnlebegenkdkaa
