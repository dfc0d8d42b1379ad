/- Parts of these proofs, laid together. -/
import Derived.Test.YtcmbppjfpdkblaaGreatDoorGP
import Derived.Test.YtcmbppjfpdkblaaGreatDoorGK
import Derived.Test.YtcmbppjfpdkblaaGreatDoorGM
import Derived.BigQuiet
import Derived.Deep.QuietTactic
/- The document's Check and Ends of notes. -/
namespace Go.Proofs.YtcmbppjfpdkblaaGreatDoor
open Go.RowKit

set_option maxHeartbeats 4000000 in
set_option maxRecDepth 100000 in
theorem refNCheck_any (k r n : Int) (L : List (Int × Int)) (d : ByteArray) (y : Int) (ad : Option Addr) (cap : Nat) (w : World) (hL : HopsAt w ad L) (hn : L.length ≤ 9223372036854775807) (hd : d.size ≤ 9223372036854775807) :
    Calls Tryz.prog 15 #[.agg #[.int .i64 k, .int .i64 r, .int .i64 n, .slice ad L.length cap, .string d, .int .i64 y]] w fun e w' => e = .returned (.int .i64 (Nt.ckE (⟨k, r, n, L, d, y⟩ : Nt))) ∧ Gr w w' := by
  have H0 : Hid (∀ w', Gr w w' → Calls Tryz.prog 35 #[.agg #[.int .i64 r, .int .i64 n, .slice ad L.length cap]] w' fun e w2 => e = .returned (.int .i64 (errB (Idn.mayB r n L))) ∧ Gr w' w2) := fun w' g => refCheck_any r n L ad cap w' (hL.gr g) hn
  have H1 : Hid (∀ w', Calls Tryz.prog 36 #[.string d] w' fun e w2 => e = .returned (.bool (Act.nameB d)) ∧ Gr w' w2) := fun w' => (refName_any d w' hd).mono (by rintro e w2 ⟨rfl, rfl⟩; exact ⟨rfl, Gr.refl _⟩)
  have HE : Hid (Nt.ckE (⟨k, r, n, L, d, y⟩ : Nt) = if (Nt.inB k 1 7 && (Idn.mayB r n L && decide (0 < L.length)) && (if k = 1 then Act.nameB d else decide (d = ⟨#[]⟩)) && (if k = 6 then Nt.inB y 1 9 else decide (y = 0))) = true then 0 else 130) := rfl
  have hi7 : Nt.inB k 1 7 = (decide (1 ≤ k) && decide (k ≤ 7)) := rfl
  have hi9 : Nt.inB y 1 9 = (decide (1 ≤ y) && decide (y ≤ 9)) := rfl
  rw [hi7, hi9] at HE
  generalize Nt.ckE (⟨k, r, n, L, d, y⟩ : Nt) = R at *
  clear hL hn hd hi7 hi9
  by_cases h1 : k < 1
  · have HV : Hid (R = 130) := by
      show _ = _
      rw [HE.out, decide_eq_false (show ¬ 1 ≤ k by omega)]; simp
    clear HE
    go_enter Tryz.func15, Tryz.ntmps15
    go_wp2
    go_ret
    exact ⟨by rw [HV.out]; rfl, (by repeat (first | exact Gr.refl _ | refine Gr.alloc ?_ | refine Gr.drew ?_ | refine Gr.trans ?_ (by assumption)))⟩
  · rw [decide_eq_true (show 1 ≤ k by omega)] at HE
    by_cases h7 : 7 < k
    · have HV : Hid (R = 130) := by
        show _ = _
        rw [HE.out, decide_eq_false (show ¬ k ≤ 7 by omega)]; simp
      clear HE
      go_enter Tryz.func15, Tryz.ntmps15
      go_wp2
      go_ret
      exact ⟨by rw [HV.out]; rfl, (by repeat (first | exact Gr.refl _ | refine Gr.alloc ?_ | refine Gr.drew ?_ | refine Gr.trans ?_ (by assumption)))⟩
    · rw [decide_eq_true (show k ≤ 7 by omega)] at HE
      generalize Idn.mayB r n L = bm at *
      cases bm with
      | false =>
        have HV : Hid (R = 130) := by show _ = _; rw [HE.out]; simp
        rw [show errB false = 30 from rfl] at H0
        clear HE
        go_enter Tryz.func15, Tryz.ntmps15
        go_wp2_with fail
        refine (H0.out _ ?_).mono ?_
        · exact (by repeat (first | exact Gr.refl _ | refine Gr.alloc ?_ | refine Gr.drew ?_ | refine Gr.trans ?_ (by assumption)))
        rintro e0 w1 ⟨rfl, hg0⟩
        have B1 := (Cs.new w [.int .i64 k, .int .i64 r, .int .i64 n, .slice ad L.length cap, .string d, .int .i64 y] 26 _ rfl).gr hg0
        have c0 := B1.at_ 0 _ rfl
        have c1 := B1.at_ 1 _ rfl
        have c2 := B1.at_ 2 _ rfl
        have c3 := B1.at_ 3 _ rfl
        have c4 := B1.at_ 4 _ rfl
        have c5 := B1.at_ 5 _ rfl
        have clt := B1.lt
        go_wp2
        go_ret
        exact ⟨by rw [HV.out]; rfl, (by repeat (first | exact Gr.refl _ | refine Gr.alloc ?_ | refine Gr.drew ?_ | refine Gr.trans ?_ (by assumption)))⟩
      | true =>
        rw [show errB true = 0 from rfl] at H0
        by_cases hl : L.length = 0
        · have HV : Hid (R = 130) := by show _ = _; rw [HE.out, decide_eq_false (show ¬ 0 < L.length by omega)]; simp
          obtain rfl : L = [] := List.length_eq_zero_iff.1 hl
          simp only [List.length_nil] at H0
          simp only [List.length_nil]
          clear hl HE
          go_enter Tryz.func15, Tryz.ntmps15
          go_wp2_with fail
          refine (H0.out _ ?_).mono ?_
          · exact (by repeat (first | exact Gr.refl _ | refine Gr.alloc ?_ | refine Gr.drew ?_ | refine Gr.trans ?_ (by assumption)))
          rintro e0 w1 ⟨rfl, hg0⟩
          have B1 := (Cs.new w [.int .i64 k, .int .i64 r, .int .i64 n, .slice ad 0 cap, .string d, .int .i64 y] 26 _ rfl).gr hg0
          have c0 := B1.at_ 0 _ rfl
          have c1 := B1.at_ 1 _ rfl
          have c2 := B1.at_ 2 _ rfl
          have c3 := B1.at_ 3 _ rfl
          have c4 := B1.at_ 4 _ rfl
          have c5 := B1.at_ 5 _ rfl
          have clt := B1.lt
          go_wp2
          go_ret
          exact ⟨by rw [HV.out]; rfl, (by repeat (first | exact Gr.refl _ | refine Gr.alloc ?_ | refine Gr.drew ?_ | refine Gr.trans ?_ (by assumption)))⟩
        · rw [decide_eq_true (show 0 < L.length by omega)] at HE
          have hl' : ((L.length : Int) == 0) = false := by rw [beq_eq_false_iff_ne]; omega
          clear hl
          simp only [Bool.true_and, Bool.and_self] at HE
          by_cases k1 : k = 1
          · subst k1
            rw [if_pos rfl] at HE
            simp only [if_neg (show ¬ ((1 : Int) = 6) by decide)] at HE
            generalize Act.nameB d = bn at *
            cases bn with
            | false =>
              have HV : Hid (R = 130) := by show _ = _; rw [HE.out]; simp
              clear HE
              go_enter Tryz.func15, Tryz.ntmps15
              go_wp2_with fail
              refine (H0.out _ ?_).mono ?_
              · exact (by repeat (first | exact Gr.refl _ | refine Gr.alloc ?_ | refine Gr.drew ?_ | refine Gr.trans ?_ (by assumption)))
              rintro e0 w1 ⟨rfl, hg0⟩
              have B1 := (Cs.new w [.int .i64 1, .int .i64 r, .int .i64 n, .slice ad L.length cap, .string d, .int .i64 y] 26 _ rfl).gr hg0
              have c0 := B1.at_ 0 _ rfl
              have c1 := B1.at_ 1 _ rfl
              have c2 := B1.at_ 2 _ rfl
              have c3 := B1.at_ 3 _ rfl
              have c4 := B1.at_ 4 _ rfl
              have c5 := B1.at_ 5 _ rfl
              have clt := B1.lt
              go_wp2_with fail
              refine (H1.out _).mono ?_
              rintro e1 w2 ⟨rfl, hg1⟩
              have B2 := B1.gr hg1
              have c0 := B2.at_ 0 _ rfl
              have c1 := B2.at_ 1 _ rfl
              have c2 := B2.at_ 2 _ rfl
              have c3 := B2.at_ 3 _ rfl
              have c4 := B2.at_ 4 _ rfl
              have c5 := B2.at_ 5 _ rfl
              have clt := B2.lt
              go_wp2
              go_ret
              exact ⟨by rw [HV.out]; rfl, (by repeat (first | exact Gr.refl _ | refine Gr.alloc ?_ | refine Gr.drew ?_ | refine Gr.trans ?_ (by assumption)))⟩
            | true =>
              by_cases hy : y = 0
              · subst hy
                have HV : Hid (R = 0) := by show _ = _; rw [HE.out]; simp
                clear HE
                go_enter Tryz.func15, Tryz.ntmps15
                go_wp2_with fail
                refine (H0.out _ ?_).mono ?_
                · exact (by repeat (first | exact Gr.refl _ | refine Gr.alloc ?_ | refine Gr.drew ?_ | refine Gr.trans ?_ (by assumption)))
                rintro e0 w1 ⟨rfl, hg0⟩
                have B1 := (Cs.new w [.int .i64 1, .int .i64 r, .int .i64 n, .slice ad L.length cap, .string d, .int .i64 0] 26 _ rfl).gr hg0
                have c0 := B1.at_ 0 _ rfl
                have c1 := B1.at_ 1 _ rfl
                have c2 := B1.at_ 2 _ rfl
                have c3 := B1.at_ 3 _ rfl
                have c4 := B1.at_ 4 _ rfl
                have c5 := B1.at_ 5 _ rfl
                have clt := B1.lt
                go_wp2_with fail
                refine (H1.out _).mono ?_
                rintro e1 w2 ⟨rfl, hg1⟩
                have B2 := B1.gr hg1
                have c0 := B2.at_ 0 _ rfl
                have c1 := B2.at_ 1 _ rfl
                have c2 := B2.at_ 2 _ rfl
                have c3 := B2.at_ 3 _ rfl
                have c4 := B2.at_ 4 _ rfl
                have c5 := B2.at_ 5 _ rfl
                have clt := B2.lt
                go_wp2
                go_ret
                exact ⟨by rw [HV.out]; rfl, (by repeat (first | exact Gr.refl _ | refine Gr.alloc ?_ | refine Gr.drew ?_ | refine Gr.trans ?_ (by assumption)))⟩
              · have HV : Hid (R = 130) := by show _ = _; rw [HE.out, decide_eq_false hy]; simp
                have hy' : (y != 0) = true := by simpa using hy
                clear HE
                go_enter Tryz.func15, Tryz.ntmps15
                go_wp2_with fail
                refine (H0.out _ ?_).mono ?_
                · exact (by repeat (first | exact Gr.refl _ | refine Gr.alloc ?_ | refine Gr.drew ?_ | refine Gr.trans ?_ (by assumption)))
                rintro e0 w1 ⟨rfl, hg0⟩
                have B1 := (Cs.new w [.int .i64 1, .int .i64 r, .int .i64 n, .slice ad L.length cap, .string d, .int .i64 y] 26 _ rfl).gr hg0
                have c0 := B1.at_ 0 _ rfl
                have c1 := B1.at_ 1 _ rfl
                have c2 := B1.at_ 2 _ rfl
                have c3 := B1.at_ 3 _ rfl
                have c4 := B1.at_ 4 _ rfl
                have c5 := B1.at_ 5 _ rfl
                have clt := B1.lt
                go_wp2_with fail
                refine (H1.out _).mono ?_
                rintro e1 w2 ⟨rfl, hg1⟩
                have B2 := B1.gr hg1
                have c0 := B2.at_ 0 _ rfl
                have c1 := B2.at_ 1 _ rfl
                have c2 := B2.at_ 2 _ rfl
                have c3 := B2.at_ 3 _ rfl
                have c4 := B2.at_ 4 _ rfl
                have c5 := B2.at_ 5 _ rfl
                have clt := B2.lt
                go_wp2
                go_ret
                exact ⟨by rw [HV.out]; rfl, (by repeat (first | exact Gr.refl _ | refine Gr.alloc ?_ | refine Gr.drew ?_ | refine Gr.trans ?_ (by assumption)))⟩
          · have k1' : (k == 1) = false := by simpa using k1
            have k1'' : (k != 1) = true := by simpa using k1
            rw [if_neg k1] at HE
            by_cases hd : d = ⟨#[]⟩
            · subst hd
              rw [decide_eq_true rfl, Bool.true_and] at HE
              by_cases k6 : k = 6
              · subst k6
                rw [if_pos rfl] at HE
                by_cases y1 : y < 1
                · have HV : Hid (R = 130) := by show _ = _; rw [HE.out, decide_eq_false (show ¬ 1 ≤ y by omega)]; simp
                  clear HE
                  go_enter Tryz.func15, Tryz.ntmps15
                  go_wp2_with fail
                  refine (H0.out _ ?_).mono ?_
                  · exact (by repeat (first | exact Gr.refl _ | refine Gr.alloc ?_ | refine Gr.drew ?_ | refine Gr.trans ?_ (by assumption)))
                  rintro e0 w1 ⟨rfl, hg0⟩
                  have B1 := (Cs.new w [.int .i64 6, .int .i64 r, .int .i64 n, .slice ad L.length cap, .string ⟨#[]⟩, .int .i64 y] 26 _ rfl).gr hg0
                  have c0 := B1.at_ 0 _ rfl
                  have c1 := B1.at_ 1 _ rfl
                  have c2 := B1.at_ 2 _ rfl
                  have c3 := B1.at_ 3 _ rfl
                  have c4 := B1.at_ 4 _ rfl
                  have c5 := B1.at_ 5 _ rfl
                  have clt := B1.lt
                  go_wp2
                  go_ret
                  exact ⟨by rw [HV.out]; rfl, (by repeat (first | exact Gr.refl _ | refine Gr.alloc ?_ | refine Gr.drew ?_ | refine Gr.trans ?_ (by assumption)))⟩
                · by_cases y9 : 9 < y
                  · have HV : Hid (R = 130) := by show _ = _; rw [HE.out, decide_eq_false (show ¬ y ≤ 9 by omega)]; simp
                    clear HE
                    go_enter Tryz.func15, Tryz.ntmps15
                    go_wp2_with fail
                    refine (H0.out _ ?_).mono ?_
                    · exact (by repeat (first | exact Gr.refl _ | refine Gr.alloc ?_ | refine Gr.drew ?_ | refine Gr.trans ?_ (by assumption)))
                    rintro e0 w1 ⟨rfl, hg0⟩
                    have B1 := (Cs.new w [.int .i64 6, .int .i64 r, .int .i64 n, .slice ad L.length cap, .string ⟨#[]⟩, .int .i64 y] 26 _ rfl).gr hg0
                    have c0 := B1.at_ 0 _ rfl
                    have c1 := B1.at_ 1 _ rfl
                    have c2 := B1.at_ 2 _ rfl
                    have c3 := B1.at_ 3 _ rfl
                    have c4 := B1.at_ 4 _ rfl
                    have c5 := B1.at_ 5 _ rfl
                    have clt := B1.lt
                    go_wp2
                    go_ret
                    exact ⟨by rw [HV.out]; rfl, (by repeat (first | exact Gr.refl _ | refine Gr.alloc ?_ | refine Gr.drew ?_ | refine Gr.trans ?_ (by assumption)))⟩
                  · have HV : Hid (R = 0) := by show _ = _; rw [HE.out, decide_eq_true (show 1 ≤ y by omega), decide_eq_true (show y ≤ 9 by omega)]; simp
                    clear HE
                    go_enter Tryz.func15, Tryz.ntmps15
                    go_wp2_with fail
                    refine (H0.out _ ?_).mono ?_
                    · exact (by repeat (first | exact Gr.refl _ | refine Gr.alloc ?_ | refine Gr.drew ?_ | refine Gr.trans ?_ (by assumption)))
                    rintro e0 w1 ⟨rfl, hg0⟩
                    have B1 := (Cs.new w [.int .i64 6, .int .i64 r, .int .i64 n, .slice ad L.length cap, .string ⟨#[]⟩, .int .i64 y] 26 _ rfl).gr hg0
                    have c0 := B1.at_ 0 _ rfl
                    have c1 := B1.at_ 1 _ rfl
                    have c2 := B1.at_ 2 _ rfl
                    have c3 := B1.at_ 3 _ rfl
                    have c4 := B1.at_ 4 _ rfl
                    have c5 := B1.at_ 5 _ rfl
                    have clt := B1.lt
                    go_wp2
                    go_ret
                    exact ⟨by rw [HV.out]; rfl, (by repeat (first | exact Gr.refl _ | refine Gr.alloc ?_ | refine Gr.drew ?_ | refine Gr.trans ?_ (by assumption)))⟩
              · rw [if_neg k6] at HE
                have k6' : (k == 6) = false := by simpa using k6
                have k6'' : (k != 6) = true := by simpa using k6
                by_cases hy : y = 0
                · subst hy
                  have HV : Hid (R = 0) := by show _ = _; rw [HE.out]; simp
                  clear HE
                  go_enter Tryz.func15, Tryz.ntmps15
                  go_wp2_with fail
                  refine (H0.out _ ?_).mono ?_
                  · exact (by repeat (first | exact Gr.refl _ | refine Gr.alloc ?_ | refine Gr.drew ?_ | refine Gr.trans ?_ (by assumption)))
                  rintro e0 w1 ⟨rfl, hg0⟩
                  have B1 := (Cs.new w [.int .i64 k, .int .i64 r, .int .i64 n, .slice ad L.length cap, .string ⟨#[]⟩, .int .i64 0] 26 _ rfl).gr hg0
                  have c0 := B1.at_ 0 _ rfl
                  have c1 := B1.at_ 1 _ rfl
                  have c2 := B1.at_ 2 _ rfl
                  have c3 := B1.at_ 3 _ rfl
                  have c4 := B1.at_ 4 _ rfl
                  have c5 := B1.at_ 5 _ rfl
                  have clt := B1.lt
                  go_wp2
                  go_ret
                  exact ⟨by rw [HV.out]; rfl, (by repeat (first | exact Gr.refl _ | refine Gr.alloc ?_ | refine Gr.drew ?_ | refine Gr.trans ?_ (by assumption)))⟩
                · have HV : Hid (R = 130) := by show _ = _; rw [HE.out, decide_eq_false hy]; simp
                  have hy' : (y != 0) = true := by simpa using hy
                  clear HE
                  go_enter Tryz.func15, Tryz.ntmps15
                  go_wp2_with fail
                  refine (H0.out _ ?_).mono ?_
                  · exact (by repeat (first | exact Gr.refl _ | refine Gr.alloc ?_ | refine Gr.drew ?_ | refine Gr.trans ?_ (by assumption)))
                  rintro e0 w1 ⟨rfl, hg0⟩
                  have B1 := (Cs.new w [.int .i64 k, .int .i64 r, .int .i64 n, .slice ad L.length cap, .string ⟨#[]⟩, .int .i64 y] 26 _ rfl).gr hg0
                  have c0 := B1.at_ 0 _ rfl
                  have c1 := B1.at_ 1 _ rfl
                  have c2 := B1.at_ 2 _ rfl
                  have c3 := B1.at_ 3 _ rfl
                  have c4 := B1.at_ 4 _ rfl
                  have c5 := B1.at_ 5 _ rfl
                  have clt := B1.lt
                  go_wp2
                  go_ret
                  exact ⟨by rw [HV.out]; rfl, (by repeat (first | exact Gr.refl _ | refine Gr.alloc ?_ | refine Gr.drew ?_ | refine Gr.trans ?_ (by assumption)))⟩
            · have HV : Hid (R = 130) := by show _ = _; rw [HE.out, decide_eq_false hd]; simp
              have hd' : d.toList.isEmpty = false := by rw [eqE, decide_eq_false hd]
              clear HE
              go_enter Tryz.func15, Tryz.ntmps15
              go_wp2_with fail
              refine (H0.out _ ?_).mono ?_
              · exact (by repeat (first | exact Gr.refl _ | refine Gr.alloc ?_ | refine Gr.drew ?_ | refine Gr.trans ?_ (by assumption)))
              rintro e0 w1 ⟨rfl, hg0⟩
              have B1 := (Cs.new w [.int .i64 k, .int .i64 r, .int .i64 n, .slice ad L.length cap, .string d, .int .i64 y] 26 _ rfl).gr hg0
              have c0 := B1.at_ 0 _ rfl
              have c1 := B1.at_ 1 _ rfl
              have c2 := B1.at_ 2 _ rfl
              have c3 := B1.at_ 3 _ rfl
              have c4 := B1.at_ 4 _ rfl
              have c5 := B1.at_ 5 _ rfl
              have clt := B1.lt
              go_wp2
              go_ret
              exact ⟨by rw [HV.out]; rfl, (by repeat (first | exact Gr.refl _ | refine Gr.alloc ?_ | refine Gr.drew ?_ | refine Gr.trans ?_ (by assumption)))⟩

theorem path_last (r : Int) (L : List (Int × Int)) (h0 : 0 < L.length) : (Idn.path r L)[L.length]? = some ((Idn.path r L).getLastD (-1)) ∧ (Idn.path r L)[L.length - 1]? = some ((Idn.path r L.dropLast).getLastD (-1)) := by
  have hne : L ≠ [] := List.length_pos_iff.1 h0
  obtain ⟨⟨s, o⟩, hlast⟩ : ∃ x, L.getLast hne = x := ⟨_, rfl⟩
  have e : L = L.dropLast ++ [(s, o)] := by rw [← hlast]; exact (List.dropLast_concat_getLast hne).symm
  generalize L.dropLast = M at *
  subst e
  rw [Idn.path_snoc]
  have hp : (Idn.path r M).length = M.length + 1 := path_len r M
  constructor
  · rw [List.length_append, List.length_singleton, List.getElem?_append_right (by omega), hp]
    simp
  · rw [List.length_append, List.length_singleton, Nat.add_sub_cancel, List.getElem?_append_left (by omega)]
    rw [List.getLastD_eq_getLast?, List.getLast?_eq_getElem?, hp, Nat.add_sub_cancel, List.getElem?_eq_getElem (by omega)]
    rfl

set_option maxHeartbeats 4000000 in
set_option maxRecDepth 100000 in
theorem refNEnds_any (k r n : Int) (L : List (Int × Int)) (d : ByteArray) (y : Int) (ad : Option Addr) (cap : Nat) (w : World) (hL : HopsAt w ad L) (hn : L.length ≤ 9223372036854775807) (hd : d.size ≤ 9223372036854775807) :
    Calls Tryz.prog 11 #[.agg #[.int .i64 k, .int .i64 r, .int .i64 n, .slice ad L.length cap, .string d, .int .i64 y]] w fun e w' => e = .returned (.tuple #[.int .i64 (Nt.ends1 (⟨k, r, n, L, d, y⟩ : Nt)), .int .i64 (Nt.ends2 (⟨k, r, n, L, d, y⟩ : Nt))]) ∧ Gr w w' := by
  have HC : Hid (∀ w', Gr w w' → Calls Tryz.prog 15 #[.agg #[.int .i64 k, .int .i64 r, .int .i64 n, .slice ad L.length cap, .string d, .int .i64 y]] w' fun e w2 => e = .returned (.int .i64 (Nt.ckE (⟨k, r, n, L, d, y⟩ : Nt))) ∧ Gr w' w2) := fun w' g => refNCheck_any k r n L d y ad cap w' (hL.gr g) hn hd
  have HP : Hid (∀ w', Gr w w' → Calls Tryz.prog 26 #[.agg #[.int .i64 r, .int .i64 n, .slice ad L.length cap]] w' fun e w2 => ∃ ad2 cap2, e = .returned (.slice ad2 (pathE r n L).length cap2) ∧ (pathE r n L).length ≤ cap2 ∧ IntsAt w2 ad2 (pathE r n L) ∧ Gr w' w2) := fun w' g => refPath_any r n L ad cap w' (hL.gr g) hn
  have HE1 : Hid (Nt.ends1 (⟨k, r, n, L, d, y⟩ : Nt) = if Nt.ntB (⟨k, r, n, L, d, y⟩ : Nt) = true then (if k ≤ 4 then Nt.upO (⟨k, r, n, L, d, y⟩ : Nt) else Nt.dnO (⟨k, r, n, L, d, y⟩ : Nt)) else -1) := rfl
  have HE2 : Hid (Nt.ends2 (⟨k, r, n, L, d, y⟩ : Nt) = if Nt.ntB (⟨k, r, n, L, d, y⟩ : Nt) = true then (if k ≤ 4 then Nt.dnO (⟨k, r, n, L, d, y⟩ : Nt) else Nt.upO (⟨k, r, n, L, d, y⟩ : Nt)) else -1) := rfl
  generalize Nt.ends1 (⟨k, r, n, L, d, y⟩ : Nt) = E1 at *
  generalize Nt.ends2 (⟨k, r, n, L, d, y⟩ : Nt) = E2 at *
  unfold Nt.ckE at HC
  by_cases hm : Nt.ntB (⟨k, r, n, L, d, y⟩ : Nt) = true
  · rw [if_pos hm] at HC HE1 HE2
    obtain ⟨hk, hi, h0, _, _⟩ := Nt.may_note hm
    simp only at hk hi h0
    have hpe : pathE r n L = Idn.path r L := by unfold pathE; rw [if_pos hi]
    have hpl := path_len r L
    obtain ⟨p1, p2⟩ := path_last r L h0
    have h4 := may_len hi
    rw [hpe, hpl] at HP
    have hUV : Hid ((Idn.path r L)[L.length]? = some (Nt.dnO (⟨k, r, n, L, d, y⟩ : Nt)) ∧ (Idn.path r L)[L.length - 1]? = some (Nt.upO (⟨k, r, n, L, d, y⟩ : Nt))) := ⟨p1, p2⟩
    generalize Nt.upO (⟨k, r, n, L, d, y⟩ : Nt) = U at *
    generalize Nt.dnO (⟨k, r, n, L, d, y⟩ : Nt) = V at *
    generalize Idn.path r L = pl at *
    obtain ⟨m, hm⟩ : ∃ m, L.length = m + 1 := ⟨L.length - 1, by omega⟩
    rw [hm] at HP HC hUV
    rw [hm] at hpl h4
    rw [hm]
    have hs2 : (((m + 1 + 1 : Nat) : Int)) - 2 = (m : Int) := by omega
    have hs1 : (((m + 1 + 1 : Nat) : Int)) - 1 = ((m + 1 : Nat) : Int) := by omega
    clear hL hn hd hi h0 hpe p1 p2
    go_enter Tryz.func11, Tryz.ntmps11
    go_wp2_with fail
    refine (HC.out _ (by repeat (first | exact Gr.refl _ | refine Gr.alloc ?_ | refine Gr.drew ?_ | refine Gr.trans ?_ (by assumption)))).mono ?_
    rintro e1 w1 ⟨rfl, hg1⟩
    have B1 := (Cs.new w [.int .i64 k, .int .i64 r, .int .i64 n, .slice ad (m + 1) cap, .string d, .int .i64 y] 26 _ rfl).gr hg1
    have c0 := B1.at_ 0 _ rfl
    have c1 := B1.at_ 1 _ rfl
    have c2 := B1.at_ 2 _ rfl
    have c3 := B1.at_ 3 _ rfl
    have clt := B1.lt
    go_wp2_with fail
    refine (HP.out _ ?_).mono ?_
    · exact (by repeat (first | exact Gr.refl _ | refine Gr.alloc ?_ | refine Gr.drew ?_ | refine Gr.trans ?_ (by assumption)))
    rintro e2 w2 ⟨ad2, cap2, rfl, hcp, hia, hg2⟩
    have B2 := B1.gr hg2
    obtain ⟨q1, q2⟩ := hUV.out
    rw [Nat.add_sub_cancel] at q2
    obtain ⟨l1, v1⟩ := List.getElem?_eq_some_iff.1 q1
    obtain ⟨l2, v2⟩ := List.getElem?_eq_some_iff.1 q2
    obtain ⟨b, off, rfl, hbl, k1⟩ := hia (m + 1) l1
    obtain ⟨b', off', e, _, k2⟩ := hia m l2
    cases e
    rw [v1] at k1
    rw [v2] at k2
    have hgw : Gr w w2 := (by repeat (first | exact Gr.refl _ | refine Gr.alloc ?_ | refine Gr.drew ?_ | refine Gr.trans ?_ (by assumption)))
    clear c0 c1 c2 c3 clt hg1 hg2 hia B1 q1 q2 l1 l2 v1 v2 hUV
    have c0 := B2.at_ 0 _ rfl
    have clt := B2.lt
    have i1 : ((m : Int) + 1 + 1) - 2 = (m : Int) := by omega
    have i2 : ((m : Int) + 1 + 1) - 1 = (m : Int) + 1 := by omega
    have j1 : IntKind.i64.wrap ((m : Int) + 1 + 1 - 2) = (m : Int) := by rw [IntKind.wrap_i64]; omega
    have j2 : IntKind.i64.wrap ((m : Int) + 1 + 1 - 1) = (m : Int) + 1 := by rw [IntKind.wrap_i64]; omega
    have o1 : (m : Int) < (m : Int) + 1 + 1 := by omega
    have o2 : (m : Int) + 1 < (m : Int) + 1 + 1 := by omega
    go_wp2
    go_quiet (fail)
    all_goals
      by_cases hk4 : k ≤ 4
      · have hk5 : ¬ (5 ≤ k) := by omega
        rw [if_pos hk4] at HE1 HE2
        go_wp2
        go_ret2
        exact ⟨by rw [HE1.out, HE2.out]; rfl, hgw.trans ⟨below_drewN (Below.refl _ _) _⟩⟩
      · have hk5 : 5 ≤ k := by omega
        rw [if_neg hk4] at HE1 HE2
        go_wp2
        go_ret2
        exact ⟨by rw [HE1.out, HE2.out]; rfl, hgw.trans ⟨below_drewN (Below.refl _ _) _⟩⟩
  · rw [if_neg hm] at HC HE1 HE2
    clear hL hm
    go_enter Tryz.func11, Tryz.ntmps11
    go_wp2_with fail
    refine (HC.out _ (by repeat (first | exact Gr.refl _ | refine Gr.alloc ?_ | refine Gr.drew ?_ | refine Gr.trans ?_ (by assumption)))).mono ?_
    rintro e1 w1 ⟨rfl, hg1⟩
    go_wp2
    go_ret2
    exact ⟨by rw [HE1.out, HE2.out]; rfl, (by repeat (first | exact Gr.refl _ | refine Gr.alloc ?_ | refine Gr.drew ?_ | refine Gr.trans ?_ (by assumption)))⟩
end Go.Proofs.YtcmbppjfpdkblaaGreatDoor
