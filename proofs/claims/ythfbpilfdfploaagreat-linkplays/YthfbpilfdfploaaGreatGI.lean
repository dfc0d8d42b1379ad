/- Parts of these proofs, laid together. -/
import Derived.Test.YthfbpilfdfploaaGreatGE
import Derived.Test.YthfbpilfdfploaaGreatGG
import Derived.Test.YthfbpilfdfploaaGreatGH
import Derived.BigQuiet
import Derived.Deep.QuietTactic
import Derived.Test.YthfbpilfdfploaaGreatGB
import Derived.Test.YthfbpilfdfploaaGreatShelf
import Derived.Laws.AppendOwnNone
import Derived.WalkMore
import Derived.Test.YthfbpilfdfploaaGreatGA
namespace Go.Proofs.YthfbpilfdfploaaGreat
open Go.RowKit

set_option maxHeartbeats 4000000 in
set_option maxRecDepth 100000 in
theorem refNCheck_any (k r n : Int) (L : List (Int × Int)) (d : ByteArray) (y : Int) (ad : Option Addr) (cap : Nat) (w : World) (hL : HopsAt w ad L) (hn : L.length ≤ 9223372036854775807) (hd : d.size ≤ 9223372036854775807) :
    Calls Tryz.prog 46 #[.agg #[.int .i64 k, .int .i64 r, .int .i64 n, .slice ad L.length cap, .string d, .int .i64 y]] w fun e w' => e = .returned (.int .i64 (Nt.ckE (⟨k, r, n, L, d, y⟩ : Nt))) ∧ Gr w w' := by
  have H0 : Hid (∀ w', Gr w w' → Calls Tryz.prog 70 #[.agg #[.int .i64 r, .int .i64 n, .slice ad L.length cap]] w' fun e w2 => e = .returned (.int .i64 (errB (Idn.mayB r n L))) ∧ Gr w' w2) := fun w' g => refCheck_any r n L ad cap w' (hL.gr g) hn
  have H1 : Hid (∀ w', Calls Tryz.prog 71 #[.string d] w' fun e w2 => e = .returned (.bool (Act.nameB d)) ∧ Gr w' w2) := fun w' => (refName_any d w' hd).mono (by rintro e w2 ⟨rfl, rfl⟩; exact ⟨rfl, Gr.refl _⟩)
  have HE : Hid (Nt.ckE (⟨k, r, n, L, d, y⟩ : Nt) = if (Nt.inB k 1 7 && (Idn.mayB r n L && decide (0 < L.length)) && (if k = 1 then Act.nameB d else decide (d = ⟨#[]⟩)) && (if k = 6 then Nt.inB y 1 9 else decide (y = 0))) = true then 0 else 130) := rfl
  have hi7 : Nt.inB k 1 7 = (decide (1 ≤ k) && decide (k ≤ 7)) := rfl
  have hi9 : Nt.inB y 1 9 = (decide (1 ≤ y) && decide (y ≤ 9)) := rfl
  rw [hi7, hi9] at HE
  generalize Nt.ckE (⟨k, r, n, L, d, y⟩ : Nt) = R at *
  clear hL hn hd hi7 hi9
  by_cases h1 : k < 1
  · have HV : Hid (R = 130) := by
      show _ = _
      rw [HE.out, decide_eq_false (show ¬ 1 ≤ k by omega)]; simp
    clear HE
    go_enter Tryz.func46, Tryz.ntmps46
    go_wp2
    go_ret
    exact ⟨by rw [HV.out]; rfl, (by repeat(first|exact Gr.r _|refine Gr.a ?_|refine Gr.d ?_|refine Gr.t ?_ (by assumption)))⟩
  · rw [decide_eq_true (show 1 ≤ k by omega)] at HE
    by_cases h7 : 7 < k
    · have HV : Hid (R = 130) := by
        show _ = _
        rw [HE.out, decide_eq_false (show ¬ k ≤ 7 by omega)]; simp
      clear HE
      go_enter Tryz.func46, Tryz.ntmps46
      go_wp2
      go_ret
      exact ⟨by rw [HV.out]; rfl, (by repeat(first|exact Gr.r _|refine Gr.a ?_|refine Gr.d ?_|refine Gr.t ?_ (by assumption)))⟩
    · rw [decide_eq_true (show k ≤ 7 by omega)] at HE
      generalize Idn.mayB r n L = bm at *
      cases bm with
      | false =>
        have HV : Hid (R = 130) := by show _ = _; rw [HE.out]; simp
        rw [show errB false = 30 from rfl] at H0
        clear HE
        go_enter Tryz.func46, Tryz.ntmps46
        go_wp2_with fail
        refine (H0.out _ ?_).mono ?_
        · exact (by repeat(first|exact Gr.r _|refine Gr.a ?_|refine Gr.d ?_|refine Gr.t ?_ (by assumption)))
        rintro e0 w1 ⟨rfl, hg0⟩
        have B1 := (Cs.new w [.int .i64 k, .int .i64 r, .int .i64 n, .slice ad L.length cap, .string d, .int .i64 y] 36 _ rfl).gr hg0
        have c0 := B1.at_ 0 _ rfl
        have c1 := B1.at_ 1 _ rfl
        have c2 := B1.at_ 2 _ rfl
        have c3 := B1.at_ 3 _ rfl
        have c4 := B1.at_ 4 _ rfl
        have c5 := B1.at_ 5 _ rfl
        have clt := B1.lt
        go_wp2
        go_ret
        exact ⟨by rw [HV.out]; rfl, (by repeat(first|exact Gr.r _|refine Gr.a ?_|refine Gr.d ?_|refine Gr.t ?_ (by assumption)))⟩
      | true =>
        rw [show errB true = 0 from rfl] at H0
        by_cases hl : L.length = 0
        · have HV : Hid (R = 130) := by show _ = _; rw [HE.out, decide_eq_false (show ¬ 0 < L.length by omega)]; simp
          obtain rfl : L = [] := List.length_eq_zero_iff.1 hl
          simp only [List.length_nil] at H0
          simp only [List.length_nil]
          clear hl HE
          go_enter Tryz.func46, Tryz.ntmps46
          go_wp2_with fail
          refine (H0.out _ ?_).mono ?_
          · exact (by repeat(first|exact Gr.r _|refine Gr.a ?_|refine Gr.d ?_|refine Gr.t ?_ (by assumption)))
          rintro e0 w1 ⟨rfl, hg0⟩
          have B1 := (Cs.new w [.int .i64 k, .int .i64 r, .int .i64 n, .slice ad 0 cap, .string d, .int .i64 y] 36 _ rfl).gr hg0
          have c0 := B1.at_ 0 _ rfl
          have c1 := B1.at_ 1 _ rfl
          have c2 := B1.at_ 2 _ rfl
          have c3 := B1.at_ 3 _ rfl
          have c4 := B1.at_ 4 _ rfl
          have c5 := B1.at_ 5 _ rfl
          have clt := B1.lt
          go_wp2
          go_ret
          exact ⟨by rw [HV.out]; rfl, (by repeat(first|exact Gr.r _|refine Gr.a ?_|refine Gr.d ?_|refine Gr.t ?_ (by assumption)))⟩
        · rw [decide_eq_true (show 0 < L.length by omega)] at HE
          have hl' : ((L.length : Int) == 0) = false := by rw [beq_eq_false_iff_ne]; omega
          clear hl
          simp only [Bool.true_and, Bool.and_self] at HE
          by_cases k1 : k = 1
          · subst k1
            rw [if_pos rfl] at HE
            simp only [if_neg (show ¬ ((1 : Int) = 6) by decide)] at HE
            generalize Act.nameB d = bn at *
            cases bn with
            | false =>
              have HV : Hid (R = 130) := by show _ = _; rw [HE.out]; simp
              clear HE
              go_enter Tryz.func46, Tryz.ntmps46
              go_wp2_with fail
              refine (H0.out _ ?_).mono ?_
              · exact (by repeat(first|exact Gr.r _|refine Gr.a ?_|refine Gr.d ?_|refine Gr.t ?_ (by assumption)))
              rintro e0 w1 ⟨rfl, hg0⟩
              have B1 := (Cs.new w [.int .i64 1, .int .i64 r, .int .i64 n, .slice ad L.length cap, .string d, .int .i64 y] 36 _ rfl).gr hg0
              have c0 := B1.at_ 0 _ rfl
              have c1 := B1.at_ 1 _ rfl
              have c2 := B1.at_ 2 _ rfl
              have c3 := B1.at_ 3 _ rfl
              have c4 := B1.at_ 4 _ rfl
              have c5 := B1.at_ 5 _ rfl
              have clt := B1.lt
              go_wp2_with fail
              refine (H1.out _).mono ?_
              rintro e1 w2 ⟨rfl, hg1⟩
              have B2 := B1.gr hg1
              have c0 := B2.at_ 0 _ rfl
              have c1 := B2.at_ 1 _ rfl
              have c2 := B2.at_ 2 _ rfl
              have c3 := B2.at_ 3 _ rfl
              have c4 := B2.at_ 4 _ rfl
              have c5 := B2.at_ 5 _ rfl
              have clt := B2.lt
              go_wp2
              go_ret
              exact ⟨by rw [HV.out]; rfl, (by repeat(first|exact Gr.r _|refine Gr.a ?_|refine Gr.d ?_|refine Gr.t ?_ (by assumption)))⟩
            | true =>
              by_cases hy : y = 0
              · subst hy
                have HV : Hid (R = 0) := by show _ = _; rw [HE.out]; simp
                clear HE
                go_enter Tryz.func46, Tryz.ntmps46
                go_wp2_with fail
                refine (H0.out _ ?_).mono ?_
                · exact (by repeat(first|exact Gr.r _|refine Gr.a ?_|refine Gr.d ?_|refine Gr.t ?_ (by assumption)))
                rintro e0 w1 ⟨rfl, hg0⟩
                have B1 := (Cs.new w [.int .i64 1, .int .i64 r, .int .i64 n, .slice ad L.length cap, .string d, .int .i64 0] 36 _ rfl).gr hg0
                have c0 := B1.at_ 0 _ rfl
                have c1 := B1.at_ 1 _ rfl
                have c2 := B1.at_ 2 _ rfl
                have c3 := B1.at_ 3 _ rfl
                have c4 := B1.at_ 4 _ rfl
                have c5 := B1.at_ 5 _ rfl
                have clt := B1.lt
                go_wp2_with fail
                refine (H1.out _).mono ?_
                rintro e1 w2 ⟨rfl, hg1⟩
                have B2 := B1.gr hg1
                have c0 := B2.at_ 0 _ rfl
                have c1 := B2.at_ 1 _ rfl
                have c2 := B2.at_ 2 _ rfl
                have c3 := B2.at_ 3 _ rfl
                have c4 := B2.at_ 4 _ rfl
                have c5 := B2.at_ 5 _ rfl
                have clt := B2.lt
                go_wp2
                go_ret
                exact ⟨by rw [HV.out]; rfl, (by repeat(first|exact Gr.r _|refine Gr.a ?_|refine Gr.d ?_|refine Gr.t ?_ (by assumption)))⟩
              · have HV : Hid (R = 130) := by show _ = _; rw [HE.out, decide_eq_false hy]; simp
                have hy' : (y != 0) = true := by simpa using hy
                clear HE
                go_enter Tryz.func46, Tryz.ntmps46
                go_wp2_with fail
                refine (H0.out _ ?_).mono ?_
                · exact (by repeat(first|exact Gr.r _|refine Gr.a ?_|refine Gr.d ?_|refine Gr.t ?_ (by assumption)))
                rintro e0 w1 ⟨rfl, hg0⟩
                have B1 := (Cs.new w [.int .i64 1, .int .i64 r, .int .i64 n, .slice ad L.length cap, .string d, .int .i64 y] 36 _ rfl).gr hg0
                have c0 := B1.at_ 0 _ rfl
                have c1 := B1.at_ 1 _ rfl
                have c2 := B1.at_ 2 _ rfl
                have c3 := B1.at_ 3 _ rfl
                have c4 := B1.at_ 4 _ rfl
                have c5 := B1.at_ 5 _ rfl
                have clt := B1.lt
                go_wp2_with fail
                refine (H1.out _).mono ?_
                rintro e1 w2 ⟨rfl, hg1⟩
                have B2 := B1.gr hg1
                have c0 := B2.at_ 0 _ rfl
                have c1 := B2.at_ 1 _ rfl
                have c2 := B2.at_ 2 _ rfl
                have c3 := B2.at_ 3 _ rfl
                have c4 := B2.at_ 4 _ rfl
                have c5 := B2.at_ 5 _ rfl
                have clt := B2.lt
                go_wp2
                go_ret
                exact ⟨by rw [HV.out]; rfl, (by repeat(first|exact Gr.r _|refine Gr.a ?_|refine Gr.d ?_|refine Gr.t ?_ (by assumption)))⟩
          · have k1' : (k == 1) = false := by simpa using k1
            have k1'' : (k != 1) = true := by simpa using k1
            rw [if_neg k1] at HE
            by_cases hd : d = ⟨#[]⟩
            · subst hd
              rw [decide_eq_true rfl, Bool.true_and] at HE
              by_cases k6 : k = 6
              · subst k6
                rw [if_pos rfl] at HE
                by_cases y1 : y < 1
                · have HV : Hid (R = 130) := by show _ = _; rw [HE.out, decide_eq_false (show ¬ 1 ≤ y by omega)]; simp
                  clear HE
                  go_enter Tryz.func46, Tryz.ntmps46
                  go_wp2_with fail
                  refine (H0.out _ ?_).mono ?_
                  · exact (by repeat(first|exact Gr.r _|refine Gr.a ?_|refine Gr.d ?_|refine Gr.t ?_ (by assumption)))
                  rintro e0 w1 ⟨rfl, hg0⟩
                  have B1 := (Cs.new w [.int .i64 6, .int .i64 r, .int .i64 n, .slice ad L.length cap, .string ⟨#[]⟩, .int .i64 y] 36 _ rfl).gr hg0
                  have c0 := B1.at_ 0 _ rfl
                  have c1 := B1.at_ 1 _ rfl
                  have c2 := B1.at_ 2 _ rfl
                  have c3 := B1.at_ 3 _ rfl
                  have c4 := B1.at_ 4 _ rfl
                  have c5 := B1.at_ 5 _ rfl
                  have clt := B1.lt
                  go_wp2
                  go_ret
                  exact ⟨by rw [HV.out]; rfl, (by repeat(first|exact Gr.r _|refine Gr.a ?_|refine Gr.d ?_|refine Gr.t ?_ (by assumption)))⟩
                · by_cases y9 : 9 < y
                  · have HV : Hid (R = 130) := by show _ = _; rw [HE.out, decide_eq_false (show ¬ y ≤ 9 by omega)]; simp
                    clear HE
                    go_enter Tryz.func46, Tryz.ntmps46
                    go_wp2_with fail
                    refine (H0.out _ ?_).mono ?_
                    · exact (by repeat(first|exact Gr.r _|refine Gr.a ?_|refine Gr.d ?_|refine Gr.t ?_ (by assumption)))
                    rintro e0 w1 ⟨rfl, hg0⟩
                    have B1 := (Cs.new w [.int .i64 6, .int .i64 r, .int .i64 n, .slice ad L.length cap, .string ⟨#[]⟩, .int .i64 y] 36 _ rfl).gr hg0
                    have c0 := B1.at_ 0 _ rfl
                    have c1 := B1.at_ 1 _ rfl
                    have c2 := B1.at_ 2 _ rfl
                    have c3 := B1.at_ 3 _ rfl
                    have c4 := B1.at_ 4 _ rfl
                    have c5 := B1.at_ 5 _ rfl
                    have clt := B1.lt
                    go_wp2
                    go_ret
                    exact ⟨by rw [HV.out]; rfl, (by repeat(first|exact Gr.r _|refine Gr.a ?_|refine Gr.d ?_|refine Gr.t ?_ (by assumption)))⟩
                  · have HV : Hid (R = 0) := by show _ = _; rw [HE.out, decide_eq_true (show 1 ≤ y by omega), decide_eq_true (show y ≤ 9 by omega)]; simp
                    clear HE
                    go_enter Tryz.func46, Tryz.ntmps46
                    go_wp2_with fail
                    refine (H0.out _ ?_).mono ?_
                    · exact (by repeat(first|exact Gr.r _|refine Gr.a ?_|refine Gr.d ?_|refine Gr.t ?_ (by assumption)))
                    rintro e0 w1 ⟨rfl, hg0⟩
                    have B1 := (Cs.new w [.int .i64 6, .int .i64 r, .int .i64 n, .slice ad L.length cap, .string ⟨#[]⟩, .int .i64 y] 36 _ rfl).gr hg0
                    have c0 := B1.at_ 0 _ rfl
                    have c1 := B1.at_ 1 _ rfl
                    have c2 := B1.at_ 2 _ rfl
                    have c3 := B1.at_ 3 _ rfl
                    have c4 := B1.at_ 4 _ rfl
                    have c5 := B1.at_ 5 _ rfl
                    have clt := B1.lt
                    go_wp2
                    go_ret
                    exact ⟨by rw [HV.out]; rfl, (by repeat(first|exact Gr.r _|refine Gr.a ?_|refine Gr.d ?_|refine Gr.t ?_ (by assumption)))⟩
              · rw [if_neg k6] at HE
                have k6' : (k == 6) = false := by simpa using k6
                have k6'' : (k != 6) = true := by simpa using k6
                by_cases hy : y = 0
                · subst hy
                  have HV : Hid (R = 0) := by show _ = _; rw [HE.out]; simp
                  clear HE
                  go_enter Tryz.func46, Tryz.ntmps46
                  go_wp2_with fail
                  refine (H0.out _ ?_).mono ?_
                  · exact (by repeat(first|exact Gr.r _|refine Gr.a ?_|refine Gr.d ?_|refine Gr.t ?_ (by assumption)))
                  rintro e0 w1 ⟨rfl, hg0⟩
                  have B1 := (Cs.new w [.int .i64 k, .int .i64 r, .int .i64 n, .slice ad L.length cap, .string ⟨#[]⟩, .int .i64 0] 36 _ rfl).gr hg0
                  have c0 := B1.at_ 0 _ rfl
                  have c1 := B1.at_ 1 _ rfl
                  have c2 := B1.at_ 2 _ rfl
                  have c3 := B1.at_ 3 _ rfl
                  have c4 := B1.at_ 4 _ rfl
                  have c5 := B1.at_ 5 _ rfl
                  have clt := B1.lt
                  go_wp2
                  go_ret
                  exact ⟨by rw [HV.out]; rfl, (by repeat(first|exact Gr.r _|refine Gr.a ?_|refine Gr.d ?_|refine Gr.t ?_ (by assumption)))⟩
                · have HV : Hid (R = 130) := by show _ = _; rw [HE.out, decide_eq_false hy]; simp
                  have hy' : (y != 0) = true := by simpa using hy
                  clear HE
                  go_enter Tryz.func46, Tryz.ntmps46
                  go_wp2_with fail
                  refine (H0.out _ ?_).mono ?_
                  · exact (by repeat(first|exact Gr.r _|refine Gr.a ?_|refine Gr.d ?_|refine Gr.t ?_ (by assumption)))
                  rintro e0 w1 ⟨rfl, hg0⟩
                  have B1 := (Cs.new w [.int .i64 k, .int .i64 r, .int .i64 n, .slice ad L.length cap, .string ⟨#[]⟩, .int .i64 y] 36 _ rfl).gr hg0
                  have c0 := B1.at_ 0 _ rfl
                  have c1 := B1.at_ 1 _ rfl
                  have c2 := B1.at_ 2 _ rfl
                  have c3 := B1.at_ 3 _ rfl
                  have c4 := B1.at_ 4 _ rfl
                  have c5 := B1.at_ 5 _ rfl
                  have clt := B1.lt
                  go_wp2
                  go_ret
                  exact ⟨by rw [HV.out]; rfl, (by repeat(first|exact Gr.r _|refine Gr.a ?_|refine Gr.d ?_|refine Gr.t ?_ (by assumption)))⟩
            · have HV : Hid (R = 130) := by show _ = _; rw [HE.out, decide_eq_false hd]; simp
              have hd' : d.toList.isEmpty = false := by rw [eqE, decide_eq_false hd]
              clear HE
              go_enter Tryz.func46, Tryz.ntmps46
              go_wp2_with fail
              refine (H0.out _ ?_).mono ?_
              · exact (by repeat(first|exact Gr.r _|refine Gr.a ?_|refine Gr.d ?_|refine Gr.t ?_ (by assumption)))
              rintro e0 w1 ⟨rfl, hg0⟩
              have B1 := (Cs.new w [.int .i64 k, .int .i64 r, .int .i64 n, .slice ad L.length cap, .string d, .int .i64 y] 36 _ rfl).gr hg0
              have c0 := B1.at_ 0 _ rfl
              have c1 := B1.at_ 1 _ rfl
              have c2 := B1.at_ 2 _ rfl
              have c3 := B1.at_ 3 _ rfl
              have c4 := B1.at_ 4 _ rfl
              have c5 := B1.at_ 5 _ rfl
              have clt := B1.lt
              go_wp2
              go_ret
              exact ⟨by rw [HV.out]; rfl, (by repeat(first|exact Gr.r _|refine Gr.a ?_|refine Gr.d ?_|refine Gr.t ?_ (by assumption)))⟩

theorem path_last (r : Int) (L : List (Int × Int)) (h0 : 0 < L.length) : (Idn.path r L)[L.length]? = some ((Idn.path r L).getLastD (-1)) ∧ (Idn.path r L)[L.length - 1]? = some ((Idn.path r L.dropLast).getLastD (-1)) := by
  have hne : L ≠ [] := List.length_pos_iff.1 h0
  obtain ⟨⟨s, o⟩, hlast⟩ : ∃ x, L.getLast hne = x := ⟨_, rfl⟩
  have e : L = L.dropLast ++ [(s, o)] := by rw [← hlast]; exact (List.dropLast_concat_getLast hne).symm
  generalize L.dropLast = M at *
  subst e
  rw [Idn.path_snoc]
  have hp : (Idn.path r M).length = M.length + 1 := path_len r M
  constructor
  · rw [List.length_append, List.length_singleton, List.getElem?_append_right (by omega), hp]
    simp
  · rw [List.length_append, List.length_singleton, Nat.add_sub_cancel, List.getElem?_append_left (by omega)]
    rw [List.getLastD_eq_getLast?, List.getLast?_eq_getElem?, hp, Nat.add_sub_cancel, List.getElem?_eq_getElem (by omega)]
    rfl

set_option maxHeartbeats 4000000 in
set_option maxRecDepth 100000 in
theorem refNEnds_any (k r n : Int) (L : List (Int × Int)) (d : ByteArray) (y : Int) (ad : Option Addr) (cap : Nat) (w : World) (hL : HopsAt w ad L) (hn : L.length ≤ 9223372036854775807) (hd : d.size ≤ 9223372036854775807) :
    Calls Tryz.prog 26 #[.agg #[.int .i64 k, .int .i64 r, .int .i64 n, .slice ad L.length cap, .string d, .int .i64 y]] w fun e w' => e = .returned (.tuple #[.int .i64 (Nt.ends1 (⟨k, r, n, L, d, y⟩ : Nt)), .int .i64 (Nt.ends2 (⟨k, r, n, L, d, y⟩ : Nt))]) ∧ Gr w w' := by
  have HC : Hid (∀ w', Gr w w' → Calls Tryz.prog 46 #[.agg #[.int .i64 k, .int .i64 r, .int .i64 n, .slice ad L.length cap, .string d, .int .i64 y]] w' fun e w2 => e = .returned (.int .i64 (Nt.ckE (⟨k, r, n, L, d, y⟩ : Nt))) ∧ Gr w' w2) := fun w' g => refNCheck_any k r n L d y ad cap w' (hL.gr g) hn hd
  have HP : Hid (∀ w', Gr w w' → Calls Tryz.prog 47 #[.agg #[.int .i64 r, .int .i64 n, .slice ad L.length cap]] w' fun e w2 => ∃ ad2 cap2, e = .returned (.slice ad2 (pathE r n L).length cap2) ∧ (pathE r n L).length ≤ cap2 ∧ IntsAt w2 ad2 (pathE r n L) ∧ Gr w' w2) := fun w' g => refPath_any r n L ad cap w' (hL.gr g) hn
  have HE1 : Hid (Nt.ends1 (⟨k, r, n, L, d, y⟩ : Nt) = if Nt.ntB (⟨k, r, n, L, d, y⟩ : Nt) = true then (if k ≤ 4 then Nt.upO (⟨k, r, n, L, d, y⟩ : Nt) else Nt.dnO (⟨k, r, n, L, d, y⟩ : Nt)) else -1) := rfl
  have HE2 : Hid (Nt.ends2 (⟨k, r, n, L, d, y⟩ : Nt) = if Nt.ntB (⟨k, r, n, L, d, y⟩ : Nt) = true then (if k ≤ 4 then Nt.dnO (⟨k, r, n, L, d, y⟩ : Nt) else Nt.upO (⟨k, r, n, L, d, y⟩ : Nt)) else -1) := rfl
  generalize Nt.ends1 (⟨k, r, n, L, d, y⟩ : Nt) = E1 at *
  generalize Nt.ends2 (⟨k, r, n, L, d, y⟩ : Nt) = E2 at *
  unfold Nt.ckE at HC
  by_cases hm : Nt.ntB (⟨k, r, n, L, d, y⟩ : Nt) = true
  · rw [if_pos hm] at HC HE1 HE2
    obtain ⟨hk, hi, h0, _, _⟩ := Nt.may_note hm
    simp only at hk hi h0
    have hpe : pathE r n L = Idn.path r L := by unfold pathE; rw [if_pos hi]
    have hpl := path_len r L
    obtain ⟨p1, p2⟩ := path_last r L h0
    have h4 := may_len hi
    rw [hpe, hpl] at HP
    have hUV : Hid ((Idn.path r L)[L.length]? = some (Nt.dnO (⟨k, r, n, L, d, y⟩ : Nt)) ∧ (Idn.path r L)[L.length - 1]? = some (Nt.upO (⟨k, r, n, L, d, y⟩ : Nt))) := ⟨p1, p2⟩
    generalize Nt.upO (⟨k, r, n, L, d, y⟩ : Nt) = U at *
    generalize Nt.dnO (⟨k, r, n, L, d, y⟩ : Nt) = V at *
    generalize Idn.path r L = pl at *
    obtain ⟨m, hm⟩ : ∃ m, L.length = m + 1 := ⟨L.length - 1, by omega⟩
    rw [hm] at HP HC hUV
    rw [hm] at hpl h4
    rw [hm]
    have hs2 : (((m + 1 + 1 : Nat) : Int)) - 2 = (m : Int) := by omega
    have hs1 : (((m + 1 + 1 : Nat) : Int)) - 1 = ((m + 1 : Nat) : Int) := by omega
    clear hL hn hd hi h0 hpe p1 p2
    go_enter Tryz.func26, Tryz.ntmps26
    go_wp2_with fail
    refine (HC.out _ (by repeat(first|exact Gr.r _|refine Gr.a ?_|refine Gr.d ?_|refine Gr.t ?_ (by assumption)))).mono ?_
    rintro e1 w1 ⟨rfl, hg1⟩
    have B1 := (Cs.new w [.int .i64 k, .int .i64 r, .int .i64 n, .slice ad (m + 1) cap, .string d, .int .i64 y] 36 _ rfl).gr hg1
    have c0 := B1.at_ 0 _ rfl
    have c1 := B1.at_ 1 _ rfl
    have c2 := B1.at_ 2 _ rfl
    have c3 := B1.at_ 3 _ rfl
    have clt := B1.lt
    go_wp2_with fail
    refine (HP.out _ ?_).mono ?_
    · exact (by repeat(first|exact Gr.r _|refine Gr.a ?_|refine Gr.d ?_|refine Gr.t ?_ (by assumption)))
    rintro e2 w2 ⟨ad2, cap2, rfl, hcp, hia, hg2⟩
    have B2 := B1.gr hg2
    obtain ⟨q1, q2⟩ := hUV.out
    rw [Nat.add_sub_cancel] at q2
    obtain ⟨l1, v1⟩ := List.getElem?_eq_some_iff.1 q1
    obtain ⟨l2, v2⟩ := List.getElem?_eq_some_iff.1 q2
    obtain ⟨b, off, rfl, hbl, k1⟩ := hia (m + 1) l1
    obtain ⟨b', off', e, _, k2⟩ := hia m l2
    cases e
    rw [v1] at k1
    rw [v2] at k2
    have hgw : Gr w w2 := (by repeat(first|exact Gr.r _|refine Gr.a ?_|refine Gr.d ?_|refine Gr.t ?_ (by assumption)))
    clear c0 c1 c2 c3 clt hg1 hg2 hia B1 q1 q2 l1 l2 v1 v2 hUV
    have c0 := B2.at_ 0 _ rfl
    have clt := B2.lt
    have i1 : ((m : Int) + 1 + 1) - 2 = (m : Int) := by omega
    have i2 : ((m : Int) + 1 + 1) - 1 = (m : Int) + 1 := by omega
    have j1 : IntKind.i64.wrap ((m : Int) + 1 + 1 - 2) = (m : Int) := by rw [IntKind.wrap_i64]; omega
    have j2 : IntKind.i64.wrap ((m : Int) + 1 + 1 - 1) = (m : Int) + 1 := by rw [IntKind.wrap_i64]; omega
    have o1 : (m : Int) < (m : Int) + 1 + 1 := by omega
    have o2 : (m : Int) + 1 < (m : Int) + 1 + 1 := by omega
    go_wp2
    go_quiet (fail)
    all_goals
      by_cases hk4 : k ≤ 4
      · have hk5 : ¬ (5 ≤ k) := by omega
        rw [if_pos hk4] at HE1 HE2
        go_wp2
        go_ret2
        exact ⟨by rw [HE1.out, HE2.out]; rfl, hgw.trans ⟨below_drewN (Below.refl _ _) _⟩⟩
      · have hk5 : 5 ≤ k := by omega
        rw [if_neg hk4] at HE1 HE2
        go_wp2
        go_ret2
        exact ⟨by rw [HE1.out, HE2.out]; rfl, hgw.trans ⟨below_drewN (Below.refl _ _) _⟩⟩
  · rw [if_neg hm] at HC HE1 HE2
    clear hL hm
    go_enter Tryz.func26, Tryz.ntmps26
    go_wp2_with fail
    refine (HC.out _ (by repeat(first|exact Gr.r _|refine Gr.a ?_|refine Gr.d ?_|refine Gr.t ?_ (by assumption)))).mono ?_
    rintro e1 w1 ⟨rfl, hg1⟩
    go_wp2
    go_ret2
    exact ⟨by rw [HE1.out, HE2.out]; rfl, (by repeat(first|exact Gr.r _|refine Gr.a ?_|refine Gr.d ?_|refine Gr.t ?_ (by assumption)))⟩
end Go.Proofs.YthfbpilfdfploaaGreat
namespace Go.Proofs.YthfbpilfdfploaaGreat
open Go.RowKit
open Wn (Wd)

theorem infoN : (Tryz.prog.info? 3).map (fun i => (i.zero, i.size, i.bytes)) = some (some (.int .i64 0), 1, 8) := by kernel_rfl
theorem row_keep {w w' : World} {base : Nat} {e : TypeId} {size n : Nat} {v : Value} {xs : List Value} (h : w.ownsRow base e size v n xs) (hb : ∀ g, v.ownBlock = some g → w'.heap[g]? = w.heap[g]?) : w'.ownsRow base e size v n xs := by
  obtain ⟨h1, ⟨rfl, h2⟩ | ⟨g, cap, cur, rfl, h3, h4, h5⟩⟩ := h
  · exact ⟨h1, Or.inl ⟨rfl, h2⟩⟩
  · exact ⟨h1, Or.inr ⟨g, cap, cur, rfl, h3, (hb g rfl).trans h4, h5⟩⟩
theorem row_gr {w w' : World} {base : Nat} {e : TypeId} {size n : Nat} {v : Value} {xs : List Value} (h : w.ownsRow base e size v n xs) (g : Gr w w') : w'.ownsRow base e size v n xs :=
  row_keep h (fun j hj => g.below.block j (h.lt j hj).2)
theorem IntsAt.news {w : World} {a : Addr} {l : List Int} (h : IntsAt w (some a) l) : ∀ j u, (intV l)[j]? = some u → w.cell? (a.add j) = some u := by
  intro j u hu
  have hj : j < l.length := by
    rcases Nat.lt_or_ge j l.length with h | h
    · exact h
    · rw [List.getElem?_eq_none (by simpa [intV] using h)] at hu; cases hu
  obtain ⟨b, off, e, _, hc⟩ := h j hj
  cases e
  rw [Addr.add_lit, hc]
  have : (intV l)[j]? = some (.int .i64 l[j]) := by simp [intV, hj]
  rw [← this, hu]
theorem intV_len (l : List Int) : (intV l).length = l.length := by simp [intV]
theorem intV_one (l : List Int) : ∀ u ∈ intV l, u.oneCell' = true := by
  intro u hu
  simp only [intV, List.mem_map] at hu
  obtain ⟨n, _, rfl⟩ := hu
  rfl
theorem IntsAt.none {w : World} {l : List Int} (h : IntsAt w none l) : l = [] := by
  cases l with
  | nil => rfl
  | cons x r => obtain ⟨b, off, e, _⟩ := h 0 (by simp); cases e
/- a row that the call owns, as a row in memory -/
theorem own_intsN {base : Nat} {v : Value} {l : List Int} {w : World} (h : w.ownsRow base 3 1 v l.length (intV l)) : ∃ ad cap, v = .slice ad l.length cap ∧ l.length ≤ cap ∧ IntsAt w ad l ∧ (ad = none → cap = 0) ∧ (∀ a, ad = some a → base ≤ a.block ∧ a.block < w.heap.size) := by
  have hcell := fun g (hg : v.ownBlock = some g) => h.cells hg
  have hlt := h.lt
  obtain ⟨_, ⟨rfl, h0⟩ | ⟨g, cap, cur, rfl, hx⟩⟩ := h
  · have : l = [] := List.length_eq_zero_iff.1 h0
    subst this
    exact ⟨none, 0, rfl, by simp, fun j hj => absurd hj (by simp), fun _ => rfl, fun a e => by cases e⟩
  · refine ⟨some ⟨g, 0, none⟩, cap, rfl, hx.2.2.1, ?_, (fun e => by cases e), fun a e => by cases e; exact hlt g rfl⟩
    intro j hj
    refine ⟨g, 0, rfl, (hlt g rfl).2, ?_⟩
    have := hcell g rfl j (.int .i64 l[j]) (by simp [intV, hj])
    rw [Addr.add_lit] at this
    simpa using this
set_option maxHeartbeats 4000000 in
set_option maxRecDepth 100000 in
theorem copy_any (l : List Int) (ad : Option Addr) (cap : Nat) (w : World) (hL : IntsAt w ad l) (hn : l.length ≤ 1000) (hc : ad = none → cap = 0) :
    Calls Tryz.prog 79 #[.slice ad l.length cap] w fun e w' => ∃ v, e = .returned v ∧ w'.ownsRow w.heap.size 3 1 v l.length (intV l) ∧ Gr w w' := by
  obtain ⟨i0, hi0, hz0, hz1, hz2⟩ := info_parts infoN
  cases ad with
  | none =>
    obtain rfl := hL.none
    obtain rfl := hc rfl
    have hown := World.ownsRow_nil w w.heap.size 3 1
    rw [List.length_nil]
    go_enter Tryz.func79, Tryz.ntmps79
    go_wp2_with (first
      | (at_builtin; refine wpList_append_own_none rfl _ _ 54 rfl w.heap.size 3 i0 1 Tryz.underlying54 hi0 _ _ _ rfl hown rfl ?_)
      | fail)
    go_ret
    exact ⟨_, rfl, hown, (by repeat(first|exact Gr.r _|refine Gr.a ?_|refine Gr.d ?_|refine Gr.t ?_ (by assumption)))⟩
  | some a =>
    have HN := Lib.hid hL.news
    have hln := intV_len l
    have hm1 : 0 + l.length ≤ maxLen := by unfold maxLen; omega
    clear hL hc
    go_enter Tryz.func79, Tryz.ntmps79
    go_wp2_with (first
      | (at_builtin; refine wpList_append_own _ rfl _ _ 54 rfl w.heap.size 3 i0 (.int .i64 0) 1 8 Tryz.underlying54 hi0 hz0 hz1 hz2 rfl (by decide) _ _ _ rfl (World.ownsRow_nil _ _ _ _) a l.length cap (intV l) rfl (by omega) HN.out (intV_one l) hm1 (by omega) (by simp) ?_)
      | fail)
    intro v' w1 hown' hgrow _
    have HI : Hid (w1.ownsRow w.heap.size 3 1 v' l.length (intV l)) := by
      show World.ownsRow _ _ _ _ _ _ _
      simpa using hown'
    have HG : Hid (Gr w w1) := (Gr.refl w).grown hgrow (fun k hk => by simp [Value.ownBlock] at hk)
    clear hown' hgrow
    go_wp2
    go_ret
    exact ⟨v', rfl, HI.out, HG.out⟩
theorem search_any (l : List Int) (ad : Option Addr) (cap : Nat) (x : Int) (w : World) (hL : IntsAt w ad l) (hn : l.length ≤ 1000) (hu : Wn.Up l) :
    Calls Tryz.prog 80 #[.slice ad l.length cap, .int .i64 x] w fun e w' => e = .returned (.tuple #[.int .i64 (Wn.pos x l : Nat), .bool (decide (x ∈ l))]) ∧ Gr w w' := by
  cases l with
  | nil =>
    refine (Tryz.slices_BinarySearch_int_empty ad cap x w).mono ?_
    rintro e w' ⟨rfl, rfl⟩
    exact ⟨by simp [Wn.pos], Gr.refl _⟩
  | cons y r =>
    obtain ⟨b, off, rfl, _, _⟩ := hL 0 (by simp)
    refine (Tryz.slices_BinarySearch_int b off (y :: r).length cap (y :: r) x w (Nat.le_refl _) (by omega) (fun j hj => ?_) ?_).mono ?_
    · obtain ⟨b', off', e, _, hc⟩ := hL j hj
      cases e
      rw [hc, List.getD_eq_getElem?_getD, List.getElem?_eq_getElem hj]; rfl
    · rw [List.take_length]
      exact hu.imp (fun h => by omega)
    · rintro e w' ⟨rfl, q, rfl⟩
      rw [List.take_length]
      refine ⟨?_, (Gr.refl w).dn q⟩
      rw [List.contains_eq_mem]
      rfl
/- the row with a number laid in -/
def put (l : List Int) (i : Nat) (x : Int) : List Int := l.take i ++ x :: l.drop i
theorem put_len (l : List Int) (i : Nat) (x : Int) (hi : i ≤ l.length) : (put l i x).length = l.length + 1 := by
  unfold put; rw [List.length_append, List.length_cons, List.length_take, List.length_drop]; omega
theorem put_at (l : List Int) (i : Nat) (x : Int) (hi : i ≤ l.length) (j : Nat) (hj : j < (put l i x).length) :
    (j < i → ∃ h : j < l.length, (put l i x)[j] = l[j]) ∧ (j = i → (put l i x)[j] = x) ∧ (i < j → ∃ h : j - 1 < l.length, (put l i x)[j] = l[j - 1]) := by
  have hl : (l.take i).length = i := by rw [List.length_take]; omega
  have hjl := hj
  rw [put_len l i x hi] at hjl
  unfold put at *
  refine ⟨fun c => ⟨by omega, ?_⟩, fun c => ?_, fun c => ⟨by omega, ?_⟩⟩
  · rw [List.getElem_append_left (by omega), List.getElem_take]
  · subst c
    rw [List.getElem_append_right (by omega)]
    simp [hl]
  · rw [List.getElem_append_right (by omega)]
    simp only [hl]
    obtain ⟨k, hk⟩ : ∃ k, j - i = k + 1 := ⟨j - i - 1, by omega⟩
    simp only [hk, List.getElem_cons_succ, List.getElem_drop]
    congr 1
    omega
theorem Below.cellsW {B : Nat} (b : Nat) (hb : B ≤ b) : ∀ (vs : List Value) (o : Nat) {a w : World}, Below B a w → Below B a (w.setCells b o vs)
  | [], _, _, _, h => h
  | v :: r, o, _, _, h => Below.cellsW b hb r (o + 1) (h.setCell (p := ⟨b, o, none⟩) hb v)
theorem size_setCells (b : Nat) : ∀ (vs : List Value) (o : Nat) (w : World), (w.setCells b o vs).heap.size = w.heap.size
  | [], _, _ => rfl
  | v :: r, o, w => by rw [World.setCells, size_setCells b r]; simp
theorem cell_blk {w : World} {g : Nat} {cur : Array Value} {t : TypeId} {z : Nat × Nat} (h : w.heap[g]? = some (.cells cur t z)) (j : Nat) : w.cell? ⟨g, j, none⟩ = cur[j]? := by simp [World.cell?, h]
/- what slices.Insert leaves -/
def InR (base : Nat) (w w' : World) (e : Ending) (L : List Int) : Prop := ∃ g cap, e = .returned (.slice (some ⟨g, 0, none⟩) L.length cap) ∧ IntsAt w' (some ⟨g, 0, none⟩) L ∧ L.length ≤ cap ∧ base ≤ g ∧ g < w'.heap.size ∧ Below base w w'
theorem size_new (w : World) (o : Obj) : (w.drew.alloc o).heap.size = w.heap.size + 1 := by simp
theorem ints_new (w : World) (C : Array Value) (t : TypeId) (L : List Int) (h : ∀ j (hj : j < L.length), C[j]? = some (.int .i64 L[j])) : IntsAt (w.drew.alloc (.cells C t)) (some ⟨w.heap.size, 0, none⟩) L := by
  intro j hj
  refine ⟨_, _, rfl, by rw [size_new]; omega, ?_⟩
  rw [Nat.zero_add, World.cell?_alloc_at (w := w.drew) _ _ w.heap.size _ rfl]
  exact h j hj
theorem intV_at (l : List Int) (j : Nat) (hj : j < l.length) : (intV l)[j]? = some (.int .i64 l[j]) := by simp [intV, hj]
/- a row's cells, and that they are there -/
theorem own_cells {w : World} {g : Nat} {cur : Array Value} {t : TypeId} {z : Nat × Nat} {l : List Int} (h4 : w.heap[g]? = some (.cells cur t z)) (h8 : cur.toList.take (l.length * 1) = intV l) (j : Nat) (hj : j < l.length) : w.cell? ⟨g, j, none⟩ = some (.int .i64 l[j]) := by
  have h := congrArg (·[j]?) h8
  simp only [Nat.mul_one, List.getElem?_take_of_lt hj, intV_at l j hj] at h
  rw [cell_blk h4]
  simpa using h
theorem own_some {w : World} {g : Nat} {cur : Array Value} {t : TypeId} {z : Nat × Nat} (h4 : w.heap[g]? = some (.cells cur t z)) (j : Nat) (hj : j < cur.size) : (w.cell? ⟨g, j, none⟩).isSome = true := by
  rw [cell_blk h4, Array.getElem?_eq_getElem hj]; rfl
theorem own_free {w : World} {g : Nat} {cur : Array Value} {t : TypeId} (h4 : w.heap[g]? = some (.cells cur t (0, 0))) (j : Nat) : w.frozen? ⟨g, j, none⟩ = false := by simp [World.frozen?, h4]
/- one value, written at the end -/
theorem put_end (l : List Int) (x : Int) : put l l.length x = l ++ [x] := by simp [put]
theorem ins_room (base : Nat) (l : List Int) (g cap : Nat) (cur : Array Value) (t0 : TypeId) (x : Int) (vb : Nat) (w : World) (h3 : base ≤ g) (h4 : w.heap[g]? = some (.cells cur t0 (0, 0))) (hg : g < w.heap.size) (h6 : cap ≤ 9223372036854775807) (h7 : cur.size = cap) (h8 : cur.toList.take (l.length * 1) = intV l) (hr : l.length + 1 ≤ cap)
    (hvs : ∀ j u, [Value.int .i64 x][j]? = some u → w.cell? ⟨vb, 0 + j, none⟩ = some u) (h1v : ∀ u ∈ [Value.int .i64 x], u.oneCell' = true) :
    Calls Tryz.prog 82 #[.slice (some ⟨g, 0, none⟩) l.length cap, .int .i64 (l.length : Int), .slice (some ⟨vb, 0, none⟩) 1 1] w fun e w' => InR base w w' e (put l l.length x) := by
  have hin : ∀ j, j < [Value.int .i64 x].length → (w.cell? ⟨g, 0 + l.length + j, none⟩).isSome = true := fun j hj => own_some h4 _ (by simp at hj; omega)
  refine (Any2.slices_Insert_int_end_room Tryz.laysIns g 0 l.length cap vb 0 1 1 [.int .i64 x] w (by omega) hr h6 rfl (fun j hj => hin j (by simpa using hj)) (fun j _ => own_free h4 _) hvs h1v).mono ?_
  rintro e w' ⟨rfl, rfl⟩
  refine ⟨g, cap, by rw [put_len l _ x (Nat.le_refl _)], ?_, by rw [put_len l _ x (Nat.le_refl _)]; exact hr, h3, by rw [size_setCells]; exact hg, Below.cellsW g h3 _ _ (Below.refl _ _)⟩
  intro j hj
  refine ⟨g, 0, rfl, by rw [size_setCells]; exact hg, ?_⟩
  obtain ⟨p1, p2, _⟩ := put_at l l.length x (Nat.le_refl _) j hj
  rw [put_len l _ x (Nat.le_refl _)] at hj
  by_cases c : j < l.length
  · obtain ⟨_, e⟩ := p1 c
    rw [World.cell?_setCells_out _ _ _ _ _ (fun _ _ => Or.inl (by show 0 + j < 0 + l.length; omega)), e, Nat.zero_add]
    exact own_cells h4 h8 j c
  · have hjl : j = l.length := by omega
    rw [p2 hjl]
    have := World.cell?_setCells_in g [Value.int .i64 x] (0 + l.length) w hin 0 (by simp)
    rw [hjl]
    simpa using this
theorem ins_shift (base : Nat) (l : List Int) (g cap : Nat) (cur : Array Value) (t0 : TypeId) (i : Nat) (x : Int) (vb : Nat) (t : TypeId) (w : World) (h3 : base ≤ g) (h4 : w.heap[g]? = some (.cells cur t0 (0, 0))) (hg : g < w.heap.size) (h6 : cap ≤ 9223372036854775807) (h7 : cur.size = cap) (h8 : cur.toList.take (l.length * 1) = intV l) (hr : l.length + 1 ≤ cap) (hi : i < l.length)
    (hv : w.heap[vb]? = some (.cells #[.int .i64 x] t (0, 0))) (hne : vb ≠ g) (hvs : ∀ j u, [Value.int .i64 x][j]? = some u → w.cell? ⟨vb, 0 + j, none⟩ = some u) (h1v : ∀ u ∈ [Value.int .i64 x], u.oneCell' = true) :
    Calls Tryz.prog 82 #[.slice (some ⟨g, 0, none⟩) l.length cap, .int .i64 (i : Int), .slice (some ⟨vb, 0, none⟩) 1 1] w fun e w' => InR base w w' e (put l i x) := by
  have hsp : ∀ j, j < l.length + 1 → (w.cell? ⟨g, 0 + j, none⟩).isSome = true := fun j hj => own_some h4 _ (by omega)
  refine (Any2.slices_Insert_int_shift Tryz.laysIns g 0 l.length cap i vb 0 1 1 (intV l) [.int .i64 x] w hi (by omega) hr h6 hne (intV_len l) rfl
    (fun j v hj => ?_) hsp (fun j _ => own_free h4 _) hvs (intV_one l) h1v t t0 1 cap (by simp [World.shape?, hv]) (by simp [World.shape?, h4, h7]) (by omega) (own_free hv _) (own_free hv _)).mono ?_
  · have hjl : j < l.length := by
      rcases Nat.lt_or_ge j l.length with h | h
      · exact h
      · rw [List.getElem?_eq_none (by rw [intV_len]; exact h)] at hj; cases hj
    rw [intV_at l j hjl] at hj
    rw [Nat.zero_add, own_cells h4 h8 j hjl, hj]
  rintro e w' ⟨rfl, rfl⟩
  have hdl : ((intV l).drop i).length = l.length - i := by rw [List.length_drop, intV_len]
  have hin1 : ∀ j, j < ((intV l).drop i).length → (w.drew.cell? ⟨g, 0 + (i + 1) + j, none⟩).isSome = true := fun j hj => by
    rw [hdl] at hj
    have := hsp (i + 1 + j) (by omega)
    rw [← Nat.add_assoc] at this
    exact this
  have hin2 : ∀ j, j < [Value.int .i64 x].length → ((w.drew.setCells g (0 + (i + 1)) ((intV l).drop i)).cell? ⟨g, 0 + i + j, none⟩).isSome = true := fun j hj => by
    simp only [List.length_singleton] at hj
    rw [World.cell?_setCells_out _ _ _ _ _ (fun _ _ => Or.inl (by show 0 + i + j < 0 + (i + 1); omega))]
    have := hsp (i + j) (by omega)
    rw [← Nat.add_assoc] at this
    exact this
  refine ⟨g, cap, by rw [put_len l i x (by omega)], ?_, by rw [put_len l i x (by omega)]; exact hr, h3, by rw [size_setCells, size_setCells]; exact hg, Below.cellsW g h3 _ _ (Below.cellsW g h3 _ _ (Below.refl _ _).drew)⟩
  intro j hj
  refine ⟨g, 0, rfl, by rw [size_setCells, size_setCells]; exact hg, ?_⟩
  obtain ⟨p1, p2, p3⟩ := put_at l i x (by omega) j hj
  rw [put_len l i x (by omega)] at hj
  rcases Nat.lt_trichotomy j i with c | c | c
  · obtain ⟨hjl, e⟩ := p1 c
    rw [World.cell?_setCells_out _ _ _ _ _ (fun _ _ => Or.inl (by show 0 + j < 0 + i; omega)), World.cell?_setCells_out _ _ _ _ _ (fun _ _ => Or.inl (by show 0 + j < 0 + (i + 1); omega)), e, Nat.zero_add]
    exact own_cells h4 h8 j hjl
  · have := World.cell?_setCells_in g [Value.int .i64 x] (0 + i) _ hin2 0 (by simp)
    rw [p2 c, c]
    simpa using this
  · have P3 := Lib.hid (p3 c)
    clear p1 p2 p3
    obtain ⟨k, rfl⟩ : ∃ k, j = i + 1 + k := ⟨j - (i + 1), by omega⟩
    have hk : k < ((intV l).drop i).length := by rw [hdl]; omega
    have hk2 : i + k < l.length := by omega
    have hk3 : i + 1 + k - 1 = i + k := by omega
    have := World.cell?_setCells_in g ((intV l).drop i) (0 + (i + 1)) _ hin1 k hk
    rw [World.cell?_setCells_out _ _ _ _ _ (fun _ _ => Or.inr (by show 0 + i + 1 ≤ 0 + (i + 1 + k); omega)), show 0 + (i + 1 + k) = 0 + (i + 1) + k by omega, this, List.getElem_drop]
    have e2 := intV_at l (i + k) hk2
    rw [List.getElem?_eq_getElem (by rw [intV_len]; exact hk2)] at e2
    obtain ⟨hjl, e⟩ := P3.out
    rw [e]
    simp only [hk3]
    exact e2
theorem ins_endgrow (base : Nat) (l : List Int) (ad : Option Addr) (cap : Nat) (x : Int) (vb : Nat) (w : World) (hb : base ≤ w.heap.size) (hn : l.length ≤ 1000) (hnc : l.length ≤ cap) (hr : cap < l.length + 1) (hL : IntsAt w ad l)
    (hvs : ∀ j u, [Value.int .i64 x][j]? = some u → w.cell? ⟨vb, 0 + j, none⟩ = some u) (h1v : ∀ u ∈ [Value.int .i64 x], u.oneCell' = true) :
    Calls Tryz.prog 82 #[.slice ad l.length cap, .int .i64 (l.length : Int), .slice (some ⟨vb, 0, none⟩) 1 1] w fun e w' => InR base w w' e (put l l.length x) := by
  refine (Any2.slices_Insert_int_end_grow Tryz.laysIns ad l.length cap vb 0 1 1 (intV l) [.int .i64 x] w (by omega) hnc hr (by omega) (intV_len l) rfl (fun e => by subst e; rw [hL.none]; rfl) (fun a e => by subst e; exact hL.news) hvs h1v).mono ?_
  rintro e w' ⟨rfl, rfl⟩
  refine ⟨w.heap.size, _, by rw [put_len l _ x (Nat.le_refl _)], ?_, by rw [put_len l _ x (Nat.le_refl _)]; exact grownCap_ge w _ _ _, hb, by rw [size_new]; omega, (Below.refl base w).drew.alloc hb _⟩
  refine ints_new w _ _ _ (fun j hj => ?_)
  have hjl := hj
  rw [put_len l _ x (Nat.le_refl _)] at hjl
  have hsz : ((intV l ++ [Value.int .i64 x]).toArray).size = l.length + 1 := by simp [intV]
  rw [Array.getElem?_append_left (by rw [hsz]; exact hjl)]
  have e1 : intV l ++ [Value.int .i64 x] = intV (put l l.length x) := by rw [put_end, intV_snoc]
  rw [e1]
  simpa using intV_at (put l l.length x) j hj
theorem ins_grow (base : Nat) (l : List Int) (g cap : Nat) (i : Nat) (x : Int) (vb : Nat) (w : World) (hb : base ≤ w.heap.size) (hn : l.length ≤ 1000) (hnc : l.length ≤ cap) (hr : cap < l.length + 1) (hi : i < l.length) (hL : IntsAt w (some ⟨g, 0, none⟩) l)
    (hvs : ∀ j u, [Value.int .i64 x][j]? = some u → w.cell? ⟨vb, 0 + j, none⟩ = some u) (h1v : ∀ u ∈ [Value.int .i64 x], u.oneCell' = true) :
    Calls Tryz.prog 82 #[.slice (some ⟨g, 0, none⟩) l.length cap, .int .i64 (i : Int), .slice (some ⟨vb, 0, none⟩) 1 1] w fun e w' => InR base w w' e (put l i x) := by
  have hnw := hL.news
  refine (Any2.slices_Insert_int_grow Tryz.laysIns g 0 l.length cap i vb 0 1 1 (intV l) [.int .i64 x] w hi (by omega) hnc hr (by omega) (intV_len l) rfl (fun j u hu => by rw [← Addr.add_lit]; exact hnw j u hu) hvs (intV_one l) h1v).mono ?_
  rintro e w' ⟨rfl, rfl⟩
  obtain ⟨C, hC⟩ : ∃ C : Array Value, C = (((intV l).take i).toArray ++ Builtin.zeroCells (Value.int .i64 0).cells (l.length + 1 - i) ++ Builtin.zeroCells (Value.int .i64 0).cells (grownCap w (l.length + 1) cap (Tryz.laysIns_ren.t 3) - (l.length + 1))) := ⟨_, rfl⟩
  rw [← hC]
  have hCs : l.length + 1 ≤ C.size := by rw [hC]; simp [Builtin.zeroCells, Value.cells, intV]; omega
  have hC1 : ∀ j (hj : j < l.length), j < i → C[j]? = some (.int .i64 l[j]) := fun j hj hji => by
    have hs : ((intV l).take i).toArray.size = i := by simp [intV]; omega
    rw [hC, Array.getElem?_append_left (by rw [Array.size_append, hs]; omega), Array.getElem?_append_left (by rw [hs]; exact hji)]
    rw [List.getElem?_toArray, List.getElem?_take_of_lt hji]
    exact intV_at l j hj
  clear hC
  have hdl : ((intV l).drop i).length = l.length - i := by rw [List.length_drop, intV_len]
  have hb0 : ∀ j, (w.alloc (.cells C (Tryz.laysIns_ren.t 3))).drew.cell? ⟨w.heap.size, j, none⟩ = C[j]? := fun j => World.cell?_alloc_at (w := w) C _ w.heap.size j rfl
  have hin1 : ∀ j, j < [Value.int .i64 x].length → ((w.alloc (.cells C (Tryz.laysIns_ren.t 3))).drew.cell? ⟨w.heap.size, i + j, none⟩).isSome = true := fun j hj => by
    simp only [List.length_singleton] at hj
    rw [hb0, Array.getElem?_eq_getElem (by omega)]; rfl
  have hin2 : ∀ j, j < ((intV l).drop i).length → ((((w.alloc (.cells C (Tryz.laysIns_ren.t 3))).drew.setCells w.heap.size i [.int .i64 x]).drew).cell? ⟨w.heap.size, i + 1 + j, none⟩).isSome = true := fun j hj => by
    rw [hdl] at hj
    show (((w.alloc (.cells C (Tryz.laysIns_ren.t 3))).drew.setCells w.heap.size i [.int .i64 x]).cell? ⟨w.heap.size, i + 1 + j, none⟩).isSome = true
    rw [World.cell?_setCells_out _ _ _ _ _ (fun _ _ => Or.inr (by show i + 1 ≤ i + 1 + j; omega)), hb0, Array.getElem?_eq_getElem (by omega)]; rfl
  have hsz : ((((w.alloc (.cells C (Tryz.laysIns_ren.t 3))).drew.setCells w.heap.size i [.int .i64 x]).drew).setCells w.heap.size (i + 1) ((intV l).drop i)).heap.size = w.heap.size + 1 := by
    rw [size_setCells]
    show ((w.alloc (.cells C (Tryz.laysIns_ren.t 3))).drew.setCells w.heap.size i [.int .i64 x]).heap.size = _
    rw [size_setCells]
    simp
  refine ⟨w.heap.size, _, by rw [put_len l i x (by omega)], ?_, by rw [put_len l i x (by omega)]; exact grownCap_ge w _ _ _, hb, by rw [hsz]; omega, Below.cellsW _ hb _ _ (Below.cellsW _ hb _ _ ((Below.refl base w).alloc hb _).drew).drew⟩
  intro j hj
  refine ⟨w.heap.size, 0, rfl, by rw [hsz]; omega, ?_⟩
  rw [Nat.zero_add]
  obtain ⟨p1, p2, p3⟩ := put_at l i x (by omega) j hj
  rw [put_len l i x (by omega)] at hj
  rcases Nat.lt_trichotomy j i with c | c | c
  · obtain ⟨hjl, e⟩ := p1 c
    rw [World.cell?_setCells_out _ _ _ _ _ (fun _ _ => Or.inl (by show j < i + 1; omega))]
    show ((w.alloc (.cells C (Tryz.laysIns_ren.t 3))).drew.setCells w.heap.size i [.int .i64 x]).cell? ⟨w.heap.size, j, none⟩ = _
    rw [World.cell?_setCells_out _ _ _ _ _ (fun _ _ => Or.inl (by show j < i; omega)), hb0, e]
    exact hC1 j hjl c
  · have := World.cell?_setCells_in w.heap.size [Value.int .i64 x] i _ hin1 0 (by simp)
    rw [World.cell?_setCells_out _ _ _ _ _ (fun _ _ => Or.inl (by show j < i + 1; omega))]
    show ((w.alloc (.cells C (Tryz.laysIns_ren.t 3))).drew.setCells w.heap.size i [.int .i64 x]).cell? ⟨w.heap.size, j, none⟩ = _
    rw [p2 c, c]
    simpa using this
  · have P3 := Lib.hid (p3 c)
    clear p1 p2 p3
    obtain ⟨k, rfl⟩ : ∃ k, j = i + 1 + k := ⟨j - (i + 1), by omega⟩
    have hk : k < ((intV l).drop i).length := by rw [hdl]; omega
    have hk2 : i + k < l.length := by omega
    have hk3 : i + 1 + k - 1 = i + k := by omega
    have := World.cell?_setCells_in w.heap.size ((intV l).drop i) (i + 1) _ hin2 k hk
    rw [this, List.getElem_drop]
    have e2 := intV_at l (i + k) hk2
    rw [List.getElem?_eq_getElem (by rw [intV_len]; exact hk2)] at e2
    obtain ⟨hjl, e⟩ := P3.out
    rw [e]
    simp only [hk3]
    exact e2
theorem ins_any (base : Nat) (l : List Int) (v : Value) (i : Nat) (x : Int) (vb : Nat) (t : TypeId) (w : World) (ho : w.ownsRow base 3 1 v l.length (intV l)) (hn : l.length ≤ 1000) (hi : i ≤ l.length)
    (hv : w.heap[vb]? = some (.cells #[.int .i64 x] t (0, 0))) (hne : ∀ g, v.ownBlock = some g → vb ≠ g) (hb : base ≤ w.heap.size) :
    Calls Tryz.prog 82 #[v, .int .i64 (i : Int), .slice (some ⟨vb, 0, none⟩) 1 1] w fun e w' => InR base w w' e (put l i x) := by
  have hvs : ∀ j u, [Value.int .i64 x][j]? = some u → w.cell? ⟨vb, 0 + j, none⟩ = some u := fun j u hu => by
    rw [cell_blk hv, Nat.zero_add]; simpa using hu
  have h1v : ∀ u ∈ [Value.int .i64 x], u.oneCell' = true := fun u hu => by simp at hu; subst hu; rfl
  have hpl := put_len l i x hi
  have hvl : vb < w.heap.size := by
    rcases Nat.lt_or_ge vb w.heap.size with h | h
    · exact h
    · rw [Array.getElem?_eq_none h] at hv; cases hv
  obtain ⟨hl, ⟨rfl, h0⟩ | ⟨g, cap, cur, rfl, h3, h4, h5, h6, h7, h8⟩⟩ := ho
  · have hl0 : l = [] := List.length_eq_zero_iff.1 h0
    subst hl0
    obtain rfl : i = 0 := by simpa using hi
    exact ins_endgrow base [] none 0 x vb w hb (by simp) (by simp) (by simp) IntsAt.nil hvs h1v
  · have hg : g < w.heap.size := by
      rcases Nat.lt_or_ge g w.heap.size with h | h
      · exact h
      · rw [Array.getElem?_eq_none h] at h4; cases h4
    have hm : cap ≤ 9223372036854775807 := by unfold maxLen at h6; omega
    rw [Nat.mul_one] at h7
    have hL : IntsAt w (some ⟨g, 0, none⟩) l := fun j hj => ⟨g, 0, rfl, hg, by rw [Nat.zero_add]; exact own_cells h4 h8 j hj⟩
    have hvg := hne g rfl
    by_cases hr : l.length + 1 ≤ cap
    · rcases Nat.lt_or_ge i l.length with c | c
      · exact ins_shift base l g cap cur _ i x vb t w h3 h4 hg hm h7 h8 hr c hv hvg hvs h1v
      · obtain rfl : i = l.length := by omega
        exact ins_room base l g cap cur _ x vb w h3 h4 hg hm h7 h8 hr hvs h1v
    · rcases Nat.lt_or_ge i l.length with c | c
      · exact ins_grow base l g cap i x vb w hb hn h5 (by omega) c hL hvs h1v
      · obtain rfl : i = l.length := by omega
        exact ins_endgrow base l _ cap x vb w hb hn h5 (by omega) hL hvs h1v
end Go.Proofs.YthfbpilfdfploaaGreat
namespace Go.Proofs.YthfbpilfdfploaaGreat
open Go.RowKit
open Wn (Wd)

/- a struct of two cells that may be written -/
structure Bx2 (w : World) (g : Nat) (a b : Value) : Prop where
  c0 : w.cell? ⟨g, 0, none⟩ = some a
  c1 : w.cell? ⟨g, 1, none⟩ = some b
  f0 : w.frozen? ⟨g, 0, none⟩ = false
  f1 : w.frozen? ⟨g, 1, none⟩ = false
  lt : g < w.heap.size
theorem Bx2.gr {w w' : World} {g : Nat} {a b : Value} (h : Bx2 w g a b) (k : Gr w w') : Bx2 w' g a b :=
  ⟨k.keep h.c0, k.keep h.c1, k.keepF h.lt h.f0, k.keepF h.lt h.f1, Nat.lt_of_lt_of_le h.lt k.size⟩
theorem Bx2.new (w : World) (a b : Value) (t : TypeId) (g : Nat) (hg : g = w.heap.size) : Bx2 (w.alloc (.cells #[a, b] t)) g a b := by
  subst hg
  exact ⟨by simp, by simp, by simp [go_sem], by simp [go_sem], by simp⟩
theorem Bx2.set0 {w : World} {g : Nat} {a b : Value} (h : Bx2 w g a b) (x : Value) : Bx2 (w.setCell ⟨g, 0, none⟩ x) g x b := by
  obtain ⟨h0, h1, f0, f1, hl⟩ := h
  exact ⟨by simp [go_sem, *], by simp [go_sem, *], by simp [go_sem, *], by simp [go_sem, *], by simpa using hl⟩
theorem Bx2.far {w : World} {g k : Nat} {a b : Value} (h : Bx2 w g a b) (hk : k ≠ g) (o : Nat) (x : Value) : Bx2 (w.setCell ⟨k, o, none⟩ x) g a b := by
  obtain ⟨h0, h1, f0, f1, hl⟩ := h
  exact ⟨by rw [World.cell?_setCell_far _ _ _ _ (by simpa using hk)]; exact h0, by rw [World.cell?_setCell_far _ _ _ _ (by simpa using hk)]; exact h1, by simp [go_sem, *], by simp [go_sem, *], by simpa using hl⟩
theorem IntsAt.set {w : World} {ad : Option Addr} {l : List Int} (h : IntsAt w ad l) (p : Addr) (v : Value) (hp : ∀ a, ad = some a → p.block ≠ a.block) : IntsAt (w.setCell p v) ad l := by
  intro j hj
  obtain ⟨b, off, e, hb, hc⟩ := h j hj
  exact ⟨b, off, e, by simpa using hb, by rw [World.cell?_setCell_far _ _ _ _ (by simpa using hp _ e)]; exact hc⟩
theorem slice_from (b off n cap c : Nat) (hc : c < n) (hn : n ≤ cap) (W : World) :
    (Instr.sliceAt 54 (.slice (some ⟨b, off, none⟩) n cap) (some (.int .i64 c)) none none).run Tryz.prog W = .ok (.slice (some ⟨b, off + c, none⟩) (n - c) (cap - c)) W := by
  have h1 : (c : Int) ≤ n := by omega
  have h2 : ¬ (cap = c) := by omega
  go_simp
def gonR (w w' : World) (e : Ending) (ad : Option Addr) (W : Wd) : Prop :=
  ∃ ad' cap', e = .returned (wdV W.low ad' W.seen.length cap') ∧ IntsAt w' ad' W.seen ∧ W.seen.length ≤ cap' ∧ (ad' = none → cap' = 0) ∧ (∀ a', ad' = some a' → ∃ a, ad = some a ∧ a'.block = a.block) ∧ Gr w w'
set_option maxHeartbeats 8000000 in
set_option maxRecDepth 100000 in
theorem goon_any (low : Int) (l : List Int) (ad : Option Addr) (cap : Nat) (w : World) (hL : IntsAt w ad l) (hn : l.length ≤ 1000) (hcap : l.length ≤ cap) (h0 : 0 ≤ low) (h1 : low ≤ 2000000000) (hl : ∀ n ∈ l, n ≤ 2000000000 ∧ 0 ≤ n) :
    Calls Tryz.prog 81 #[.int .i64 low, .slice ad l.length cap] w fun e w' => gonR w w' e ad (Wn.gon low l) := by
  have HL := Lib.hid hL
  have HB := Lib.hid hl
  clear hL hl
  go_enter Tryz.func81, Tryz.ntmps81
  go_wp2
  go_step3
  go_wp2
  go_step3
  go_wp2
  go_loopw [12] (fun i wr => ∃ (k : Nat) (x : Int), k ≤ l.length ∧ i = .int .i64 (k : Int) ∧ 0 ≤ x ∧ x ≤ 2000000000 ∧ Wn.gon low l = Wn.gon x (l.drop k) ∧ Bx2 wr (w.heap.size + 1) (.int .i64 x) (.slice none 0 0) ∧ Bx2 wr w.heap.size (.int .i64 0) (.slice none 0 0) ∧ Gr w wr) (fun i _ => l.length - (intOf i).toNat)
  case atStart => exact ⟨0, low, by omega, rfl, h0, h1, rfl, Bx2.new _ _ _ _ _ (by simp), (Bx2.new w _ _ _ _ rfl).gr (Gr.refl _).alloc, (Gr.refl w).alloc.alloc⟩
  case round =>
    obtain ⟨k, x, hk, rfl, hx0, hx1, he, hb, hr, hg⟩ := hrel
    have HG := Lib.hid hg
    have HBx := Lib.hid hb
    have HRs := Lib.hid hr
    obtain ⟨c0, c1, f0, f1, lt1⟩ := hb
    obtain ⟨r0, r1, s0, s1, lt0⟩ := hr
    clear hg
    by_cases hlt : k < l.length
    · obtain ⟨b, off, rfl, hbl, hc⟩ := HL.out k hlt
      have hc' := HG.out.keep hc
      have hn0 := HB.out l[k] (List.getElem_mem hlt)
      rw [List.drop_eq_getElem_cons hlt] at he
      have HE := Lib.hid he
      have HRw := Lib.hid (HL.out.drop k)
      rw [List.drop_eq_getElem_cons hlt] at HRw
      have hln : (l[k] :: l.drop (k + 1)).length = l.length - k := by rw [List.length_cons, List.length_drop]; omega
      have HLn := Lib.hid hln
      clear he hc hln
      generalize l[k] = n at *
      by_cases c : n = x + 1
      · have HF : Hid (Wn.gon low l = Wn.gon n (l.drop (k + 1))) := by show _ = _; rw [HE.out]; show (if n = x + 1 then _ else _) = _; rw [if_pos c]
        subst c
        have hb1 := Lib.hid (HBx.out.set0 (.int .i64 (x + 1)))
        have hr1 := Lib.hid (HRs.out.far (k := w.heap.size + 1) (by omega) 0 (.int .i64 (x + 1)))
        clear HE HRw HLn
        go_wp2
        go_roundw
        case rel => exact ⟨k + 1, x + 1, by omega, by go_num, by omega, by omega, HF.out, hb1.out, hr1.out, HG.out.set _ (by simp) _⟩
        case measure => simp [intOf]; omega
      · have HF : Hid (Wn.gon low l = ⟨x, n :: l.drop (k + 1)⟩) := by show _ = _; rw [HE.out]; show (if n = x + 1 then _ else _) = _; rw [if_neg c]
        have hsl := slice_from b off l.length cap k hlt hcap
        clear HE
        go_wp2
        rw [Exit.noGoto_ret]
        refine bodyPost_ret (v := wdV x (some ⟨b, off + k, none⟩) (l.length - k) (cap - k)) (by simp [results, Tryz.results81, go_sem, *]) rfl ?_
        refine ⟨some ⟨b, off + k, none⟩, cap - k, ?_, ?_, ?_, (fun e => by cases e), (fun a' e => ⟨_, rfl, by cases e; rfl⟩), ?_⟩
        · rw [HF.out]; simp only [HLn.out]
        · rw [HF.out]
          exact ((((HRw.out.gr HG.out).set _ _ (fun a e => by cases e; simp; omega)).set _ _ (fun a e => by cases e; simp; omega)).set _ _ (fun a e => by cases e; simp; omega))
        · rw [HF.out]; simp only [HLn.out]; omega
        · exact ((HG.out.set _ (by simp) _).set _ (by simp) _).set _ (by simp) _
    · have HF : Hid (Wn.gon low l = ⟨x, []⟩) := by show _ = _; rw [he, List.drop_eq_nil_of_le (by omega)]; rfl
      clear he
      go_wp2
      rw [Exit.noGoto_ret]
      refine bodyPost_ret (v := wdV x none 0 0) (by simp [results, Tryz.results81, go_sem, *]) rfl ?_
      refine ⟨none, 0, by rw [HF.out]; rfl, by rw [HF.out]; exact IntsAt.nil, by rw [HF.out]; simp, fun _ => rfl, (fun a' e => by cases e), ?_⟩
      exact (HG.out.set _ (by simp) _).set _ (by simp) _
end Go.Proofs.YthfbpilfdfploaaGreat
namespace Go.Proofs.YthfbpilfdfploaaGreat
open Go.ChangeShapes Go.WideShapes Go.ChangeAt Go.RowKit

set_option maxRecDepth 100000 in
theorem trod_id {H : Type} {enc : TypeId × Value → H} {W : World} {base : Nat} {sp : Nat → Bool} {held : Bool} {fuel : Nat} {a b c : Value} {x : DataW H × List MemPlace}
    (h : DataW.trod enc Tryz.prog W base sp held fuel 34 [a, b, c] = some x) :
    ∃ r n ad cap, ∃ L : List (Int × Int), a = .int .i64 r ∧ b = .int .i64 n ∧ c = .slice ad L.length cap ∧ HopsAt W ad L ∧ L.length ≤ 9223372036854775807 ∧ L.length ≤ cap := by
  obtain ⟨y0, y1, y2, n, _, _, t0, t1, t2⟩ := Deep.trod_struct3 Tryz.underlying34 h
  have k0 : Tryz.prog.cellsOf 3 = 1 := by kernel_rfl
  have k1 : Tryz.prog.cellsOf 32 = 1 := by kernel_rfl
  simp [k0, k1] at t0 t1 t2
  obtain ⟨z0, e0, _⟩ := DataW.trod_int Tryz.underlying3 t0
  obtain ⟨z1, e1, _⟩ := DataW.trod_int Tryz.underlying3 t1
  obtain ⟨ad, cap, L, e2, h1, h2, h3, h4⟩ := open_hops t2
  simp at e0 e1
  exact ⟨z0, z1, ad, cap, L, e0, e1, e2, h1, h2, h3⟩

/- what comes in as a note -/
def NtIn (W : World) (vs : List Value) (x : Nt) (ad : Option Addr) (cap : Nat) : Prop :=
  vs = [.int .i64 x.k, .int .i64 x.r, .int .i64 x.n, .slice ad x.L.length cap, .string x.d, .int .i64 x.y] ∧ HopsAt W ad x.L ∧ x.L.length ≤ 9223372036854775807 ∧ x.L.length ≤ cap ∧ x.d.size ≤ 9223372036854775807

set_option maxRecDepth 100000 in
theorem trod_note {H : Type} {enc : TypeId × Value → H} {W : World} {base : Nat} {sp : Nat → Bool} {held : Bool} {fuel : Nat} {c0 c1 c2 c3 c4 c5 : Value} {x : DataW H × List MemPlace}
    (h : DataW.trod enc Tryz.prog W base sp held fuel 36 [c0, c1, c2, c3, c4, c5] = some x) : ∃ x ad cap, NtIn W [c0, c1, c2, c3, c4, c5] x ad cap := by
  obtain ⟨xs, n, _, rfl, hl, hlen, hf⟩ := DataW.trod_struct Tryz.underlying36 h
  have k0 : Tryz.prog.cellsOf 3 = 1 := by kernel_rfl
  have k1 : Tryz.prog.cellsOf 9 = 1 := by kernel_rfl
  have k3 : Tryz.prog.cellsOf 34 = 3 := by kernel_rfl
  match xs, hlen with
  | [y0, y1, y2, y3], _ =>
    have t0 := hf 0 _ rfl
    have t1 := hf 1 _ rfl
    have t2 := hf 2 _ rfl
    have t3 := hf 3 _ rfl
    simp [k0, k1, k3] at t0 t1 t2 t3
    obtain ⟨z0, e0, _⟩ := DataW.trod_int Tryz.underlying3 t0
    obtain ⟨r, m, ad, cap, L, e1, e2, e3, h1, h2, h3⟩ := trod_id t1
    obtain ⟨z4, e4, _, r4⟩ := DataW.trod_string Tryz.underlying9 t2
    obtain ⟨z5, e5, _⟩ := DataW.trod_int Tryz.underlying3 t3
    simp at e0 e4 e5
    subst e0 e1 e2 e3 e4 e5
    unfold maxLen at r4
    exact ⟨⟨z0, r, m, L, z4, z5⟩, ad, cap, rfl, h1, h2, h3, by show z4.size ≤ _; omega⟩

end Go.Proofs.YthfbpilfdfploaaGreat
