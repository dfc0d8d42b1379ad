/- Parts of these proofs, laid together. -/
import Derived.Test.YtcmbppjfpdkblaaGreatDoorGP
/- note: what Frame answers. -/
namespace Go.Proofs.YtcmbppjfpdkblaaGreatDoor
open Go.RowKit

set_option maxHeartbeats 4000000 in
set_option maxRecDepth 100000 in
theorem noteFits_any (fr tx ep sq ae ac k r n : Int) (L : List (Int × Int)) (d : ByteArray) (y : Int) (ad : Option Addr) (cap : Nat) (w : World) (hL : HopsAt w ad L) (hn : L.length ≤ 9223372036854775807) (hd : d.size ≤ 9223372036854775807) (hc : L.length ≤ cap) :
    Calls Tryz.prog 45 #[.agg #[.int .i64 fr, .int .i64 tx, .int .i64 ep, .int .i64 sq, .int .i64 ae, .int .i64 ac, .int .i64 k, .int .i64 r, .int .i64 n, .slice ad L.length cap, .string d, .int .i64 y]] w fun e w' => e = .returned (.bool (Nt.fnB ⟨fr, tx, ep, sq, ae, ac, ⟨k, r, n, L, d, y⟩⟩)) ∧ Gr w w' := by
  have H0 : Hid (∀ w', Calls Tryz.prog 67 #[.agg #[.int .i64 k, .int .i64 r, .int .i64 n, .slice ad L.length cap, .string d, .int .i64 y]] w' fun e w2 => e = .returned (.bool (Nt.emB ⟨k, r, n, L, d, y⟩)) ∧ Gr w' w2) := fun w' => isEmpty_any k r n L d y ad cap w'
  have H1 : Hid (∀ w', Gr w w' → Calls Tryz.prog 10 #[.agg #[.int .i64 k, .int .i64 r, .int .i64 n, .slice ad L.length cap, .string d, .int .i64 y]] w' fun e w2 => e = .returned (.tuple #[.int .i64 (Nt.ends1 ⟨k, r, n, L, d, y⟩), .int .i64 (Nt.ends2 ⟨k, r, n, L, d, y⟩)]) ∧ Gr w' w2) := fun w' g => nEnds_any k r n L d y ad cap w' (hL.gr g) hn hd hc
  have H2 : Hid (∀ w', Gr w w' → Calls Tryz.prog 14 #[.agg #[.int .i64 k, .int .i64 r, .int .i64 n, .slice ad L.length cap, .string d, .int .i64 y]] w' fun e w2 => e = .returned (.int .i64 (if Nt.ntB ⟨k, r, n, L, d, y⟩ = true then 0 else 130)) ∧ Gr w' w2) := fun w' g => nCheck_any k r n L d y ad cap w' (hL.gr g) hn hd
  have HE : Hid (Nt.fnB ⟨fr, tx, ep, sq, ae, ac, ⟨k, r, n, L, d, y⟩⟩ = if sq = 0 then Nt.emB ⟨k, r, n, L, d, y⟩ else (Nt.ntB ⟨k, r, n, L, d, y⟩ && decide (Nt.ends1 ⟨k, r, n, L, d, y⟩ = fr) && decide (Nt.ends2 ⟨k, r, n, L, d, y⟩ = tx))) := rfl
  generalize Nt.fnB ⟨fr, tx, ep, sq, ae, ac, ⟨k, r, n, L, d, y⟩⟩ = R at *
  generalize Nt.emB ⟨k, r, n, L, d, y⟩ = em at *
  generalize Nt.ends1 ⟨k, r, n, L, d, y⟩ = E1 at *
  generalize Nt.ends2 ⟨k, r, n, L, d, y⟩ = E2 at *
  generalize Nt.ntB ⟨k, r, n, L, d, y⟩ = bn at *
  clear hL hn hd hc
  by_cases hs : sq = 0
  · rw [if_pos hs] at HE
    subst hs
    go_enter Tryz.func45, Tryz.ntmps45
    go_wp2_with fail
    refine (H0.out _).mono ?_
    rintro e1 w1 ⟨rfl, hg1⟩
    go_wp2
    go_ret
    exact ⟨by rw [HE.out]; rfl, (by repeat (first | exact Gr.refl _ | refine Gr.alloc ?_ | refine Gr.drew ?_ | refine Gr.trans ?_ (by assumption)))⟩
  · rw [if_neg hs] at HE
    have hs' : (sq == 0) = false := by simpa using hs
    cases bn with
    | false =>
      rw [show (if false = true then (0 : Int) else 130) = 130 from rfl] at H2
      rw [Bool.false_and, Bool.false_and] at HE
      go_enter Tryz.func45, Tryz.ntmps45
      go_wp2_with fail
      refine (H1.out _ ?_).mono ?_
      · exact (by repeat (first | exact Gr.refl _ | refine Gr.alloc ?_ | refine Gr.drew ?_ | refine Gr.trans ?_ (by assumption)))
      rintro e1 w1 ⟨rfl, hg1⟩
      have B1 := (Cs.new w [.int .i64 fr, .int .i64 tx, .int .i64 ep, .int .i64 sq, .int .i64 ae, .int .i64 ac, .int .i64 k, .int .i64 r, .int .i64 n, .slice ad L.length cap, .string d, .int .i64 y] 39 _ rfl).gr hg1
      have c0 := B1.at_ 0 _ rfl
      have c1 := B1.at_ 1 _ rfl
      have c2 := B1.at_ 2 _ rfl
      have c3 := B1.at_ 3 _ rfl
      have c4 := B1.at_ 4 _ rfl
      have c5 := B1.at_ 5 _ rfl
      have c6 := B1.at_ 6 _ rfl
      have c7 := B1.at_ 7 _ rfl
      have c8 := B1.at_ 8 _ rfl
      have c9 := B1.at_ 9 _ rfl
      have c10 := B1.at_ 10 _ rfl
      have c11 := B1.at_ 11 _ rfl
      have clt := B1.lt
      go_wp2_with fail
      refine (H2.out _ ?_).mono ?_
      · exact (by repeat (first | exact Gr.refl _ | refine Gr.alloc ?_ | refine Gr.drew ?_ | refine Gr.trans ?_ (by assumption)))
      rintro e2 w2 ⟨rfl, hg2⟩
      have B2 := B1.gr hg2
      have c0 := B2.at_ 0 _ rfl
      have c1 := B2.at_ 1 _ rfl
      have c2 := B2.at_ 2 _ rfl
      have c3 := B2.at_ 3 _ rfl
      have c4 := B2.at_ 4 _ rfl
      have c5 := B2.at_ 5 _ rfl
      have c6 := B2.at_ 6 _ rfl
      have c7 := B2.at_ 7 _ rfl
      have c8 := B2.at_ 8 _ rfl
      have c9 := B2.at_ 9 _ rfl
      have c10 := B2.at_ 10 _ rfl
      have c11 := B2.at_ 11 _ rfl
      have clt := B2.lt
      go_wp2
      go_ret
      exact ⟨by rw [HE.out]; rfl, (by repeat (first | exact Gr.refl _ | refine Gr.alloc ?_ | refine Gr.drew ?_ | refine Gr.trans ?_ (by assumption)))⟩
    | true =>
      rw [show (if true = true then (0 : Int) else 130) = 0 from rfl] at H2
      rw [Bool.true_and] at HE
      by_cases h1 : E1 = fr
      · subst h1
        rw [decide_eq_true rfl, Bool.true_and] at HE
        have hd2 : (E2 == tx) = decide (E2 = tx) := rfl
        rw [← hd2] at HE
        clear hd2
        go_enter Tryz.func45, Tryz.ntmps45
        go_wp2_with fail
        refine (H1.out _ ?_).mono ?_
        · exact (by repeat (first | exact Gr.refl _ | refine Gr.alloc ?_ | refine Gr.drew ?_ | refine Gr.trans ?_ (by assumption)))
        rintro e1 w1 ⟨rfl, hg1⟩
        have B1 := (Cs.new w [.int .i64 E1, .int .i64 tx, .int .i64 ep, .int .i64 sq, .int .i64 ae, .int .i64 ac, .int .i64 k, .int .i64 r, .int .i64 n, .slice ad L.length cap, .string d, .int .i64 y] 39 _ rfl).gr hg1
        have c0 := B1.at_ 0 _ rfl
        have c1 := B1.at_ 1 _ rfl
        have c2 := B1.at_ 2 _ rfl
        have c3 := B1.at_ 3 _ rfl
        have c4 := B1.at_ 4 _ rfl
        have c5 := B1.at_ 5 _ rfl
        have c6 := B1.at_ 6 _ rfl
        have c7 := B1.at_ 7 _ rfl
        have c8 := B1.at_ 8 _ rfl
        have c9 := B1.at_ 9 _ rfl
        have c10 := B1.at_ 10 _ rfl
        have c11 := B1.at_ 11 _ rfl
        have clt := B1.lt
        go_wp2_with fail
        refine (H2.out _ ?_).mono ?_
        · exact (by repeat (first | exact Gr.refl _ | refine Gr.alloc ?_ | refine Gr.drew ?_ | refine Gr.trans ?_ (by assumption)))
        rintro e2 w2 ⟨rfl, hg2⟩
        have B2 := B1.gr hg2
        have c0 := B2.at_ 0 _ rfl
        have c1 := B2.at_ 1 _ rfl
        have c2 := B2.at_ 2 _ rfl
        have c3 := B2.at_ 3 _ rfl
        have c4 := B2.at_ 4 _ rfl
        have c5 := B2.at_ 5 _ rfl
        have c6 := B2.at_ 6 _ rfl
        have c7 := B2.at_ 7 _ rfl
        have c8 := B2.at_ 8 _ rfl
        have c9 := B2.at_ 9 _ rfl
        have c10 := B2.at_ 10 _ rfl
        have c11 := B2.at_ 11 _ rfl
        have clt := B2.lt
        go_wp2
        go_ret
        exact ⟨by rw [HE.out]; rfl, (by repeat (first | exact Gr.refl _ | refine Gr.alloc ?_ | refine Gr.drew ?_ | refine Gr.trans ?_ (by assumption)))⟩
      · rw [decide_eq_false h1, Bool.false_and] at HE
        have h1b : (E1 == fr) = false := by simpa using h1
        go_enter Tryz.func45, Tryz.ntmps45
        go_wp2_with fail
        refine (H1.out _ ?_).mono ?_
        · exact (by repeat (first | exact Gr.refl _ | refine Gr.alloc ?_ | refine Gr.drew ?_ | refine Gr.trans ?_ (by assumption)))
        rintro e1 w1 ⟨rfl, hg1⟩
        have B1 := (Cs.new w [.int .i64 fr, .int .i64 tx, .int .i64 ep, .int .i64 sq, .int .i64 ae, .int .i64 ac, .int .i64 k, .int .i64 r, .int .i64 n, .slice ad L.length cap, .string d, .int .i64 y] 39 _ rfl).gr hg1
        have c0 := B1.at_ 0 _ rfl
        have c1 := B1.at_ 1 _ rfl
        have c2 := B1.at_ 2 _ rfl
        have c3 := B1.at_ 3 _ rfl
        have c4 := B1.at_ 4 _ rfl
        have c5 := B1.at_ 5 _ rfl
        have c6 := B1.at_ 6 _ rfl
        have c7 := B1.at_ 7 _ rfl
        have c8 := B1.at_ 8 _ rfl
        have c9 := B1.at_ 9 _ rfl
        have c10 := B1.at_ 10 _ rfl
        have c11 := B1.at_ 11 _ rfl
        have clt := B1.lt
        go_wp2_with fail
        refine (H2.out _ ?_).mono ?_
        · exact (by repeat (first | exact Gr.refl _ | refine Gr.alloc ?_ | refine Gr.drew ?_ | refine Gr.trans ?_ (by assumption)))
        rintro e2 w2 ⟨rfl, hg2⟩
        have B2 := B1.gr hg2
        have c0 := B2.at_ 0 _ rfl
        have c1 := B2.at_ 1 _ rfl
        have c2 := B2.at_ 2 _ rfl
        have c3 := B2.at_ 3 _ rfl
        have c4 := B2.at_ 4 _ rfl
        have c5 := B2.at_ 5 _ rfl
        have c6 := B2.at_ 6 _ rfl
        have c7 := B2.at_ 7 _ rfl
        have c8 := B2.at_ 8 _ rfl
        have c9 := B2.at_ 9 _ rfl
        have c10 := B2.at_ 10 _ rfl
        have c11 := B2.at_ 11 _ rfl
        have clt := B2.lt
        go_wp2
        go_ret
        exact ⟨by rw [HE.out]; rfl, (by repeat (first | exact Gr.refl _ | refine Gr.alloc ?_ | refine Gr.drew ?_ | refine Gr.trans ?_ (by assumption)))⟩

theorem fr_parts (fr tx ep sq ae ac k r n : Int) (L : List (Int × Int)) (d : ByteArray) (y : Int) : Nt.frE ⟨fr, tx, ep, sq, ae, ac, ⟨k, r, n, L, d, y⟩⟩ = if (Nt.inB fr 0 15 && Nt.inB tx 0 15 && decide (fr ≠ tx) && Nt.cnB ⟨fr, tx, ep, sq, ae, ac, ⟨k, r, n, L, d, y⟩⟩ && Nt.fnB ⟨fr, tx, ep, sq, ae, ac, ⟨k, r, n, L, d, y⟩⟩) = true then 0 else 130 := rfl

set_option maxHeartbeats 4000000 in
set_option maxRecDepth 100000 in
theorem nFrame_any (fr tx ep sq ae ac k r n : Int) (L : List (Int × Int)) (d : ByteArray) (y : Int) (ad : Option Addr) (cap : Nat) (w : World) (hL : HopsAt w ad L) (hn : L.length ≤ 9223372036854775807) (hd : d.size ≤ 9223372036854775807) (hc : L.length ≤ cap) :
    Calls Tryz.prog 18 #[.agg #[.int .i64 fr, .int .i64 tx, .int .i64 ep, .int .i64 sq, .int .i64 ae, .int .i64 ac, .int .i64 k, .int .i64 r, .int .i64 n, .slice ad L.length cap, .string d, .int .i64 y]] w fun e w' => e = .returned (.int .i64 (Nt.frE ⟨fr, tx, ep, sq, ae, ac, ⟨k, r, n, L, d, y⟩⟩)) ∧ Gr w w' := by
  have H0 : Hid (∀ w', Gr w w' → Calls Tryz.prog 43 #[.int .i64 fr] w' fun e w2 => e = .returned (.bool (Nt.inB fr 0 15)) ∧ Gr w' w2) := fun w' _ => (isOrg_any fr w').mono (by rintro e w2 ⟨rfl, rfl⟩; exact ⟨rfl, Gr.refl _⟩)
  have H1 : Hid (∀ w', Gr w w' → Calls Tryz.prog 43 #[.int .i64 tx] w' fun e w2 => e = .returned (.bool (Nt.inB tx 0 15)) ∧ Gr w' w2) := fun w' _ => (isOrg_any tx w').mono (by rintro e w2 ⟨rfl, rfl⟩; exact ⟨rfl, Gr.refl _⟩)
  have H2 : Hid (∀ w', Gr w w' → Calls Tryz.prog 44 #[.agg #[.int .i64 fr, .int .i64 tx, .int .i64 ep, .int .i64 sq, .int .i64 ae, .int .i64 ac, .int .i64 k, .int .i64 r, .int .i64 n, .slice ad L.length cap, .string d, .int .i64 y]] w' fun e w2 => e = .returned (.bool (Nt.cnB ⟨fr, tx, ep, sq, ae, ac, ⟨k, r, n, L, d, y⟩⟩)) ∧ Gr w' w2) := fun w' _ => countsFit_any fr tx ep sq ae ac k r n L d y ad cap w'
  have H3 : Hid (∀ w', Gr w w' → Calls Tryz.prog 45 #[.agg #[.int .i64 fr, .int .i64 tx, .int .i64 ep, .int .i64 sq, .int .i64 ae, .int .i64 ac, .int .i64 k, .int .i64 r, .int .i64 n, .slice ad L.length cap, .string d, .int .i64 y]] w' fun e w2 => e = .returned (.bool (Nt.fnB ⟨fr, tx, ep, sq, ae, ac, ⟨k, r, n, L, d, y⟩⟩)) ∧ Gr w' w2) := fun w' g => noteFits_any fr tx ep sq ae ac k r n L d y ad cap w' (hL.gr g) hn hd hc
  have HE : Hid (Nt.frE ⟨fr, tx, ep, sq, ae, ac, ⟨k, r, n, L, d, y⟩⟩ = _) := fr_parts fr tx ep sq ae ac k r n L d y
  generalize Nt.frE ⟨fr, tx, ep, sq, ae, ac, ⟨k, r, n, L, d, y⟩⟩ = R at *
  generalize Nt.cnB ⟨fr, tx, ep, sq, ae, ac, ⟨k, r, n, L, d, y⟩⟩ = b2 at *
  generalize Nt.fnB ⟨fr, tx, ep, sq, ae, ac, ⟨k, r, n, L, d, y⟩⟩ = b3 at *
  generalize Nt.inB fr 0 15 = b0 at *
  generalize Nt.inB tx 0 15 = b1 at *
  clear hL hn hd hc
  cases b0 with
  | false =>
    simp only [Bool.false_and] at HE
    go_enter Tryz.func18, Tryz.ntmps18
    go_wp2_with fail
    refine (H0.out _ ?_).mono ?_
    · exact (by repeat (first | exact Gr.refl _ | refine Gr.alloc ?_ | refine Gr.drew ?_ | refine Gr.trans ?_ (by assumption)))
    rintro e0 w0 ⟨rfl, hg0⟩
    have B0 := (Cs.new w [.int .i64 fr, .int .i64 tx, .int .i64 ep, .int .i64 sq, .int .i64 ae, .int .i64 ac, .int .i64 k, .int .i64 r, .int .i64 n, .slice ad L.length cap, .string d, .int .i64 y] 39 _ rfl).gr hg0
    have c0 := B0.at_ 0 _ rfl
    have c1 := B0.at_ 1 _ rfl
    have c2 := B0.at_ 2 _ rfl
    have c3 := B0.at_ 3 _ rfl
    have c4 := B0.at_ 4 _ rfl
    have c5 := B0.at_ 5 _ rfl
    have c6 := B0.at_ 6 _ rfl
    have c7 := B0.at_ 7 _ rfl
    have c8 := B0.at_ 8 _ rfl
    have c9 := B0.at_ 9 _ rfl
    have c10 := B0.at_ 10 _ rfl
    have c11 := B0.at_ 11 _ rfl
    have clt := B0.lt
    go_wp2
    go_ret
    exact ⟨by rw [HE.out]; rfl, (by repeat (first | exact Gr.refl _ | refine Gr.alloc ?_ | refine Gr.drew ?_ | refine Gr.trans ?_ (by assumption)))⟩
  | true =>
    cases b1 with
    | false =>
      simp only [Bool.false_and, Bool.and_false] at HE
      go_enter Tryz.func18, Tryz.ntmps18
      go_wp2_with fail
      refine (H0.out _ ?_).mono ?_
      · exact (by repeat (first | exact Gr.refl _ | refine Gr.alloc ?_ | refine Gr.drew ?_ | refine Gr.trans ?_ (by assumption)))
      rintro e0 w0 ⟨rfl, hg0⟩
      have B0 := (Cs.new w [.int .i64 fr, .int .i64 tx, .int .i64 ep, .int .i64 sq, .int .i64 ae, .int .i64 ac, .int .i64 k, .int .i64 r, .int .i64 n, .slice ad L.length cap, .string d, .int .i64 y] 39 _ rfl).gr hg0
      have c0 := B0.at_ 0 _ rfl
      have c1 := B0.at_ 1 _ rfl
      have c2 := B0.at_ 2 _ rfl
      have c3 := B0.at_ 3 _ rfl
      have c4 := B0.at_ 4 _ rfl
      have c5 := B0.at_ 5 _ rfl
      have c6 := B0.at_ 6 _ rfl
      have c7 := B0.at_ 7 _ rfl
      have c8 := B0.at_ 8 _ rfl
      have c9 := B0.at_ 9 _ rfl
      have c10 := B0.at_ 10 _ rfl
      have c11 := B0.at_ 11 _ rfl
      have clt := B0.lt
      go_wp2_with fail
      refine (H1.out _ ?_).mono ?_
      · exact (by repeat (first | exact Gr.refl _ | refine Gr.alloc ?_ | refine Gr.drew ?_ | refine Gr.trans ?_ (by assumption)))
      rintro e1 w1 ⟨rfl, hg1⟩
      have B1 := B0.gr hg1
      have c0 := B1.at_ 0 _ rfl
      have c1 := B1.at_ 1 _ rfl
      have c2 := B1.at_ 2 _ rfl
      have c3 := B1.at_ 3 _ rfl
      have c4 := B1.at_ 4 _ rfl
      have c5 := B1.at_ 5 _ rfl
      have c6 := B1.at_ 6 _ rfl
      have c7 := B1.at_ 7 _ rfl
      have c8 := B1.at_ 8 _ rfl
      have c9 := B1.at_ 9 _ rfl
      have c10 := B1.at_ 10 _ rfl
      have c11 := B1.at_ 11 _ rfl
      have clt := B1.lt
      go_wp2
      go_ret
      exact ⟨by rw [HE.out]; rfl, (by repeat (first | exact Gr.refl _ | refine Gr.alloc ?_ | refine Gr.drew ?_ | refine Gr.trans ?_ (by assumption)))⟩
    | true =>
      by_cases hq : fr = tx
      · subst hq
        simp only [ne_eq, not_true_eq_false, decide_false, Bool.and_false, Bool.false_and] at HE
        go_enter Tryz.func18, Tryz.ntmps18
        go_wp2_with fail
        refine (H0.out _ ?_).mono ?_
        · exact (by repeat (first | exact Gr.refl _ | refine Gr.alloc ?_ | refine Gr.drew ?_ | refine Gr.trans ?_ (by assumption)))
        rintro e0 w0 ⟨rfl, hg0⟩
        have B0 := (Cs.new w [.int .i64 fr, .int .i64 fr, .int .i64 ep, .int .i64 sq, .int .i64 ae, .int .i64 ac, .int .i64 k, .int .i64 r, .int .i64 n, .slice ad L.length cap, .string d, .int .i64 y] 39 _ rfl).gr hg0
        have c0 := B0.at_ 0 _ rfl
        have c1 := B0.at_ 1 _ rfl
        have c2 := B0.at_ 2 _ rfl
        have c3 := B0.at_ 3 _ rfl
        have c4 := B0.at_ 4 _ rfl
        have c5 := B0.at_ 5 _ rfl
        have c6 := B0.at_ 6 _ rfl
        have c7 := B0.at_ 7 _ rfl
        have c8 := B0.at_ 8 _ rfl
        have c9 := B0.at_ 9 _ rfl
        have c10 := B0.at_ 10 _ rfl
        have c11 := B0.at_ 11 _ rfl
        have clt := B0.lt
        go_wp2_with fail
        refine (H1.out _ ?_).mono ?_
        · exact (by repeat (first | exact Gr.refl _ | refine Gr.alloc ?_ | refine Gr.drew ?_ | refine Gr.trans ?_ (by assumption)))
        rintro e1 w1 ⟨rfl, hg1⟩
        have B1 := B0.gr hg1
        have c0 := B1.at_ 0 _ rfl
        have c1 := B1.at_ 1 _ rfl
        have c2 := B1.at_ 2 _ rfl
        have c3 := B1.at_ 3 _ rfl
        have c4 := B1.at_ 4 _ rfl
        have c5 := B1.at_ 5 _ rfl
        have c6 := B1.at_ 6 _ rfl
        have c7 := B1.at_ 7 _ rfl
        have c8 := B1.at_ 8 _ rfl
        have c9 := B1.at_ 9 _ rfl
        have c10 := B1.at_ 10 _ rfl
        have c11 := B1.at_ 11 _ rfl
        have clt := B1.lt
        go_wp2
        go_ret
        exact ⟨by rw [HE.out]; rfl, (by repeat (first | exact Gr.refl _ | refine Gr.alloc ?_ | refine Gr.drew ?_ | refine Gr.trans ?_ (by assumption)))⟩
      · have hq2 : (fr == tx) = false := by simpa using hq
        rw [decide_eq_true (show fr ≠ tx from hq)] at HE
        clear hq
        cases b2 with
        | false =>
          simp only [Bool.false_and, Bool.and_false] at HE
          go_enter Tryz.func18, Tryz.ntmps18
          go_wp2_with fail
          refine (H0.out _ ?_).mono ?_
          · exact (by repeat (first | exact Gr.refl _ | refine Gr.alloc ?_ | refine Gr.drew ?_ | refine Gr.trans ?_ (by assumption)))
          rintro e0 w0 ⟨rfl, hg0⟩
          have B0 := (Cs.new w [.int .i64 fr, .int .i64 tx, .int .i64 ep, .int .i64 sq, .int .i64 ae, .int .i64 ac, .int .i64 k, .int .i64 r, .int .i64 n, .slice ad L.length cap, .string d, .int .i64 y] 39 _ rfl).gr hg0
          have c0 := B0.at_ 0 _ rfl
          have c1 := B0.at_ 1 _ rfl
          have c2 := B0.at_ 2 _ rfl
          have c3 := B0.at_ 3 _ rfl
          have c4 := B0.at_ 4 _ rfl
          have c5 := B0.at_ 5 _ rfl
          have c6 := B0.at_ 6 _ rfl
          have c7 := B0.at_ 7 _ rfl
          have c8 := B0.at_ 8 _ rfl
          have c9 := B0.at_ 9 _ rfl
          have c10 := B0.at_ 10 _ rfl
          have c11 := B0.at_ 11 _ rfl
          have clt := B0.lt
          go_wp2_with fail
          refine (H1.out _ ?_).mono ?_
          · exact (by repeat (first | exact Gr.refl _ | refine Gr.alloc ?_ | refine Gr.drew ?_ | refine Gr.trans ?_ (by assumption)))
          rintro e1 w1 ⟨rfl, hg1⟩
          have B1 := B0.gr hg1
          have c0 := B1.at_ 0 _ rfl
          have c1 := B1.at_ 1 _ rfl
          have c2 := B1.at_ 2 _ rfl
          have c3 := B1.at_ 3 _ rfl
          have c4 := B1.at_ 4 _ rfl
          have c5 := B1.at_ 5 _ rfl
          have c6 := B1.at_ 6 _ rfl
          have c7 := B1.at_ 7 _ rfl
          have c8 := B1.at_ 8 _ rfl
          have c9 := B1.at_ 9 _ rfl
          have c10 := B1.at_ 10 _ rfl
          have c11 := B1.at_ 11 _ rfl
          have clt := B1.lt
          go_wp2_with fail
          refine (H2.out _ ?_).mono ?_
          · exact (by repeat (first | exact Gr.refl _ | refine Gr.alloc ?_ | refine Gr.drew ?_ | refine Gr.trans ?_ (by assumption)))
          rintro e2 w2 ⟨rfl, hg2⟩
          have B2 := B1.gr hg2
          have c0 := B2.at_ 0 _ rfl
          have c1 := B2.at_ 1 _ rfl
          have c2 := B2.at_ 2 _ rfl
          have c3 := B2.at_ 3 _ rfl
          have c4 := B2.at_ 4 _ rfl
          have c5 := B2.at_ 5 _ rfl
          have c6 := B2.at_ 6 _ rfl
          have c7 := B2.at_ 7 _ rfl
          have c8 := B2.at_ 8 _ rfl
          have c9 := B2.at_ 9 _ rfl
          have c10 := B2.at_ 10 _ rfl
          have c11 := B2.at_ 11 _ rfl
          have clt := B2.lt
          go_wp2
          go_ret
          exact ⟨by rw [HE.out]; rfl, (by repeat (first | exact Gr.refl _ | refine Gr.alloc ?_ | refine Gr.drew ?_ | refine Gr.trans ?_ (by assumption)))⟩
        | true =>
          cases b3 with
          | false =>
            simp only [Bool.and_false] at HE
            go_enter Tryz.func18, Tryz.ntmps18
            go_wp2_with fail
            refine (H0.out _ ?_).mono ?_
            · exact (by repeat (first | exact Gr.refl _ | refine Gr.alloc ?_ | refine Gr.drew ?_ | refine Gr.trans ?_ (by assumption)))
            rintro e0 w0 ⟨rfl, hg0⟩
            have B0 := (Cs.new w [.int .i64 fr, .int .i64 tx, .int .i64 ep, .int .i64 sq, .int .i64 ae, .int .i64 ac, .int .i64 k, .int .i64 r, .int .i64 n, .slice ad L.length cap, .string d, .int .i64 y] 39 _ rfl).gr hg0
            have c0 := B0.at_ 0 _ rfl
            have c1 := B0.at_ 1 _ rfl
            have c2 := B0.at_ 2 _ rfl
            have c3 := B0.at_ 3 _ rfl
            have c4 := B0.at_ 4 _ rfl
            have c5 := B0.at_ 5 _ rfl
            have c6 := B0.at_ 6 _ rfl
            have c7 := B0.at_ 7 _ rfl
            have c8 := B0.at_ 8 _ rfl
            have c9 := B0.at_ 9 _ rfl
            have c10 := B0.at_ 10 _ rfl
            have c11 := B0.at_ 11 _ rfl
            have clt := B0.lt
            go_wp2_with fail
            refine (H1.out _ ?_).mono ?_
            · exact (by repeat (first | exact Gr.refl _ | refine Gr.alloc ?_ | refine Gr.drew ?_ | refine Gr.trans ?_ (by assumption)))
            rintro e1 w1 ⟨rfl, hg1⟩
            have B1 := B0.gr hg1
            have c0 := B1.at_ 0 _ rfl
            have c1 := B1.at_ 1 _ rfl
            have c2 := B1.at_ 2 _ rfl
            have c3 := B1.at_ 3 _ rfl
            have c4 := B1.at_ 4 _ rfl
            have c5 := B1.at_ 5 _ rfl
            have c6 := B1.at_ 6 _ rfl
            have c7 := B1.at_ 7 _ rfl
            have c8 := B1.at_ 8 _ rfl
            have c9 := B1.at_ 9 _ rfl
            have c10 := B1.at_ 10 _ rfl
            have c11 := B1.at_ 11 _ rfl
            have clt := B1.lt
            go_wp2_with fail
            refine (H2.out _ ?_).mono ?_
            · exact (by repeat (first | exact Gr.refl _ | refine Gr.alloc ?_ | refine Gr.drew ?_ | refine Gr.trans ?_ (by assumption)))
            rintro e2 w2 ⟨rfl, hg2⟩
            have B2 := B1.gr hg2
            have c0 := B2.at_ 0 _ rfl
            have c1 := B2.at_ 1 _ rfl
            have c2 := B2.at_ 2 _ rfl
            have c3 := B2.at_ 3 _ rfl
            have c4 := B2.at_ 4 _ rfl
            have c5 := B2.at_ 5 _ rfl
            have c6 := B2.at_ 6 _ rfl
            have c7 := B2.at_ 7 _ rfl
            have c8 := B2.at_ 8 _ rfl
            have c9 := B2.at_ 9 _ rfl
            have c10 := B2.at_ 10 _ rfl
            have c11 := B2.at_ 11 _ rfl
            have clt := B2.lt
            go_wp2_with fail
            refine (H3.out _ ?_).mono ?_
            · exact (by repeat (first | exact Gr.refl _ | refine Gr.alloc ?_ | refine Gr.drew ?_ | refine Gr.trans ?_ (by assumption)))
            rintro e3 w3 ⟨rfl, hg3⟩
            have B3 := B2.gr hg3
            have c0 := B3.at_ 0 _ rfl
            have c1 := B3.at_ 1 _ rfl
            have c2 := B3.at_ 2 _ rfl
            have c3 := B3.at_ 3 _ rfl
            have c4 := B3.at_ 4 _ rfl
            have c5 := B3.at_ 5 _ rfl
            have c6 := B3.at_ 6 _ rfl
            have c7 := B3.at_ 7 _ rfl
            have c8 := B3.at_ 8 _ rfl
            have c9 := B3.at_ 9 _ rfl
            have c10 := B3.at_ 10 _ rfl
            have c11 := B3.at_ 11 _ rfl
            have clt := B3.lt
            go_wp2
            go_ret
            exact ⟨by rw [HE.out]; rfl, (by repeat (first | exact Gr.refl _ | refine Gr.alloc ?_ | refine Gr.drew ?_ | refine Gr.trans ?_ (by assumption)))⟩
          | true =>
            simp only [Bool.and_self] at HE
            go_enter Tryz.func18, Tryz.ntmps18
            go_wp2_with fail
            refine (H0.out _ ?_).mono ?_
            · exact (by repeat (first | exact Gr.refl _ | refine Gr.alloc ?_ | refine Gr.drew ?_ | refine Gr.trans ?_ (by assumption)))
            rintro e0 w0 ⟨rfl, hg0⟩
            have B0 := (Cs.new w [.int .i64 fr, .int .i64 tx, .int .i64 ep, .int .i64 sq, .int .i64 ae, .int .i64 ac, .int .i64 k, .int .i64 r, .int .i64 n, .slice ad L.length cap, .string d, .int .i64 y] 39 _ rfl).gr hg0
            have c0 := B0.at_ 0 _ rfl
            have c1 := B0.at_ 1 _ rfl
            have c2 := B0.at_ 2 _ rfl
            have c3 := B0.at_ 3 _ rfl
            have c4 := B0.at_ 4 _ rfl
            have c5 := B0.at_ 5 _ rfl
            have c6 := B0.at_ 6 _ rfl
            have c7 := B0.at_ 7 _ rfl
            have c8 := B0.at_ 8 _ rfl
            have c9 := B0.at_ 9 _ rfl
            have c10 := B0.at_ 10 _ rfl
            have c11 := B0.at_ 11 _ rfl
            have clt := B0.lt
            go_wp2_with fail
            refine (H1.out _ ?_).mono ?_
            · exact (by repeat (first | exact Gr.refl _ | refine Gr.alloc ?_ | refine Gr.drew ?_ | refine Gr.trans ?_ (by assumption)))
            rintro e1 w1 ⟨rfl, hg1⟩
            have B1 := B0.gr hg1
            have c0 := B1.at_ 0 _ rfl
            have c1 := B1.at_ 1 _ rfl
            have c2 := B1.at_ 2 _ rfl
            have c3 := B1.at_ 3 _ rfl
            have c4 := B1.at_ 4 _ rfl
            have c5 := B1.at_ 5 _ rfl
            have c6 := B1.at_ 6 _ rfl
            have c7 := B1.at_ 7 _ rfl
            have c8 := B1.at_ 8 _ rfl
            have c9 := B1.at_ 9 _ rfl
            have c10 := B1.at_ 10 _ rfl
            have c11 := B1.at_ 11 _ rfl
            have clt := B1.lt
            go_wp2_with fail
            refine (H2.out _ ?_).mono ?_
            · exact (by repeat (first | exact Gr.refl _ | refine Gr.alloc ?_ | refine Gr.drew ?_ | refine Gr.trans ?_ (by assumption)))
            rintro e2 w2 ⟨rfl, hg2⟩
            have B2 := B1.gr hg2
            have c0 := B2.at_ 0 _ rfl
            have c1 := B2.at_ 1 _ rfl
            have c2 := B2.at_ 2 _ rfl
            have c3 := B2.at_ 3 _ rfl
            have c4 := B2.at_ 4 _ rfl
            have c5 := B2.at_ 5 _ rfl
            have c6 := B2.at_ 6 _ rfl
            have c7 := B2.at_ 7 _ rfl
            have c8 := B2.at_ 8 _ rfl
            have c9 := B2.at_ 9 _ rfl
            have c10 := B2.at_ 10 _ rfl
            have c11 := B2.at_ 11 _ rfl
            have clt := B2.lt
            go_wp2_with fail
            refine (H3.out _ ?_).mono ?_
            · exact (by repeat (first | exact Gr.refl _ | refine Gr.alloc ?_ | refine Gr.drew ?_ | refine Gr.trans ?_ (by assumption)))
            rintro e3 w3 ⟨rfl, hg3⟩
            have B3 := B2.gr hg3
            have c0 := B3.at_ 0 _ rfl
            have c1 := B3.at_ 1 _ rfl
            have c2 := B3.at_ 2 _ rfl
            have c3 := B3.at_ 3 _ rfl
            have c4 := B3.at_ 4 _ rfl
            have c5 := B3.at_ 5 _ rfl
            have c6 := B3.at_ 6 _ rfl
            have c7 := B3.at_ 7 _ rfl
            have c8 := B3.at_ 8 _ rfl
            have c9 := B3.at_ 9 _ rfl
            have c10 := B3.at_ 10 _ rfl
            have c11 := B3.at_ 11 _ rfl
            have clt := B3.lt
            go_wp2
            go_ret
            exact ⟨by rw [HE.out]; rfl, (by repeat (first | exact Gr.refl _ | refine Gr.alloc ?_ | refine Gr.drew ?_ | refine Gr.trans ?_ (by assumption)))⟩
end Go.Proofs.YtcmbppjfpdkblaaGreatDoor
