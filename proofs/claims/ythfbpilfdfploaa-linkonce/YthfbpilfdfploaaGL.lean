/- Parts of these proofs, laid together. -/
import Derived.Test.YthfbpilfdfploaaGF
import Derived.Test.YthfbpilfdfploaaGK
import Derived.Test.YthfbpilfdfploaaGJ
import Derived.Test.YthfbpilfdfploaaGI
namespace Go.Proofs.Ythfbpilfdfploaa
open Go.RowKit

set_option maxHeartbeats 4000000 in
set_option maxRecDepth 100000 in
theorem noteFits_any (fr tx ep sq ae ac k r n : Int) (L : List (Int × Int)) (d : ByteArray) (y : Int) (ad : Option Addr) (cap : Nat) (w : World) (hL : HopsAt w ad L) (hn : L.length ≤ 9223372036854775807) (hd : d.size ≤ 9223372036854775807) (hc : L.length ≤ cap) :
    Calls Try.prog 47 #[.agg #[.int .i64 fr, .int .i64 tx, .int .i64 ep, .int .i64 sq, .int .i64 ae, .int .i64 ac, .int .i64 k, .int .i64 r, .int .i64 n, .slice ad L.length cap, .string d, .int .i64 y]] w fun e w' => e = .returned (.bool (Nt.fnB ⟨fr, tx, ep, sq, ae, ac, ⟨k, r, n, L, d, y⟩⟩)) ∧ Gr w w' := by
  have H0 : Hid (∀ w', Calls Try.prog 72 #[.agg #[.int .i64 k, .int .i64 r, .int .i64 n, .slice ad L.length cap, .string d, .int .i64 y]] w' fun e w2 => e = .returned (.bool (Nt.emB ⟨k, r, n, L, d, y⟩)) ∧ Gr w' w2) := fun w' => isEmpty_any k r n L d y ad cap w'
  have H1 : Hid (∀ w', Gr w w' → Calls Try.prog 39 #[.agg #[.int .i64 k, .int .i64 r, .int .i64 n, .slice ad L.length cap, .string d, .int .i64 y]] w' fun e w2 => e = .returned (.tuple #[.int .i64 (Nt.ends1 ⟨k, r, n, L, d, y⟩), .int .i64 (Nt.ends2 ⟨k, r, n, L, d, y⟩)]) ∧ Gr w' w2) := fun w' g => nEnds_any k r n L d y ad cap w' (hL.gr g) hn hd hc
  have H2 : Hid (∀ w', Gr w w' → Calls Try.prog 58 #[.agg #[.int .i64 k, .int .i64 r, .int .i64 n, .slice ad L.length cap, .string d, .int .i64 y]] w' fun e w2 => e = .returned (.int .i64 (if Nt.ntB ⟨k, r, n, L, d, y⟩ = true then 0 else 130)) ∧ Gr w' w2) := fun w' g => nCheck_any k r n L d y ad cap w' (hL.gr g) hn hd
  have HE : Hid (Nt.fnB ⟨fr, tx, ep, sq, ae, ac, ⟨k, r, n, L, d, y⟩⟩ = if sq = 0 then Nt.emB ⟨k, r, n, L, d, y⟩ else (Nt.ntB ⟨k, r, n, L, d, y⟩ && decide (Nt.ends1 ⟨k, r, n, L, d, y⟩ = fr) && decide (Nt.ends2 ⟨k, r, n, L, d, y⟩ = tx))) := rfl
  generalize Nt.fnB ⟨fr, tx, ep, sq, ae, ac, ⟨k, r, n, L, d, y⟩⟩ = R at *
  generalize Nt.emB ⟨k, r, n, L, d, y⟩ = em at *
  generalize Nt.ends1 ⟨k, r, n, L, d, y⟩ = E1 at *
  generalize Nt.ends2 ⟨k, r, n, L, d, y⟩ = E2 at *
  generalize Nt.ntB ⟨k, r, n, L, d, y⟩ = bn at *
  clear hL hn hd hc
  by_cases hs : sq = 0
  · rw [if_pos hs] at HE
    subst hs
    go_enter Try.func47, Try.ntmps47
    go_wp2_with fail
    refine (H0.out _).mono ?_
    rintro e1 w1 ⟨rfl, hg1⟩
    go_wp2
    go_ret
    exact ⟨by rw [HE.out]; rfl, (by repeat(first|exact Gr.r _|refine Gr.a ?_|refine Gr.d ?_|refine Gr.t ?_ (by assumption)))⟩
  · rw [if_neg hs] at HE
    have hs' : (sq == 0) = false := by simpa using hs
    cases bn with
    | false =>
      rw [show (if false = true then (0 : Int) else 130) = 130 from rfl] at H2
      rw [Bool.false_and, Bool.false_and] at HE
      go_enter Try.func47, Try.ntmps47
      go_wp2_with fail
      refine (H1.out _ ?_).mono ?_
      · exact (by repeat(first|exact Gr.r _|refine Gr.a ?_|refine Gr.d ?_|refine Gr.t ?_ (by assumption)))
      rintro e1 w1 ⟨rfl, hg1⟩
      have B1 := (Cs.new w [.int .i64 fr, .int .i64 tx, .int .i64 ep, .int .i64 sq, .int .i64 ae, .int .i64 ac, .int .i64 k, .int .i64 r, .int .i64 n, .slice ad L.length cap, .string d, .int .i64 y] 28 _ rfl).gr hg1
      have c0 := B1.at_ 0 _ rfl
      have c1 := B1.at_ 1 _ rfl
      have c2 := B1.at_ 2 _ rfl
      have c3 := B1.at_ 3 _ rfl
      have c4 := B1.at_ 4 _ rfl
      have c5 := B1.at_ 5 _ rfl
      have c6 := B1.at_ 6 _ rfl
      have c7 := B1.at_ 7 _ rfl
      have c8 := B1.at_ 8 _ rfl
      have c9 := B1.at_ 9 _ rfl
      have c10 := B1.at_ 10 _ rfl
      have c11 := B1.at_ 11 _ rfl
      have clt := B1.lt
      go_wp2_with fail
      refine (H2.out _ ?_).mono ?_
      · exact (by repeat(first|exact Gr.r _|refine Gr.a ?_|refine Gr.d ?_|refine Gr.t ?_ (by assumption)))
      rintro e2 w2 ⟨rfl, hg2⟩
      have B2 := B1.gr hg2
      have c0 := B2.at_ 0 _ rfl
      have c1 := B2.at_ 1 _ rfl
      have c2 := B2.at_ 2 _ rfl
      have c3 := B2.at_ 3 _ rfl
      have c4 := B2.at_ 4 _ rfl
      have c5 := B2.at_ 5 _ rfl
      have c6 := B2.at_ 6 _ rfl
      have c7 := B2.at_ 7 _ rfl
      have c8 := B2.at_ 8 _ rfl
      have c9 := B2.at_ 9 _ rfl
      have c10 := B2.at_ 10 _ rfl
      have c11 := B2.at_ 11 _ rfl
      have clt := B2.lt
      go_wp2
      go_ret
      exact ⟨by rw [HE.out]; rfl, (by repeat(first|exact Gr.r _|refine Gr.a ?_|refine Gr.d ?_|refine Gr.t ?_ (by assumption)))⟩
    | true =>
      rw [show (if true = true then (0 : Int) else 130) = 0 from rfl] at H2
      rw [Bool.true_and] at HE
      by_cases h1 : E1 = fr
      · subst h1
        rw [decide_eq_true rfl, Bool.true_and] at HE
        have hd2 : (E2 == tx) = decide (E2 = tx) := rfl
        rw [← hd2] at HE
        clear hd2
        go_enter Try.func47, Try.ntmps47
        go_wp2_with fail
        refine (H1.out _ ?_).mono ?_
        · exact (by repeat(first|exact Gr.r _|refine Gr.a ?_|refine Gr.d ?_|refine Gr.t ?_ (by assumption)))
        rintro e1 w1 ⟨rfl, hg1⟩
        have B1 := (Cs.new w [.int .i64 E1, .int .i64 tx, .int .i64 ep, .int .i64 sq, .int .i64 ae, .int .i64 ac, .int .i64 k, .int .i64 r, .int .i64 n, .slice ad L.length cap, .string d, .int .i64 y] 28 _ rfl).gr hg1
        have c0 := B1.at_ 0 _ rfl
        have c1 := B1.at_ 1 _ rfl
        have c2 := B1.at_ 2 _ rfl
        have c3 := B1.at_ 3 _ rfl
        have c4 := B1.at_ 4 _ rfl
        have c5 := B1.at_ 5 _ rfl
        have c6 := B1.at_ 6 _ rfl
        have c7 := B1.at_ 7 _ rfl
        have c8 := B1.at_ 8 _ rfl
        have c9 := B1.at_ 9 _ rfl
        have c10 := B1.at_ 10 _ rfl
        have c11 := B1.at_ 11 _ rfl
        have clt := B1.lt
        go_wp2_with fail
        refine (H2.out _ ?_).mono ?_
        · exact (by repeat(first|exact Gr.r _|refine Gr.a ?_|refine Gr.d ?_|refine Gr.t ?_ (by assumption)))
        rintro e2 w2 ⟨rfl, hg2⟩
        have B2 := B1.gr hg2
        have c0 := B2.at_ 0 _ rfl
        have c1 := B2.at_ 1 _ rfl
        have c2 := B2.at_ 2 _ rfl
        have c3 := B2.at_ 3 _ rfl
        have c4 := B2.at_ 4 _ rfl
        have c5 := B2.at_ 5 _ rfl
        have c6 := B2.at_ 6 _ rfl
        have c7 := B2.at_ 7 _ rfl
        have c8 := B2.at_ 8 _ rfl
        have c9 := B2.at_ 9 _ rfl
        have c10 := B2.at_ 10 _ rfl
        have c11 := B2.at_ 11 _ rfl
        have clt := B2.lt
        go_wp2
        go_ret
        exact ⟨by rw [HE.out]; rfl, (by repeat(first|exact Gr.r _|refine Gr.a ?_|refine Gr.d ?_|refine Gr.t ?_ (by assumption)))⟩
      · rw [decide_eq_false h1, Bool.false_and] at HE
        have h1b : (E1 == fr) = false := by simpa using h1
        go_enter Try.func47, Try.ntmps47
        go_wp2_with fail
        refine (H1.out _ ?_).mono ?_
        · exact (by repeat(first|exact Gr.r _|refine Gr.a ?_|refine Gr.d ?_|refine Gr.t ?_ (by assumption)))
        rintro e1 w1 ⟨rfl, hg1⟩
        have B1 := (Cs.new w [.int .i64 fr, .int .i64 tx, .int .i64 ep, .int .i64 sq, .int .i64 ae, .int .i64 ac, .int .i64 k, .int .i64 r, .int .i64 n, .slice ad L.length cap, .string d, .int .i64 y] 28 _ rfl).gr hg1
        have c0 := B1.at_ 0 _ rfl
        have c1 := B1.at_ 1 _ rfl
        have c2 := B1.at_ 2 _ rfl
        have c3 := B1.at_ 3 _ rfl
        have c4 := B1.at_ 4 _ rfl
        have c5 := B1.at_ 5 _ rfl
        have c6 := B1.at_ 6 _ rfl
        have c7 := B1.at_ 7 _ rfl
        have c8 := B1.at_ 8 _ rfl
        have c9 := B1.at_ 9 _ rfl
        have c10 := B1.at_ 10 _ rfl
        have c11 := B1.at_ 11 _ rfl
        have clt := B1.lt
        go_wp2_with fail
        refine (H2.out _ ?_).mono ?_
        · exact (by repeat(first|exact Gr.r _|refine Gr.a ?_|refine Gr.d ?_|refine Gr.t ?_ (by assumption)))
        rintro e2 w2 ⟨rfl, hg2⟩
        have B2 := B1.gr hg2
        have c0 := B2.at_ 0 _ rfl
        have c1 := B2.at_ 1 _ rfl
        have c2 := B2.at_ 2 _ rfl
        have c3 := B2.at_ 3 _ rfl
        have c4 := B2.at_ 4 _ rfl
        have c5 := B2.at_ 5 _ rfl
        have c6 := B2.at_ 6 _ rfl
        have c7 := B2.at_ 7 _ rfl
        have c8 := B2.at_ 8 _ rfl
        have c9 := B2.at_ 9 _ rfl
        have c10 := B2.at_ 10 _ rfl
        have c11 := B2.at_ 11 _ rfl
        have clt := B2.lt
        go_wp2
        go_ret
        exact ⟨by rw [HE.out]; rfl, (by repeat(first|exact Gr.r _|refine Gr.a ?_|refine Gr.d ?_|refine Gr.t ?_ (by assumption)))⟩

theorem fr_parts (fr tx ep sq ae ac k r n : Int) (L : List (Int × Int)) (d : ByteArray) (y : Int) : Nt.frE ⟨fr, tx, ep, sq, ae, ac, ⟨k, r, n, L, d, y⟩⟩ = if (Nt.inB fr 0 15 && Nt.inB tx 0 15 && decide (fr ≠ tx) && Nt.cnB ⟨fr, tx, ep, sq, ae, ac, ⟨k, r, n, L, d, y⟩⟩ && Nt.fnB ⟨fr, tx, ep, sq, ae, ac, ⟨k, r, n, L, d, y⟩⟩) = true then 0 else 130 := rfl

set_option maxHeartbeats 4000000 in
set_option maxRecDepth 100000 in
theorem nFrame_any (fr tx ep sq ae ac k r n : Int) (L : List (Int × Int)) (d : ByteArray) (y : Int) (ad : Option Addr) (cap : Nat) (w : World) (hL : HopsAt w ad L) (hn : L.length ≤ 9223372036854775807) (hd : d.size ≤ 9223372036854775807) (hc : L.length ≤ cap) :
    Calls Try.prog 34 #[.agg #[.int .i64 fr, .int .i64 tx, .int .i64 ep, .int .i64 sq, .int .i64 ae, .int .i64 ac, .int .i64 k, .int .i64 r, .int .i64 n, .slice ad L.length cap, .string d, .int .i64 y]] w fun e w' => e = .returned (.int .i64 (Nt.frE ⟨fr, tx, ep, sq, ae, ac, ⟨k, r, n, L, d, y⟩⟩)) ∧ Gr w w' := by
  have H0 : Hid (∀ w', Gr w w' → Calls Try.prog 45 #[.int .i64 fr] w' fun e w2 => e = .returned (.bool (Nt.inB fr 0 15)) ∧ Gr w' w2) := fun w' _ => (isOrg_any fr w').mono (by rintro e w2 ⟨rfl, rfl⟩; exact ⟨rfl, Gr.refl _⟩)
  have H1 : Hid (∀ w', Gr w w' → Calls Try.prog 45 #[.int .i64 tx] w' fun e w2 => e = .returned (.bool (Nt.inB tx 0 15)) ∧ Gr w' w2) := fun w' _ => (isOrg_any tx w').mono (by rintro e w2 ⟨rfl, rfl⟩; exact ⟨rfl, Gr.refl _⟩)
  have H2 : Hid (∀ w', Gr w w' → Calls Try.prog 46 #[.agg #[.int .i64 fr, .int .i64 tx, .int .i64 ep, .int .i64 sq, .int .i64 ae, .int .i64 ac, .int .i64 k, .int .i64 r, .int .i64 n, .slice ad L.length cap, .string d, .int .i64 y]] w' fun e w2 => e = .returned (.bool (Nt.cnB ⟨fr, tx, ep, sq, ae, ac, ⟨k, r, n, L, d, y⟩⟩)) ∧ Gr w' w2) := fun w' _ => countsFit_any fr tx ep sq ae ac k r n L d y ad cap w'
  have H3 : Hid (∀ w', Gr w w' → Calls Try.prog 47 #[.agg #[.int .i64 fr, .int .i64 tx, .int .i64 ep, .int .i64 sq, .int .i64 ae, .int .i64 ac, .int .i64 k, .int .i64 r, .int .i64 n, .slice ad L.length cap, .string d, .int .i64 y]] w' fun e w2 => e = .returned (.bool (Nt.fnB ⟨fr, tx, ep, sq, ae, ac, ⟨k, r, n, L, d, y⟩⟩)) ∧ Gr w' w2) := fun w' g => noteFits_any fr tx ep sq ae ac k r n L d y ad cap w' (hL.gr g) hn hd hc
  have HE : Hid (Nt.frE ⟨fr, tx, ep, sq, ae, ac, ⟨k, r, n, L, d, y⟩⟩ = _) := fr_parts fr tx ep sq ae ac k r n L d y
  generalize Nt.frE ⟨fr, tx, ep, sq, ae, ac, ⟨k, r, n, L, d, y⟩⟩ = R at *
  generalize Nt.cnB ⟨fr, tx, ep, sq, ae, ac, ⟨k, r, n, L, d, y⟩⟩ = b2 at *
  generalize Nt.fnB ⟨fr, tx, ep, sq, ae, ac, ⟨k, r, n, L, d, y⟩⟩ = b3 at *
  generalize Nt.inB fr 0 15 = b0 at *
  generalize Nt.inB tx 0 15 = b1 at *
  clear hL hn hd hc
  cases b0 with
  | false =>
    simp only [Bool.false_and] at HE
    go_enter Try.func34, Try.ntmps34
    go_wp2_with fail
    refine (H0.out _ ?_).mono ?_
    · exact (by repeat(first|exact Gr.r _|refine Gr.a ?_|refine Gr.d ?_|refine Gr.t ?_ (by assumption)))
    rintro e0 w0 ⟨rfl, hg0⟩
    have B0 := (Cs.new w [.int .i64 fr, .int .i64 tx, .int .i64 ep, .int .i64 sq, .int .i64 ae, .int .i64 ac, .int .i64 k, .int .i64 r, .int .i64 n, .slice ad L.length cap, .string d, .int .i64 y] 28 _ rfl).gr hg0
    have c0 := B0.at_ 0 _ rfl
    have c1 := B0.at_ 1 _ rfl
    have c2 := B0.at_ 2 _ rfl
    have c3 := B0.at_ 3 _ rfl
    have c4 := B0.at_ 4 _ rfl
    have c5 := B0.at_ 5 _ rfl
    have c6 := B0.at_ 6 _ rfl
    have c7 := B0.at_ 7 _ rfl
    have c8 := B0.at_ 8 _ rfl
    have c9 := B0.at_ 9 _ rfl
    have c10 := B0.at_ 10 _ rfl
    have c11 := B0.at_ 11 _ rfl
    have clt := B0.lt
    go_wp2
    go_ret
    exact ⟨by rw [HE.out]; rfl, (by repeat(first|exact Gr.r _|refine Gr.a ?_|refine Gr.d ?_|refine Gr.t ?_ (by assumption)))⟩
  | true =>
    cases b1 with
    | false =>
      simp only [Bool.false_and, Bool.and_false] at HE
      go_enter Try.func34, Try.ntmps34
      go_wp2_with fail
      refine (H0.out _ ?_).mono ?_
      · exact (by repeat(first|exact Gr.r _|refine Gr.a ?_|refine Gr.d ?_|refine Gr.t ?_ (by assumption)))
      rintro e0 w0 ⟨rfl, hg0⟩
      have B0 := (Cs.new w [.int .i64 fr, .int .i64 tx, .int .i64 ep, .int .i64 sq, .int .i64 ae, .int .i64 ac, .int .i64 k, .int .i64 r, .int .i64 n, .slice ad L.length cap, .string d, .int .i64 y] 28 _ rfl).gr hg0
      have c0 := B0.at_ 0 _ rfl
      have c1 := B0.at_ 1 _ rfl
      have c2 := B0.at_ 2 _ rfl
      have c3 := B0.at_ 3 _ rfl
      have c4 := B0.at_ 4 _ rfl
      have c5 := B0.at_ 5 _ rfl
      have c6 := B0.at_ 6 _ rfl
      have c7 := B0.at_ 7 _ rfl
      have c8 := B0.at_ 8 _ rfl
      have c9 := B0.at_ 9 _ rfl
      have c10 := B0.at_ 10 _ rfl
      have c11 := B0.at_ 11 _ rfl
      have clt := B0.lt
      go_wp2_with fail
      refine (H1.out _ ?_).mono ?_
      · exact (by repeat(first|exact Gr.r _|refine Gr.a ?_|refine Gr.d ?_|refine Gr.t ?_ (by assumption)))
      rintro e1 w1 ⟨rfl, hg1⟩
      have B1 := B0.gr hg1
      have c0 := B1.at_ 0 _ rfl
      have c1 := B1.at_ 1 _ rfl
      have c2 := B1.at_ 2 _ rfl
      have c3 := B1.at_ 3 _ rfl
      have c4 := B1.at_ 4 _ rfl
      have c5 := B1.at_ 5 _ rfl
      have c6 := B1.at_ 6 _ rfl
      have c7 := B1.at_ 7 _ rfl
      have c8 := B1.at_ 8 _ rfl
      have c9 := B1.at_ 9 _ rfl
      have c10 := B1.at_ 10 _ rfl
      have c11 := B1.at_ 11 _ rfl
      have clt := B1.lt
      go_wp2
      go_ret
      exact ⟨by rw [HE.out]; rfl, (by repeat(first|exact Gr.r _|refine Gr.a ?_|refine Gr.d ?_|refine Gr.t ?_ (by assumption)))⟩
    | true =>
      by_cases hq : fr = tx
      · subst hq
        simp only [ne_eq, not_true_eq_false, decide_false, Bool.and_false, Bool.false_and] at HE
        go_enter Try.func34, Try.ntmps34
        go_wp2_with fail
        refine (H0.out _ ?_).mono ?_
        · exact (by repeat(first|exact Gr.r _|refine Gr.a ?_|refine Gr.d ?_|refine Gr.t ?_ (by assumption)))
        rintro e0 w0 ⟨rfl, hg0⟩
        have B0 := (Cs.new w [.int .i64 fr, .int .i64 fr, .int .i64 ep, .int .i64 sq, .int .i64 ae, .int .i64 ac, .int .i64 k, .int .i64 r, .int .i64 n, .slice ad L.length cap, .string d, .int .i64 y] 28 _ rfl).gr hg0
        have c0 := B0.at_ 0 _ rfl
        have c1 := B0.at_ 1 _ rfl
        have c2 := B0.at_ 2 _ rfl
        have c3 := B0.at_ 3 _ rfl
        have c4 := B0.at_ 4 _ rfl
        have c5 := B0.at_ 5 _ rfl
        have c6 := B0.at_ 6 _ rfl
        have c7 := B0.at_ 7 _ rfl
        have c8 := B0.at_ 8 _ rfl
        have c9 := B0.at_ 9 _ rfl
        have c10 := B0.at_ 10 _ rfl
        have c11 := B0.at_ 11 _ rfl
        have clt := B0.lt
        go_wp2_with fail
        refine (H1.out _ ?_).mono ?_
        · exact (by repeat(first|exact Gr.r _|refine Gr.a ?_|refine Gr.d ?_|refine Gr.t ?_ (by assumption)))
        rintro e1 w1 ⟨rfl, hg1⟩
        have B1 := B0.gr hg1
        have c0 := B1.at_ 0 _ rfl
        have c1 := B1.at_ 1 _ rfl
        have c2 := B1.at_ 2 _ rfl
        have c3 := B1.at_ 3 _ rfl
        have c4 := B1.at_ 4 _ rfl
        have c5 := B1.at_ 5 _ rfl
        have c6 := B1.at_ 6 _ rfl
        have c7 := B1.at_ 7 _ rfl
        have c8 := B1.at_ 8 _ rfl
        have c9 := B1.at_ 9 _ rfl
        have c10 := B1.at_ 10 _ rfl
        have c11 := B1.at_ 11 _ rfl
        have clt := B1.lt
        go_wp2
        go_ret
        exact ⟨by rw [HE.out]; rfl, (by repeat(first|exact Gr.r _|refine Gr.a ?_|refine Gr.d ?_|refine Gr.t ?_ (by assumption)))⟩
      · have hq2 : (fr == tx) = false := by simpa using hq
        rw [decide_eq_true (show fr ≠ tx from hq)] at HE
        clear hq
        cases b2 with
        | false =>
          simp only [Bool.false_and, Bool.and_false] at HE
          go_enter Try.func34, Try.ntmps34
          go_wp2_with fail
          refine (H0.out _ ?_).mono ?_
          · exact (by repeat(first|exact Gr.r _|refine Gr.a ?_|refine Gr.d ?_|refine Gr.t ?_ (by assumption)))
          rintro e0 w0 ⟨rfl, hg0⟩
          have B0 := (Cs.new w [.int .i64 fr, .int .i64 tx, .int .i64 ep, .int .i64 sq, .int .i64 ae, .int .i64 ac, .int .i64 k, .int .i64 r, .int .i64 n, .slice ad L.length cap, .string d, .int .i64 y] 28 _ rfl).gr hg0
          have c0 := B0.at_ 0 _ rfl
          have c1 := B0.at_ 1 _ rfl
          have c2 := B0.at_ 2 _ rfl
          have c3 := B0.at_ 3 _ rfl
          have c4 := B0.at_ 4 _ rfl
          have c5 := B0.at_ 5 _ rfl
          have c6 := B0.at_ 6 _ rfl
          have c7 := B0.at_ 7 _ rfl
          have c8 := B0.at_ 8 _ rfl
          have c9 := B0.at_ 9 _ rfl
          have c10 := B0.at_ 10 _ rfl
          have c11 := B0.at_ 11 _ rfl
          have clt := B0.lt
          go_wp2_with fail
          refine (H1.out _ ?_).mono ?_
          · exact (by repeat(first|exact Gr.r _|refine Gr.a ?_|refine Gr.d ?_|refine Gr.t ?_ (by assumption)))
          rintro e1 w1 ⟨rfl, hg1⟩
          have B1 := B0.gr hg1
          have c0 := B1.at_ 0 _ rfl
          have c1 := B1.at_ 1 _ rfl
          have c2 := B1.at_ 2 _ rfl
          have c3 := B1.at_ 3 _ rfl
          have c4 := B1.at_ 4 _ rfl
          have c5 := B1.at_ 5 _ rfl
          have c6 := B1.at_ 6 _ rfl
          have c7 := B1.at_ 7 _ rfl
          have c8 := B1.at_ 8 _ rfl
          have c9 := B1.at_ 9 _ rfl
          have c10 := B1.at_ 10 _ rfl
          have c11 := B1.at_ 11 _ rfl
          have clt := B1.lt
          go_wp2_with fail
          refine (H2.out _ ?_).mono ?_
          · exact (by repeat(first|exact Gr.r _|refine Gr.a ?_|refine Gr.d ?_|refine Gr.t ?_ (by assumption)))
          rintro e2 w2 ⟨rfl, hg2⟩
          have B2 := B1.gr hg2
          have c0 := B2.at_ 0 _ rfl
          have c1 := B2.at_ 1 _ rfl
          have c2 := B2.at_ 2 _ rfl
          have c3 := B2.at_ 3 _ rfl
          have c4 := B2.at_ 4 _ rfl
          have c5 := B2.at_ 5 _ rfl
          have c6 := B2.at_ 6 _ rfl
          have c7 := B2.at_ 7 _ rfl
          have c8 := B2.at_ 8 _ rfl
          have c9 := B2.at_ 9 _ rfl
          have c10 := B2.at_ 10 _ rfl
          have c11 := B2.at_ 11 _ rfl
          have clt := B2.lt
          go_wp2
          go_ret
          exact ⟨by rw [HE.out]; rfl, (by repeat(first|exact Gr.r _|refine Gr.a ?_|refine Gr.d ?_|refine Gr.t ?_ (by assumption)))⟩
        | true =>
          cases b3 with
          | false =>
            simp only [Bool.and_false] at HE
            go_enter Try.func34, Try.ntmps34
            go_wp2_with fail
            refine (H0.out _ ?_).mono ?_
            · exact (by repeat(first|exact Gr.r _|refine Gr.a ?_|refine Gr.d ?_|refine Gr.t ?_ (by assumption)))
            rintro e0 w0 ⟨rfl, hg0⟩
            have B0 := (Cs.new w [.int .i64 fr, .int .i64 tx, .int .i64 ep, .int .i64 sq, .int .i64 ae, .int .i64 ac, .int .i64 k, .int .i64 r, .int .i64 n, .slice ad L.length cap, .string d, .int .i64 y] 28 _ rfl).gr hg0
            have c0 := B0.at_ 0 _ rfl
            have c1 := B0.at_ 1 _ rfl
            have c2 := B0.at_ 2 _ rfl
            have c3 := B0.at_ 3 _ rfl
            have c4 := B0.at_ 4 _ rfl
            have c5 := B0.at_ 5 _ rfl
            have c6 := B0.at_ 6 _ rfl
            have c7 := B0.at_ 7 _ rfl
            have c8 := B0.at_ 8 _ rfl
            have c9 := B0.at_ 9 _ rfl
            have c10 := B0.at_ 10 _ rfl
            have c11 := B0.at_ 11 _ rfl
            have clt := B0.lt
            go_wp2_with fail
            refine (H1.out _ ?_).mono ?_
            · exact (by repeat(first|exact Gr.r _|refine Gr.a ?_|refine Gr.d ?_|refine Gr.t ?_ (by assumption)))
            rintro e1 w1 ⟨rfl, hg1⟩
            have B1 := B0.gr hg1
            have c0 := B1.at_ 0 _ rfl
            have c1 := B1.at_ 1 _ rfl
            have c2 := B1.at_ 2 _ rfl
            have c3 := B1.at_ 3 _ rfl
            have c4 := B1.at_ 4 _ rfl
            have c5 := B1.at_ 5 _ rfl
            have c6 := B1.at_ 6 _ rfl
            have c7 := B1.at_ 7 _ rfl
            have c8 := B1.at_ 8 _ rfl
            have c9 := B1.at_ 9 _ rfl
            have c10 := B1.at_ 10 _ rfl
            have c11 := B1.at_ 11 _ rfl
            have clt := B1.lt
            go_wp2_with fail
            refine (H2.out _ ?_).mono ?_
            · exact (by repeat(first|exact Gr.r _|refine Gr.a ?_|refine Gr.d ?_|refine Gr.t ?_ (by assumption)))
            rintro e2 w2 ⟨rfl, hg2⟩
            have B2 := B1.gr hg2
            have c0 := B2.at_ 0 _ rfl
            have c1 := B2.at_ 1 _ rfl
            have c2 := B2.at_ 2 _ rfl
            have c3 := B2.at_ 3 _ rfl
            have c4 := B2.at_ 4 _ rfl
            have c5 := B2.at_ 5 _ rfl
            have c6 := B2.at_ 6 _ rfl
            have c7 := B2.at_ 7 _ rfl
            have c8 := B2.at_ 8 _ rfl
            have c9 := B2.at_ 9 _ rfl
            have c10 := B2.at_ 10 _ rfl
            have c11 := B2.at_ 11 _ rfl
            have clt := B2.lt
            go_wp2_with fail
            refine (H3.out _ ?_).mono ?_
            · exact (by repeat(first|exact Gr.r _|refine Gr.a ?_|refine Gr.d ?_|refine Gr.t ?_ (by assumption)))
            rintro e3 w3 ⟨rfl, hg3⟩
            have B3 := B2.gr hg3
            have c0 := B3.at_ 0 _ rfl
            have c1 := B3.at_ 1 _ rfl
            have c2 := B3.at_ 2 _ rfl
            have c3 := B3.at_ 3 _ rfl
            have c4 := B3.at_ 4 _ rfl
            have c5 := B3.at_ 5 _ rfl
            have c6 := B3.at_ 6 _ rfl
            have c7 := B3.at_ 7 _ rfl
            have c8 := B3.at_ 8 _ rfl
            have c9 := B3.at_ 9 _ rfl
            have c10 := B3.at_ 10 _ rfl
            have c11 := B3.at_ 11 _ rfl
            have clt := B3.lt
            go_wp2
            go_ret
            exact ⟨by rw [HE.out]; rfl, (by repeat(first|exact Gr.r _|refine Gr.a ?_|refine Gr.d ?_|refine Gr.t ?_ (by assumption)))⟩
          | true =>
            simp only [Bool.and_self] at HE
            go_enter Try.func34, Try.ntmps34
            go_wp2_with fail
            refine (H0.out _ ?_).mono ?_
            · exact (by repeat(first|exact Gr.r _|refine Gr.a ?_|refine Gr.d ?_|refine Gr.t ?_ (by assumption)))
            rintro e0 w0 ⟨rfl, hg0⟩
            have B0 := (Cs.new w [.int .i64 fr, .int .i64 tx, .int .i64 ep, .int .i64 sq, .int .i64 ae, .int .i64 ac, .int .i64 k, .int .i64 r, .int .i64 n, .slice ad L.length cap, .string d, .int .i64 y] 28 _ rfl).gr hg0
            have c0 := B0.at_ 0 _ rfl
            have c1 := B0.at_ 1 _ rfl
            have c2 := B0.at_ 2 _ rfl
            have c3 := B0.at_ 3 _ rfl
            have c4 := B0.at_ 4 _ rfl
            have c5 := B0.at_ 5 _ rfl
            have c6 := B0.at_ 6 _ rfl
            have c7 := B0.at_ 7 _ rfl
            have c8 := B0.at_ 8 _ rfl
            have c9 := B0.at_ 9 _ rfl
            have c10 := B0.at_ 10 _ rfl
            have c11 := B0.at_ 11 _ rfl
            have clt := B0.lt
            go_wp2_with fail
            refine (H1.out _ ?_).mono ?_
            · exact (by repeat(first|exact Gr.r _|refine Gr.a ?_|refine Gr.d ?_|refine Gr.t ?_ (by assumption)))
            rintro e1 w1 ⟨rfl, hg1⟩
            have B1 := B0.gr hg1
            have c0 := B1.at_ 0 _ rfl
            have c1 := B1.at_ 1 _ rfl
            have c2 := B1.at_ 2 _ rfl
            have c3 := B1.at_ 3 _ rfl
            have c4 := B1.at_ 4 _ rfl
            have c5 := B1.at_ 5 _ rfl
            have c6 := B1.at_ 6 _ rfl
            have c7 := B1.at_ 7 _ rfl
            have c8 := B1.at_ 8 _ rfl
            have c9 := B1.at_ 9 _ rfl
            have c10 := B1.at_ 10 _ rfl
            have c11 := B1.at_ 11 _ rfl
            have clt := B1.lt
            go_wp2_with fail
            refine (H2.out _ ?_).mono ?_
            · exact (by repeat(first|exact Gr.r _|refine Gr.a ?_|refine Gr.d ?_|refine Gr.t ?_ (by assumption)))
            rintro e2 w2 ⟨rfl, hg2⟩
            have B2 := B1.gr hg2
            have c0 := B2.at_ 0 _ rfl
            have c1 := B2.at_ 1 _ rfl
            have c2 := B2.at_ 2 _ rfl
            have c3 := B2.at_ 3 _ rfl
            have c4 := B2.at_ 4 _ rfl
            have c5 := B2.at_ 5 _ rfl
            have c6 := B2.at_ 6 _ rfl
            have c7 := B2.at_ 7 _ rfl
            have c8 := B2.at_ 8 _ rfl
            have c9 := B2.at_ 9 _ rfl
            have c10 := B2.at_ 10 _ rfl
            have c11 := B2.at_ 11 _ rfl
            have clt := B2.lt
            go_wp2_with fail
            refine (H3.out _ ?_).mono ?_
            · exact (by repeat(first|exact Gr.r _|refine Gr.a ?_|refine Gr.d ?_|refine Gr.t ?_ (by assumption)))
            rintro e3 w3 ⟨rfl, hg3⟩
            have B3 := B2.gr hg3
            have c0 := B3.at_ 0 _ rfl
            have c1 := B3.at_ 1 _ rfl
            have c2 := B3.at_ 2 _ rfl
            have c3 := B3.at_ 3 _ rfl
            have c4 := B3.at_ 4 _ rfl
            have c5 := B3.at_ 5 _ rfl
            have c6 := B3.at_ 6 _ rfl
            have c7 := B3.at_ 7 _ rfl
            have c8 := B3.at_ 8 _ rfl
            have c9 := B3.at_ 9 _ rfl
            have c10 := B3.at_ 10 _ rfl
            have c11 := B3.at_ 11 _ rfl
            have clt := B3.lt
            go_wp2
            go_ret
            exact ⟨by rw [HE.out]; rfl, (by repeat(first|exact Gr.r _|refine Gr.a ?_|refine Gr.d ?_|refine Gr.t ?_ (by assumption)))⟩
end Go.Proofs.Ythfbpilfdfploaa
namespace Go.Proofs.Ythfbpilfdfploaa
open Go.RowKit
open Lk (St)
open Wn (Wd)

variable {Z : Nat → Prop}
theorem zero_mn (w : World) : MnAt Z w (⟨Nt.zeroN, none, 0⟩ : Mn) := ⟨fun j hj => absurd hj (by simp [Nt.zeroN]), by simp [Nt.zeroN], by simp [Nt.zeroN], by decide, fun hn => absurd rfl hn⟩
/- what takeNote and Take answer -/
def TnR (Z : Nat → Prop) (g : Nat) (x : Nt) (r : Int × Bool × St Nx) (w : World) (e : Ending) (w' : World) : Prop :=
  ∃ a c, e = .returned (.tuple #[Mn.v ⟨if r.2.1 = true then x else Nt.zeroN, a, c⟩, .bool r.2.1, .int .i64 r.1]) ∧ MnAt Z w' ⟨if r.2.1 = true then x else Nt.zeroN, a, c⟩ ∧ PkAt Z w' g r.2.2 ∧ GB g w w'
theorem TnR.no {g : Nat} {x : Nt} {c : Int} {l : St Nx} {w w' : World} (h : PkAt Z w' g l) (hg : GB g w w') : TnR Z g x (c, false, l) w (.returned (.tuple #[.agg #[.int .i64 0, .int .i64 0, .int .i64 0, .slice none 0 0, .string ⟨#[]⟩, .int .i64 0], .bool false, .int .i64 c])) w' :=
  ⟨none, 0, rfl, zero_mn _, h, hg⟩
def lay1 (l : St Nx) (q : Int) : Int × Bool × St Nx :=
  if (Wn.take l.wn q).2.2 = 0 then (0, (Wn.take l.wn q).2.1, { l with wn := (Wn.take l.wn q).1 }) else ((Wn.take l.wn q).2.2, false, l)
theorem lay1_lay (l : St Nx) (q : Int) (h : l.ow = true) : lay1 l q = Lk.lay l q := by
  obtain ⟨me, wi, ep, kn, it, nx, wn, ow⟩ := l
  dsimp only at h
  subst h
  rfl
set_option maxHeartbeats 8000000 in
set_option maxRecDepth 100000 in
theorem kTakeNote_any (g : Nat) (l : St Nx) (q : Int) (m : Mn) (w : World) (h : PkAt Z w g l) (hF : Frs Z w) (hm : MnAt Z w m) (hn : m.x.L.length ≤ 1000) (hd : m.x.d.size ≤ 1000) :
    Calls Try.prog 23 #[.pointer (some ⟨g, 0, none⟩), .int .i64 q, m.v] w fun e w' => TnR Z g m.x (lay1 l q) w e w' := by
  have hgl := h.lt
  have hzg := h.nz
  have HZ : Hid (¬ Z g) := hzg
  have HY := Lib.hid (h.turn (Y := Bt Z (w.heap.size + 1)) (fun b hb hz => ⟨hz, by omega⟩) (fun k => hzg k.1))
  have HMy := Lib.hid (hm.turn (Y := Bt Z (w.heap.size + 1)) (fun b hb hz => ⟨hz, by omega⟩))
  have hFw := Lib.hid hF
  have HC : Hid (∀ w', MnAt (Bt Z (w.heap.size + 1)) w' m → Frs (Bt Z (w.heap.size + 1)) w' → Calls Try.prog 38 #[m.v] w' fun e w2 => CnR (Bt Z (w.heap.size + 1)) m w' e w2) := fun w' h1 h2 => kCopied_any m w' h2 h1 hn hd
  obtain ⟨a, c, E, a2, c2, h⟩ := h
  have HP : Hid (∀ w', Gr w w' → Calls Try.prog 37 #[wdV l.wn.low a2 l.wn.seen.length c2, .int .i64 q] w' fun e w2 => TkR w' w2 e (Wn.take l.wn q)) := fun w' k => take_any l.wn q a2 c2 w' (h.rw.wd.gr k)
  have HR : Hid (lay1 l q = if (Wn.take l.wn q).2.2 = 0 then (0, (Wn.take l.wn q).2.1, { l with wn := (Wn.take l.wn q).1 }) else ((Wn.take l.wn q).2.2, false, l)) := rfl
  have k6 := h.cs.at_ 6 _ rfl
  have k7 := h.cs.at_ 7 _ rfl
  generalize lay1 l q = LR at *
  generalize Wn.take l.wn q = R at *
  generalize l.wn.low = lo at *
  generalize l.wn.seen.length = ls at *
  unfold CnR at HC
  unfold TkR at HP
  clear h hF hm hn hd hzg
  obtain ⟨⟨k0, r, n, L, d, y⟩, ad2, cap2⟩ := m
  dsimp only [Mn.v] at *
  have B0 := Cs.new w [.int .i64 k0, .int .i64 r, .int .i64 n, .slice ad2 L.length cap2, .string d, .int .i64 y] 26 _ rfl
  have D0 := Cs.new (w.alloc (.cells #[.int .i64 k0, .int .i64 r, .int .i64 n, .slice ad2 L.length cap2, .string d, .int .i64 y] 26)) [.int .i64 0, .int .i64 0, .int .i64 0, .slice none 0 0, .string ⟨#[]⟩, .int .i64 0] 26 (w.heap.size + 1) (by simp)
  obtain ⟨W2, hW2⟩ : ∃ W2, W2 = (w.alloc (.cells #[.int .i64 k0, .int .i64 r, .int .i64 n, .slice ad2 L.length cap2, .string d, .int .i64 y] 26)).alloc (.cells #[.int .i64 0, .int .i64 0, .int .i64 0, .slice none 0 0, .string ⟨#[]⟩, .int .i64 0] 26) := ⟨_, rfl⟩
  have G2 : Hid (Gr w W2) := by show Gr w W2; rw [hW2]; exact (Gr.refl _).alloc.alloc
  have B2 : Cs W2 w.heap.size [.int .i64 k0, .int .i64 r, .int .i64 n, .slice ad2 L.length cap2, .string d, .int .i64 y] := by rw [hW2]; exact B0.alloc
  have D2 : Cs W2 (w.heap.size + 1) [.int .i64 0, .int .i64 0, .int .i64 0, .slice none 0 0, .string ⟨#[]⟩, .int .i64 0] := by rw [hW2]; exact D0
  have HB2 := Lib.hid B2
  have HD2 := Lib.hid D2
  have hs2 : W2.heap.size = w.heap.size + 2 := by rw [hW2]; simp
  have HF2 : Hid (Frs (Bt Z (w.heap.size + 1)) W2) := Bt.frs hFw.out G2.out.size (by omega)
  subst hW2
  clear B0 D0 B2 D2
  go_enter Try.func23, Try.ntmps23
  go_wp2_with fail
  refine (HP.out _ G2.out).mono ?_
  rintro e3 w3 ⟨b, c3, rfl, hw3, hb3, hg3⟩
  have HG3 : Hid (Gr w w3) := G2.out.trans hg3
  have HBn : Hid (R.1.seen ≠ [] → ∀ p, b = some p → Bt Z (w.heap.size + 1) p.block) := fun _ p e => HF2.out _ (by have := (hb3 p e).1; simpa using this)
  have hg4 : Gr w (w3.alloc (.cells #[.int .i64 R.1.low, .slice b R.1.seen.length c3] 37)) := HG3.out.alloc
  have hx4 := Cs.new w3 [.int .i64 R.1.low, .slice b R.1.seen.length c3] 37 _ rfl
  have hlt3 : w.heap.size + 2 ≤ w3.heap.size := by have := hg3.size; simpa using this
  obtain ⟨W4, hW4⟩ : ∃ W4, W4 = w3.alloc (.cells #[.int .i64 R.1.low, .slice b R.1.seen.length c3] 37) := ⟨_, rfl⟩
  rw [← hW4] at hg4 hx4
  have HG4 := Lib.hid hg4
  have g34 : Gr w3 W4 := by rw [hW4]; exact (Gr.refl _).alloc
  have HB4 := Lib.hid ((HB2.out.gr hg3).gr g34)
  have HD4 := Lib.hid ((HD2.out.gr hg3).gr g34)
  have HWd4 := Lib.hid (hw3.gr g34)
  have HL4 := Lib.hid (HY.out.gr HG4.out)
  have HM4 := Lib.hid (HMy.out.gr HG4.out)
  have HF4 := Lib.hid ((HF2.out.gr hg3).gr g34)
  have HX4 := Lib.hid hx4
  clear hw3 hb3 hg3 hg4 hx4 g34 HG3 HB2 HD2 G2 k6 k7 HP hs2 HF2
  by_cases hz : R.2.2 = 0
  · have hzb2 : (R.2.2 != 0) = false := by simp [hz]
    have HLR : Hid (LR = (0, R.2.1, { l with wn := R.1 })) := by show _ = _; rw [HR.out, if_pos hz]
    obtain ⟨pa, pc, pE, pa2, pc2, hpk⟩ := HL4.out
    have HK5 := Lib.hid (hpk.window HWd4.out HBn.out)
    have p6 := hpk.cs.at_ 6 _ rfl
    have pf6 := hpk.cs.fz 6 (by simp)
    have p7 := hpk.cs.at_ 7 _ rfl
    have pf7 := hpk.cs.fz 7 (by simp)
    have pl := hpk.cs.lt
    have x0 := HX4.out.at_ 0 _ rfl
    have x1 := HX4.out.at_ 1 _ rfl
    have hgb5 := ((GB.ofGr HG4.out).trans (gb_set g 6 W4 (.int .i64 R.1.low))).trans (gb_set g 7 _ (.slice b R.1.seen.length c3))
    have HGB5 := Lib.hid hgb5
    have hb5 := (HB4.out.far ⟨g, 6, none⟩ (.int .i64 R.1.low) (by simp; omega)).far ⟨g, 7, none⟩ (.slice b R.1.seen.length c3) (by simp; omega)
    have hd5 := (HD4.out.far ⟨g, 6, none⟩ (.int .i64 R.1.low) (by simp; omega)).far ⟨g, 7, none⟩ (.slice b R.1.seen.length c3) (by simp; omega)
    have HD5 := Lib.hid hd5
    have HM5 := Lib.hid ((HM4.out.gb (gb_set g 6 W4 (.int .i64 R.1.low)) (fun k => HZ.out k.1)).gb (gb_set g 7 _ (.slice b R.1.seen.length c3)) (fun k => HZ.out k.1))
    have HF5 := Lib.hid ((HF4.out.gb (gb_set g 6 W4 (.int .i64 R.1.low))).gb (gb_set g 7 _ (.slice b R.1.seen.length c3)))
    clear hpk hz hgb5
    cases hfr : R.2.1 with
    | false =>
      have z0 := HD5.out.at_ 0 _ rfl
      have z1 := HD5.out.at_ 1 _ rfl
      have z2 := HD5.out.at_ 2 _ rfl
      have z3 := HD5.out.at_ 3 _ rfl
      have z4 := HD5.out.at_ 4 _ rfl
      have z5 := HD5.out.at_ 5 _ rfl
      have zf0 := HD5.out.fz 0 (by simp)
      have zf1 := HD5.out.fz 1 (by simp)
      have zf2 := HD5.out.fz 2 (by simp)
      have zf3 := HD5.out.fz 3 (by simp)
      have zf4 := HD5.out.fz 4 (by simp)
      have zf5 := HD5.out.fz 5 (by simp)
      have zlt := HD5.out.lt
      clear hb5 hd5
      subst hW4
      go_wp2
      refine bodyPost_ret (v := .tuple #[.agg #[.int .i64 0, .int .i64 0, .int .i64 0, .slice none 0 0, .string ⟨#[]⟩, .int .i64 0], .bool false, .int .i64 0]) (by simp [results, Try.results23, go_sem, *]) rfl ?_
      rw [HLR.out, hfr]
      refine TnR.no ?_ (HGB5.out.set6 _ (by omega) _ _ _ _ _ _)
      have hp : PkAt _ _ g _ := ⟨_, _, _, _, _, HK5.out⟩
      exact (hp.gb (gb_set6 _ _ _ _ _ _ _ _) Bt.no (by omega)).turn (fun b _ k => k.1) HZ.out
    | true =>
      have z0 := hb5.at_ 0 _ rfl
      have z1 := hb5.at_ 1 _ rfl
      have z2 := hb5.at_ 2 _ rfl
      have z3 := hb5.at_ 3 _ rfl
      have z4 := hb5.at_ 4 _ rfl
      have z5 := hb5.at_ 5 _ rfl
      have zf0 := hb5.fz 0 (by simp)
      have zf1 := hb5.fz 1 (by simp)
      have zf2 := hb5.fz 2 (by simp)
      have zf3 := hb5.fz 3 (by simp)
      have zf4 := hb5.fz 4 (by simp)
      have zf5 := hb5.fz 5 (by simp)
      have zlt := hb5.lt
      have HFr := Lib.hid hfr
      have HCn := Lib.hid (HC.out _ HM5.out HF5.out)
      clear hb5 hd5
      subst hW4
      go_wp2_with fail
      refine HCn.out.mono ?_
      rintro e6 w6 ⟨a6, c6, rfl, hm6, _, hg6⟩
      have hd6 := HD5.out.gr hg6
      have HM6 := Lib.hid hm6
      have HK6 : Hid (PkAt (Bt Z (w.heap.size + 1)) w6 g { l with wn := R.1 }) := (show PkAt _ _ g _ from ⟨_, _, _, _, _, HK5.out⟩).gr hg6
      have HGB6 := Lib.hid (HGB5.out.gr hg6)
      have y0 := hd6.at_ 0 _ rfl
      have y1 := hd6.at_ 1 _ rfl
      have y2 := hd6.at_ 2 _ rfl
      have y3 := hd6.at_ 3 _ rfl
      have y4 := hd6.at_ 4 _ rfl
      have y5 := hd6.at_ 5 _ rfl
      have yf0 := hd6.fz 0 (by simp)
      have yf1 := hd6.fz 1 (by simp)
      have yf2 := hd6.fz 2 (by simp)
      have yf3 := hd6.fz 3 (by simp)
      have yf4 := hd6.fz 4 (by simp)
      have yf5 := hd6.fz 5 (by simp)
      have ylt := hd6.lt
      clear hm6 hg6 hd6 z0 z1 z2 z3 z4 z5 zf0 zf1 zf2 zf3 zf4 zf5 zlt
      go_wp2
      refine bodyPost_ret (v := .tuple #[.agg #[.int .i64 k0, .int .i64 r, .int .i64 n, .slice a6 L.length c6, .string d, .int .i64 y], .bool true, .int .i64 0]) (by simp [results, Try.results23, go_sem, *]) rfl ?_
      rw [HLR.out, HFr.out]
      refine ⟨a6, c6, rfl, ?_, ?_, HGB6.out.set6 _ (by omega) _ _ _ _ _ _⟩
      · exact (HM6.out.gb (gb_set6 _ _ _ _ _ _ _ _) Bt.no).turn (fun b _ k => k.1)
      · exact (HK6.out.gb (gb_set6 _ _ _ _ _ _ _ _) Bt.no (by omega)).turn (fun b _ k => k.1) HZ.out
  · have hzb2 : (R.2.2 != 0) = true := bne_iff_ne.2 hz
    have HLR : Hid (LR = (R.2.2, false, l)) := by show _ = _; rw [HR.out, if_neg hz]
    have z0 := HD4.out.at_ 0 _ rfl
    have z1 := HD4.out.at_ 1 _ rfl
    have z2 := HD4.out.at_ 2 _ rfl
    have z3 := HD4.out.at_ 3 _ rfl
    have z4 := HD4.out.at_ 4 _ rfl
    have z5 := HD4.out.at_ 5 _ rfl
    have zf0 := HD4.out.fz 0 (by simp)
    have zf1 := HD4.out.fz 1 (by simp)
    have zf2 := HD4.out.fz 2 (by simp)
    have zf3 := HD4.out.fz 3 (by simp)
    have zf4 := HD4.out.fz 4 (by simp)
    have zf5 := HD4.out.fz 5 (by simp)
    have zlt := HD4.out.lt
    subst hW4
    clear hz
    go_wp2
    refine bodyPost_ret (v := .tuple #[.agg #[.int .i64 0, .int .i64 0, .int .i64 0, .slice none 0 0, .string ⟨#[]⟩, .int .i64 0], .bool false, .int .i64 R.2.2]) (by simp [results, Try.results23, go_sem, *]) rfl ?_
    rw [HLR.out]
    refine TnR.no ?_ ((GB.ofGr HG4.out).set6 _ (by omega) _ _ _ _ _ _)
    exact (HL4.out.gb (gb_set6 _ _ _ _ _ _ _ _) Bt.no (by omega)).turn (fun b _ k => k.1) HZ.out
end Go.Proofs.Ythfbpilfdfploaa
namespace Go.Proofs.Ythfbpilfdfploaa
open Go.RowKit
open Lk (St)

variable {Z : Nat → Prop}
set_option maxHeartbeats 4000000 in
set_option maxRecDepth 100000 in
theorem kBegin_any (g : Nat) (l : St Nx) (ep now : Int) (w : World) (h : PkAt Z w g l) (hF : Frs Z w) (hk : l.kn < ep) :
    Calls Try.prog 21 #[.pointer (some ⟨g, 0, none⟩), .int .i64 ep, .int .i64 now] w fun e w' => (∃ v, e = .returned v) ∧ PkAt Z w' g (Lk.learn CX l ep now) ∧ GB g w w' := by
  have HA : Hid (∀ (l' : St Nx) w', Frs Z w' → PkAt Z w' g l' → Calls Try.prog 35 #[.pointer (some ⟨g, 0, none⟩), .int .i64 now] w' fun e w2 => (∃ v, e = .returned v) ∧ PkAt Z w2 g { l' with it := Ox.anew okN l'.it now, nx := ((Ox.anew okN l'.it now).length : Int) + 1 } ∧ GB g w' w2) := fun l' w' h1 h2 => kAnew_any g l' now w' h2 h1
  have HR : Hid (Lk.learn CX l ep now = { l with kn := ep, wn := ⟨0, []⟩, it := Ox.anew okN l.it now, nx := ((Ox.anew okN l.it now).length : Int) + 1 }) := by
    show _ = _
    unfold Lk.learn
    rw [if_pos hk]; rfl
  generalize Lk.learn CX l ep now = R at *
  obtain ⟨a, c, E, a2, c2, h⟩ := h
  have hk1 := h.know ep
  have hk2 := hk1.window (wd_none _) (fun hn => absurd rfl hn)
  have HK := Lib.hid hk2
  have HG := Lib.hid (((gb_set g 5 w (.int .i64 ep)).trans (gb_set g 6 _ (.int .i64 0))).trans (gb_set g 7 _ (.slice none 0 0)))
  have k5 := h.cs.at_ 5 _ rfl
  have f5 := h.cs.fz 5 (by simp)
  have k6 := hk1.cs.at_ 6 _ rfl
  have f6 := hk1.cs.fz 6 (by simp)
  have k7 := hk1.cs.at_ 7 _ rfl
  have f7 := hk1.cs.fz 7 (by simp)
  have kl := h.cs.lt
  have HF2 := Lib.hid (((hF.gb (gb_set g 5 w (.int .i64 ep))).gb (gb_set g 6 _ (.int .i64 0))).gb (gb_set g 7 _ (.slice none 0 0)))
  clear h hk hk1 hk2 hF
  obtain ⟨me, wi, ep', kn, it, nx, wn, ow⟩ := l
  dsimp only at *
  go_enter Try.func21, Try.ntmps21
  go_wp2_with fail
  refine (HA.out _ _ HF2.out ⟨_, _, _, _, _, HK.out⟩).mono ?_
  rintro e1 w1 ⟨⟨v, rfl⟩, hp1, hgb1⟩
  have HP1 := Lib.hid hp1
  have HG1 := Lib.hid (HG.out.trans hgb1)
  clear hp1 hgb1
  go_wp2
  go_end0
  exact ⟨⟨_, rfl⟩, by rw [HR.out]; exact HP1.out, HG1.out⟩

/- what refuses a frame -/
def rfE (l : St Nx) (f : Lk.Fr Nx) (now : Int) : Int :=
  if CX.fm f = true ∧ f.f = l.wi ∧ f.t = l.me then (if Ox.tmB now = true then (if f.e < l.kn then 200 else 0) else 2) else 130
theorem fm_frB (x : Mf) : CX.fm x.fr = Nt.frB ⟨x.f, x.t, x.e, x.s, x.a, x.c, x.m.x⟩ := rfl
theorem hold_fr {a b : World} (g : Gr a b) {p q : Nat} {v0 v1 v2 v3 v4 v5 v6 v7 v8 v9 v10 v11 y z : Value} (h0 : a.cell? ⟨p, 0, none⟩ = some v0) (h1 : a.cell? ⟨p, 1, none⟩ = some v1) (h2 : a.cell? ⟨p, 2, none⟩ = some v2) (h3 : a.cell? ⟨p, 3, none⟩ = some v3) (h4 : a.cell? ⟨p, 4, none⟩ = some v4) (h5 : a.cell? ⟨p, 5, none⟩ = some v5) (h6 : a.cell? ⟨p, 6, none⟩ = some v6) (h7 : a.cell? ⟨p, 7, none⟩ = some v7) (h8 : a.cell? ⟨p, 8, none⟩ = some v8) (h9 : a.cell? ⟨p, 9, none⟩ = some v9) (h10 : a.cell? ⟨p, 10, none⟩ = some v10) (h11 : a.cell? ⟨p, 11, none⟩ = some v11) (hy : a.cell? ⟨q, 0, none⟩ = some y) (hz : a.cell? ⟨q, 1, none⟩ = some z) :
    Gr a b ∧ b.cell? ⟨p, 0, none⟩ = some v0 ∧ b.cell? ⟨p, 1, none⟩ = some v1 ∧ b.cell? ⟨p, 2, none⟩ = some v2 ∧ b.cell? ⟨p, 3, none⟩ = some v3 ∧ b.cell? ⟨p, 4, none⟩ = some v4 ∧ b.cell? ⟨p, 5, none⟩ = some v5 ∧ b.cell? ⟨p, 6, none⟩ = some v6 ∧ b.cell? ⟨p, 7, none⟩ = some v7 ∧ b.cell? ⟨p, 8, none⟩ = some v8 ∧ b.cell? ⟨p, 9, none⟩ = some v9 ∧ b.cell? ⟨p, 10, none⟩ = some v10 ∧ b.cell? ⟨p, 11, none⟩ = some v11 ∧ b.cell? ⟨q, 0, none⟩ = some y ∧ b.cell? ⟨q, 1, none⟩ = some z :=
  ⟨g, g.keep h0, g.keep h1, g.keep h2, g.keep h3, g.keep h4, g.keep h5, g.keep h6, g.keep h7, g.keep h8, g.keep h9, g.keep h10, g.keep h11, g.keep hy, g.keep hz⟩
set_option maxHeartbeats 16000000 in
set_option maxRecDepth 100000 in
theorem kRefusal_any (g : Nat) (l : St Nx) (x : Mf) (now : Int) (w : World) (h : PkAt Z w g l) (hm : MnAt Z w x.m) :
    Calls Try.prog 20 #[.pointer (some ⟨g, 0, none⟩), x.v, .int .i64 now] w fun e w' => e = .returned (.int .i64 (rfE l x.fr now)) ∧ Gr w w' := by
  have HN : Hid (∀ w', Gr w w' → Calls Try.prog 34 #[x.v] w' fun e w2 => e = .returned (.int .i64 (Nt.frE ⟨x.f, x.t, x.e, x.s, x.a, x.c, x.m.x⟩)) ∧ Gr w' w2) := fun w' k => nFrame_any x.f x.t x.e x.s x.a x.c x.m.x.k x.m.x.r x.m.x.n x.m.x.L x.m.x.d x.m.x.y x.m.ad x.m.cap w' (hm.hp.gr k) hm.hl hm.hd hm.hc
  have HT : Hid (∀ w', Calls Try.prog 28 #[.int .i64 now] w' fun e w2 => e = .returned (.bool (Ox.tmB now)) ∧ w2 = w') := fun w' => kTime_any now w'
  have HE : Hid (Nt.frE ⟨x.f, x.t, x.e, x.s, x.a, x.c, x.m.x⟩ = if Nt.frB ⟨x.f, x.t, x.e, x.s, x.a, x.c, x.m.x⟩ = true then 0 else 130) := rfl
  have HR : Hid (rfE l x.fr now = if Nt.frB ⟨x.f, x.t, x.e, x.s, x.a, x.c, x.m.x⟩ = true ∧ x.f = l.wi ∧ x.t = l.me then (if Ox.tmB now = true then (if x.e < l.kn then 200 else 0) else 2) else 130) := rfl
  obtain ⟨a, c, E, a2, c2, h⟩ := h
  have HC := Lib.hid h.cs
  clear h hm
  generalize rfE l x.fr now = R at *
  generalize Nt.frE ⟨x.f, x.t, x.e, x.s, x.a, x.c, x.m.x⟩ = fe at *
  generalize Nt.frB ⟨x.f, x.t, x.e, x.s, x.a, x.c, x.m.x⟩ = fb at *
  generalize Ox.tmB now = tb at *
  obtain ⟨f, t, ep, s, ae, ac, ⟨⟨k0, r, n, L, d, y⟩, ad, cap⟩⟩ := x
  obtain ⟨me, wi, ep', kn, it, nx, wn, ow⟩ := l
  dsimp only [Mf.v] at *
  generalize L.length = ll at *
  have B0 := Cs.new w [.int .i64 f, .int .i64 t, .int .i64 ep, .int .i64 s, .int .i64 ae, .int .i64 ac, .int .i64 k0, .int .i64 r, .int .i64 n, .slice ad ll cap, .string d, .int .i64 y] 28 _ rfl
  obtain ⟨W1, hW1⟩ : ∃ W1, W1 = w.alloc (.cells #[.int .i64 f, .int .i64 t, .int .i64 ep, .int .i64 s, .int .i64 ae, .int .i64 ac, .int .i64 k0, .int .i64 r, .int .i64 n, .slice ad ll cap, .string d, .int .i64 y] 28) := ⟨_, rfl⟩
  have hg1 : Gr w W1 := by rw [hW1]; exact (Gr.refl _).alloc
  have B1 : Cs W1 w.heap.size [.int .i64 f, .int .i64 t, .int .i64 ep, .int .i64 s, .int .i64 ae, .int .i64 ac, .int .i64 k0, .int .i64 r, .int .i64 n, .slice ad ll cap, .string d, .int .i64 y] := by rw [hW1]; exact B0
  have HG1 := Lib.hid hg1
  have HB1 := Lib.hid B1
  have HC1 := Lib.hid (HC.out.gr hg1)
  have z0 := B1.at_ 0 _ rfl
  have z1 := B1.at_ 1 _ rfl
  have z2 := B1.at_ 2 _ rfl
  have z3 := B1.at_ 3 _ rfl
  have z4 := B1.at_ 4 _ rfl
  have z5 := B1.at_ 5 _ rfl
  have z6 := B1.at_ 6 _ rfl
  have z7 := B1.at_ 7 _ rfl
  have z8 := B1.at_ 8 _ rfl
  have z9 := B1.at_ 9 _ rfl
  have z10 := B1.at_ 10 _ rfl
  have z11 := B1.at_ 11 _ rfl
  have zf0 := B1.fz 0 (by simp)
  have zf1 := B1.fz 1 (by simp)
  have zf2 := B1.fz 2 (by simp)
  have zf3 := B1.fz 3 (by simp)
  have zf4 := B1.fz 4 (by simp)
  have zf5 := B1.fz 5 (by simp)
  have zf6 := B1.fz 6 (by simp)
  have zf7 := B1.fz 7 (by simp)
  have zf8 := B1.fz 8 (by simp)
  have zf9 := B1.fz 9 (by simp)
  have zf10 := B1.fz 10 (by simp)
  have zf11 := B1.fz 11 (by simp)
  have zlt := B1.lt
  have y0 := HC1.out.at_ 0 _ rfl
  have y1 := HC1.out.at_ 1 _ rfl
  have yl := HC1.out.lt
  clear B0 hg1 B1 HC zf0 zf1 zf2 zf3 zf4 zf5 zf6 zf7 zf8 zf9 zf10 zf11
  go_enter Try.func20, Try.ntmps20
  go_wp2_with fail
  rw [← hW1]
  clear hW1
  refine wp_region_held_drew (S := (fun w' => Gr W1 w' ∧ w'.cell? ⟨w.heap.size, 0, none⟩ = some (.int .i64 f) ∧ w'.cell? ⟨w.heap.size, 1, none⟩ = some (.int .i64 t) ∧ w'.cell? ⟨w.heap.size, 2, none⟩ = some (.int .i64 ep) ∧ w'.cell? ⟨w.heap.size, 3, none⟩ = some (.int .i64 s) ∧ w'.cell? ⟨w.heap.size, 4, none⟩ = some (.int .i64 ae) ∧ w'.cell? ⟨w.heap.size, 5, none⟩ = some (.int .i64 ac) ∧ w'.cell? ⟨w.heap.size, 6, none⟩ = some (.int .i64 k0) ∧ w'.cell? ⟨w.heap.size, 7, none⟩ = some (.int .i64 r) ∧ w'.cell? ⟨w.heap.size, 8, none⟩ = some (.int .i64 n) ∧ w'.cell? ⟨w.heap.size, 9, none⟩ = some (.slice ad ll cap) ∧ w'.cell? ⟨w.heap.size, 10, none⟩ = some (.string d) ∧ w'.cell? ⟨w.heap.size, 11, none⟩ = some (.int .i64 y) ∧ w'.cell? ⟨g, 0, none⟩ = some (.int .i64 me) ∧ w'.cell? ⟨g, 1, none⟩ = some (.int .i64 wi))) (by kernel_rfl) (by exact hold_fr (by repeat(first|exact Gr.r _|refine Gr.a ?_|refine Gr.d ?_|refine Gr.t ?_ (by assumption))) z0 z1 z2 z3 z4 z5 z6 z7 z8 z9 z10 z11 y0 y1) (fun hHeld => ?_)
  refine ty 0 8 hHeld ?_
  refine wpAnyH_ready (rs := [1]) (by kernel_rfl) (by simp) (AllReadyH.cons rfl (fun K hK => ?_) AllReadyH.nil)
  go_simp
  (go_at_call 34; refine (HN.out _ (HG1.out.trans hHeld.1)).mono ?_; rintro e wn' ⟨rfl, hgn⟩)
  (try go_wp2_with fail)
  refine hK.out _ _ (by exact hold_fr (by repeat(first|exact Gr.r _|refine Gr.a ?_|refine Gr.d ?_|refine Gr.t ?_ (by assumption))) z0 z1 z2 z3 z4 z5 z6 z7 z8 z9 z10 z11 y0 y1) (fun hHeldN => ?_)
  clear hHeld hK K
  have hHeld := hHeldN
  clear hHeldN
  clear z0 z1 z2 z3 z4 z5 z6 z7 z8 z9 z10 z11 y0 y1 yl zlt HN
  cases fb with
  | false =>
    have hfe : fe = 130 := HE.out
    have hR : R = 130 := by rw [HR.out, if_neg (by simp)]
    subst hfe hR
    clear HE HR HT
    refine ty 2 10 hHeld ?_
    refine ty 3 11 hHeld ?_
    refine tn 4 12 hHeld ?_
    refine tn 5 13 hHeld ?_
    refine tn 6 14 hHeld ?_
    refine tn 7 15 hHeld ?_
    refine tn 8 16 hHeld ?_
    refine tn 9 17 hHeld ?_
    refine tn 10 18 hHeld ?_
    refine tn 11 19 hHeld ?_
    refine ty 12 20 hHeld ?_
    refine ty 13 21 hHeld ?_
    refine tn 14 22 hHeld ?_
    refine tn 15 23 hHeld ?_
    refine tn 16 24 hHeld ?_
    refine tn 17 25 hHeld ?_
    refine tn 18 26 hHeld ?_
    refine tn 19 27 hHeld ?_
    refine tn 20 28 hHeld ?_
    refine tn 21 29 hHeld ?_
    refine ty 22 30 hHeld ?_
    refine ty 23 7 hHeld ?_
    refine wpAnyH_done (by kernel_rfl) ?_ _
    go_wp2
    go_ret
    exact ⟨rfl, HG1.out.trans hHeld.1⟩
  | true =>
    have hfe : fe = 0 := HE.out
    subst hfe
    clear HE
    by_cases q1 : f = wi
    · by_cases q2 : t = me
      · have hR : Hid (R = (if tb = true then (if ep < kn then 200 else 0) else 2)) := by show _ = _; rw [HR.out, if_pos ⟨rfl, q1, q2⟩]
        have q1b : (f != wi) = false := by simp [q1]
        have q2b : (t != me) = false := by simp [q2]
        clear q1 q2 HR
        refine ty 2 10 hHeld ?_
        refine ty 3 11 hHeld ?_
        refine ty 4 12 hHeld ?_
        refine ty 5 13 hHeld ?_
        refine ty 6 14 hHeld ?_
        refine ty 7 15 hHeld ?_
        refine ty 8 16 hHeld ?_
        refine ty 9 17 hHeld ?_
        refine ty 10 18 hHeld ?_
        refine ty 11 19 hHeld ?_
        refine ty 12 20 hHeld ?_
        refine ty 13 21 hHeld ?_
        refine ty 14 22 hHeld ?_
        refine ty 15 23 hHeld ?_
        refine ty 16 24 hHeld ?_
        refine ty 17 25 hHeld ?_
        refine ty 18 26 hHeld ?_
        refine ty 19 27 hHeld ?_
        refine ty 20 28 hHeld ?_
        refine ty 21 29 hHeld ?_
        refine ty 22 30 hHeld ?_
        refine ty 23 7 hHeld ?_
        refine wpAnyH_done (by kernel_rfl) ?_ _
        have HGf := Lib.hid (HG1.out.trans hHeld.1)
        have HBf := Lib.hid (HB1.out.gr hHeld.1)
        have HCf := Lib.hid (HC1.out.gr hHeld.1)
        clear hHeld HG1 HB1 HC1
        cases tb with
        | false =>
          go_wp2_with fail
          refine (HT.out _).mono ?_
          rintro e2 w2 ⟨rfl, hw2⟩; obtain rfl := hw2.symm
          go_wp2
          go_ret
          exact ⟨by rw [hR.out]; rfl, HGf.out⟩
        | true =>
          have z2 := HBf.out.at_ 2 _ rfl
          have zlt := HBf.out.lt
          have y5 := HCf.out.at_ 5 _ rfl
          have yl := HCf.out.lt
          by_cases q3 : ep < kn
          · have hR2 : Hid (R = 200) := by show _ = _; rw [hR.out, if_pos rfl, if_pos q3]
            clear hR
            go_wp2_with fail
            refine (HT.out _).mono ?_
            rintro e2 w2 ⟨rfl, hw2⟩; obtain rfl := hw2.symm
            go_wp2
            go_region
            all_goals
              go_wp2
              go_ret
              exact ⟨by rw [hR2.out]; rfl, HGf.out.drew⟩
          · have hR2 : Hid (R = 0) := by show _ = _; rw [hR.out, if_pos rfl, if_neg q3]
            clear hR
            go_wp2_with fail
            refine (HT.out _).mono ?_
            rintro e2 w2 ⟨rfl, hw2⟩; obtain rfl := hw2.symm
            go_wp2
            go_region
            all_goals
              go_wp2
              go_ret
              exact ⟨by rw [hR2.out]; rfl, HGf.out.drew⟩
      · have hR : R = 130 := by rw [HR.out, if_neg (fun k => q2 k.2.2)]
        subst hR
        have q1b : (f != wi) = false := by simp [q1]
        have q2b : (t != me) = true := bne_iff_ne.2 q2
        clear q1 q2 HR HT
        refine ty 2 10 hHeld ?_
        refine ty 3 11 hHeld ?_
        refine ty 4 12 hHeld ?_
        refine ty 5 13 hHeld ?_
        refine ty 6 14 hHeld ?_
        refine ty 7 15 hHeld ?_
        refine ty 8 16 hHeld ?_
        refine ty 9 17 hHeld ?_
        refine ty 10 18 hHeld ?_
        refine ty 11 19 hHeld ?_
        refine ty 12 20 hHeld ?_
        refine ty 13 21 hHeld ?_
        refine ty 14 22 hHeld ?_
        refine ty 15 23 hHeld ?_
        refine ty 16 24 hHeld ?_
        refine ty 17 25 hHeld ?_
        refine ty 18 26 hHeld ?_
        refine ty 19 27 hHeld ?_
        refine ty 20 28 hHeld ?_
        refine ty 21 29 hHeld ?_
        refine ty 22 30 hHeld ?_
        refine ty 23 7 hHeld ?_
        refine wpAnyH_done (by kernel_rfl) ?_ _
        go_wp2
        go_ret
        exact ⟨rfl, HG1.out.trans hHeld.1⟩
    · have hR : R = 130 := by rw [HR.out, if_neg (fun k => q1 k.2.1)]
      subst hR
      have q1b : (f != wi) = true := bne_iff_ne.2 q1
      clear q1 HR HT
      refine ty 2 10 hHeld ?_
      refine ty 3 11 hHeld ?_
      refine ty 4 12 hHeld ?_
      refine ty 5 13 hHeld ?_
      refine ty 6 14 hHeld ?_
      refine ty 7 15 hHeld ?_
      refine ty 8 16 hHeld ?_
      refine ty 9 17 hHeld ?_
      refine ty 10 18 hHeld ?_
      refine ty 11 19 hHeld ?_
      refine ty 12 20 hHeld ?_
      refine ty 13 21 hHeld ?_
      refine tn 14 22 hHeld ?_
      refine tn 15 23 hHeld ?_
      refine tn 16 24 hHeld ?_
      refine tn 17 25 hHeld ?_
      refine tn 18 26 hHeld ?_
      refine tn 19 27 hHeld ?_
      refine tn 20 28 hHeld ?_
      refine tn 21 29 hHeld ?_
      refine ty 22 30 hHeld ?_
      refine ty 23 7 hHeld ?_
      refine wpAnyH_done (by kernel_rfl) ?_ _
      go_wp2
      go_ret
      exact ⟨rfl, HG1.out.trans hHeld.1⟩
end Go.Proofs.Ythfbpilfdfploaa
namespace Go.Proofs.Ythfbpilfdfploaa
open Go.ChangeShapes Go.WideShapes Go.ChangeAt Go.RowKit

set_option maxRecDepth 100000 in
theorem trod_fr {H : Type} {enc : TypeId × Value → H} {W : World} {base : Nat} {sp : Nat → Bool} {held : Bool} {fuel : Nat} {a0 a1 a2 a3 a4 a5 c0 c1 c2 c3 c4 c5 : Value} {x : DataW H × List MemPlace}
    (h : DataW.trod enc Try.prog W base sp held fuel 28 [a0, a1, a2, a3, a4, a5, c0, c1, c2, c3, c4, c5] = some x) : ∃ z : Mf, [a0, a1, a2, a3, a4, a5, c0, c1, c2, c3, c4, c5] = fC z ∧ MnAt Any W z.m := by
  have k0 : Try.prog.cellsOf 3 = 1 := by kernel_rfl
  have k6 : Try.prog.cellsOf 26 = 6 := by kernel_rfl
  obtain ⟨xs, n, _, hx, hl, hlen, hg⟩ := DataW.trod_struct Try.underlying28 h
  match xs, hlen with
  | [y0, y1, y2, y3, y4, y5, y6], _ =>
    have t0 := hg 0 _ rfl
    have t1 := hg 1 _ rfl
    have t2 := hg 2 _ rfl
    have t3 := hg 3 _ rfl
    have t4 := hg 4 _ rfl
    have t5 := hg 5 _ rfl
    have t6 := hg 6 _ rfl
    simp [k0, k6] at t0 t1 t2 t3 t4 t5 t6
    obtain ⟨z0, e0, _⟩ := DataW.trod_int Try.underlying3 t0
    obtain ⟨z1, e1, _⟩ := DataW.trod_int Try.underlying3 t1
    obtain ⟨z2, e2, _⟩ := DataW.trod_int Try.underlying3 t2
    obtain ⟨z3, e3, _⟩ := DataW.trod_int Try.underlying3 t3
    obtain ⟨z4, e4, _⟩ := DataW.trod_int Try.underlying3 t4
    obtain ⟨z5, e5, _⟩ := DataW.trod_int Try.underlying3 t5
    obtain ⟨x, ad, cap, e, h1, h2, h3, h4⟩ := trod_note t6
    simp at e0 e1 e2 e3 e4 e5
    subst e0 e1 e2 e3 e4 e5
    simp only [List.cons.injEq, and_true] at e
    obtain ⟨rfl, rfl, rfl, rfl, rfl, rfl⟩ := e
    exact ⟨⟨z0, z1, z2, z3, z4, z5, ⟨x, ad, cap⟩⟩, rfl, h1, h2, h3, h4, fun _ _ _ => trivial⟩
set_option maxRecDepth 100000 in
theorem trod_act {H : Type} {enc : TypeId × Value → H} {W : World} {base : Nat} {sp : Nat → Bool} {held : Bool} (n : Nat) (cs : List Value) (y : DataW H × List MemPlace) (hl : cs.length = 20)
    (h : DataW.trod enc Try.prog W base sp held n 30 cs = some y) : ∃ z : Ma, cs = aC z ∧ (MnAt Any W z.m ∧ MnAt Any W z.x.m) := by
  have k0 : Try.prog.cellsOf 3 = 1 := by kernel_rfl
  have k6 : Try.prog.cellsOf 26 = 6 := by kernel_rfl
  have k12 : Try.prog.cellsOf 28 = 12 := by kernel_rfl
  match cs, hl with
  | [u0, u1, d0, d1, d2, d3, d4, d5, a0, a1, a2, a3, a4, a5, c0, c1, c2, c3, c4, c5], _ =>
    obtain ⟨xs, n, _, rfl, hl, hlen, hf⟩ := DataW.trod_struct Try.underlying30 h
    match xs, hlen with
    | [y0, y1, y2, y3], _ =>
      have t0 := hf 0 _ rfl
      have t1 := hf 1 _ rfl
      have t2 := hf 2 _ rfl
      have t3 := hf 3 _ rfl
      simp [k0, k6, k12] at t0 t1 t2 t3
      obtain ⟨z0, e0, _⟩ := DataW.trod_int Try.underlying3 t0
      obtain ⟨z1, e1, _⟩ := DataW.trod_int Try.underlying3 t1
      obtain ⟨x, ad, cap, e, h1, h2, h3, h4⟩ := trod_note t2
      obtain ⟨zf, ef, hz⟩ := trod_fr t3
      simp at e0 e1
      subst e0 e1
      simp only [List.cons.injEq, and_true, fC] at e ef
      obtain ⟨rfl, rfl, rfl, rfl, rfl, rfl⟩ := e
      obtain ⟨rfl, rfl, rfl, rfl, rfl, rfl, rfl, rfl, rfl, rfl, rfl, rfl⟩ := ef
      exact ⟨⟨z0, z1, ⟨x, ad, cap⟩, zf⟩, rfl, ⟨h1, h2, h3, h4, fun _ _ _ => trivial⟩, hz⟩
set_option maxRecDepth 100000 in
theorem open_lact {H : Type} {enc : TypeId × Value → H} {W : World} {base : Nat} {v : Value} {d : DataW H} {ps : List MemPlace}
    (hok : Value.okWide Try.prog W .any base 30 v) (h : DataW.Trod enc Try.prog W 0 (fun _ => true) true 30 v d ps) :
    ∃ z : Ma, v = .agg (aC z).toArray ∧ MnAt Any W z.m ∧ MnAt Any W z.x.m := by
  obtain ⟨cs, rfl, hsz⟩ := okWide_struct Try.underlying30 hok
  have hs20 : cs.size = 20 := hsz.trans (by kernel_rfl)
  obtain ⟨l⟩ := cs
  obtain ⟨fuel, hf⟩ := h
  obtain ⟨z, e, hz⟩ := trod_act (W := W) fuel l _ (by simpa using hs20) (by simpa [Value.cells] using hf)
  exact ⟨z, by rw [e], hz⟩
/- events -/
structure Ev where
  k : Int
  f : Int
  s : Int
  w : Int
def eC (z : Ev) : List Value := [.int .i64 z.k, .int .i64 z.f, .int .i64 z.s, .int .i64 z.w]
theorem eC_len (z : Ev) : (eC z).length = 4 := rfl
theorem EvsRow.at {w : World} {ad : Option Addr} {D : List Ev} (h : RowAt eC w ad D) (k : Nat) (hk : k < D.length) : ∃ b off, ad = some ⟨b, off, none⟩ ∧ b < w.heap.size ∧
    w.cell? ⟨b, off + k * 4, none⟩ = some (.int .i64 D[k].k) ∧ w.cell? ⟨b, off + k * 4 + 1, none⟩ = some (.int .i64 D[k].f) ∧ w.cell? ⟨b, off + k * 4 + 2, none⟩ = some (.int .i64 D[k].s) ∧ w.cell? ⟨b, off + k * 4 + 3, none⟩ = some (.int .i64 D[k].w) := by
  have g := fun i hi => flat_get eC_len D k hk i hi
  obtain ⟨b, off, rfl, hb, c0⟩ := h _ _ (g 0 (by omega))
  obtain ⟨_, _, e, _, c1⟩ := h _ _ (g 1 (by omega)); cases e
  obtain ⟨_, _, e, _, c2⟩ := h _ _ (g 2 (by omega)); cases e
  obtain ⟨_, _, e, _, c3⟩ := h _ _ (g 3 (by omega)); cases e
  rw [← Nat.add_assoc] at c1 c2 c3
  exact ⟨b, off, rfl, hb, c0, c1, c2, c3⟩
def Rg (n : Int) : Prop := -9223372036854775808 ≤ n ∧ n ≤ 9223372036854775807
def EvIn (z : Ev) : Prop := Rg z.k ∧ Rg z.f ∧ Rg z.s ∧ Rg z.w
set_option maxRecDepth 100000 in
theorem trod_ev {H : Type} {enc : TypeId × Value → H} {W : World} {base : Nat} {sp : Nat → Bool} {held : Bool} (n : Nat) (cs : List Value) (y : DataW H × List MemPlace) (hl : cs.length = 4)
    (h : DataW.trod enc Try.prog W base sp held n 57 cs = some y) : ∃ z : Ev, cs = eC z ∧ EvIn z := by
  have k0 : Try.prog.cellsOf 3 = 1 := by kernel_rfl
  match cs, hl with
  | [u0, u1, u2, u3], _ =>
    obtain ⟨xs, n, _, rfl, hl, hlen, hf⟩ := DataW.trod_struct Try.underlying57 h
    match xs, hlen with
    | [y0, y1, y2, y3], _ =>
      have t0 := hf 0 _ rfl
      have t1 := hf 1 _ rfl
      have t2 := hf 2 _ rfl
      have t3 := hf 3 _ rfl
      simp [k0] at t0 t1 t2 t3
      obtain ⟨z0, e0, _, r0⟩ := DataW.trod_int Try.underlying3 t0
      obtain ⟨z1, e1, _, r1⟩ := DataW.trod_int Try.underlying3 t1
      obtain ⟨z2, e2, _, r2⟩ := DataW.trod_int Try.underlying3 t2
      obtain ⟨z3, e3, _, r3⟩ := DataW.trod_int Try.underlying3 t3
      simp at e0 e1 e2 e3
      subst e0 e1 e2 e3
      exact ⟨⟨z0, z1, z2, z3⟩, rfl, rng_i64 r0, rng_i64 r1, rng_i64 r2, rng_i64 r3⟩
set_option maxRecDepth 100000 in
theorem open_evs {H : Type} {enc : TypeId × Value → H} {W : World} {base : Nat} {v : Value} {d : DataW H} {ps : List MemPlace}
    (hok : Value.okWide Try.prog W .any base 52 v) (h : DataW.Trod enc Try.prog W 0 (fun _ => true) true 52 v d ps) :
    ∃ ad cap, ∃ D : List Ev, v = .slice ad D.length cap ∧ RowAt eC W ad D ∧ D.length ≤ 9223372036854775807 ∧ ∀ z ∈ D, EvIn z := by
  obtain ⟨a0, len0, cap0, rfl⟩ := okWide_slice Try.underlying52 hok
  obtain ⟨fuel, hf⟩ := h
  simp only [Value.cells] at hf
  have hiA : Inhabited Ev := ⟨⟨0, 0, 0, 0⟩⟩
  obtain ⟨D, rfl, h1, h2, h3⟩ := open_rows eC_len (by decide) Try.underlying52 (by kernel_rfl) (trod_ev (W := W)) hf
  exact ⟨a0, cap0, D, rfl, h1, h2, h3⟩
end Go.Proofs.Ythfbpilfdfploaa
