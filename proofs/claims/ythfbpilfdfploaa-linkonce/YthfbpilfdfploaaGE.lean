/- Parts of these proofs, laid together. -/
import Derived.Test.YthfbpilfdfploaaGB
import Derived.Test.YthfbpilfdfploaaGC
import Derived.Test.YthfbpilfdfploaaGD
import Derived.Test.YthfbpilfdfploaaGA
namespace Go.Proofs.Ythfbpilfdfploaa
open Go.RowKit

theorem eqE (d : ByteArray) : d.toList.isEmpty = decide (d = ⟨#[]⟩) := by
  rw [ByteArray.toList_eq]
  by_cases h : d = ⟨#[]⟩
  · subst h; rfl
  · have : ¬ d.data.toList = [] := fun e => h (by cases d; simp at e; rw [e])
    rw [decide_eq_false h]; simpa using this

set_option maxHeartbeats 400000 in
theorem within_any (n l h : Int) (w : World) : Calls Try.prog 71 #[.int .i64 n, .int .i64 l, .int .i64 h] w fun e w' => e = .returned (.bool (Nt.inB n l h)) ∧ w' = w := by
  unfold Nt.inB
  by_cases a : l ≤ n
  · rw [decide_eq_true a, Bool.true_and]
    go_enter Try.func71, Try.ntmps71
    go_wp2
    go_ret
    exact ⟨rfl, rfl⟩
  · rw [decide_eq_false a, Bool.false_and]
    go_enter Try.func71, Try.ntmps71
    go_wp2
    go_ret
    exact ⟨rfl, rfl⟩
set_option maxHeartbeats 400000 in
theorem isOrg_any (n : Int) (w : World) : Calls Try.prog 45 #[.int .i64 n] w fun e w' => e = .returned (.bool (Nt.inB n 0 15)) ∧ w' = w := by
  have HW : Hid (∀ w', Calls Try.prog 71 #[.int .i64 n, .int .i64 0, .int .i64 15] w' fun e w2 => e = .returned (.bool (Nt.inB n 0 15)) ∧ w2 = w') := fun w' => within_any n 0 15 w'
  go_enter Try.func45, Try.ntmps45
  go_wp2_with fail
  refine (HW.out _).mono ?_
  rintro e1 w1 ⟨rfl, hw1⟩; obtain rfl := hw1.symm
  go_wp2
  go_ret
  exact ⟨rfl, rfl⟩
set_option maxHeartbeats 1000000 in
theorem isChild_any (r n : Int) (L : List (Int × Int)) (ad : Option Addr) (cap : Nat) (w : World) (hL : HopsAt w ad L) (hn : L.length ≤ 9223372036854775807) :
    Calls Try.prog 80 #[.agg #[.int .i64 r, .int .i64 n, .slice ad L.length cap]] w fun e w' => e = .returned (.bool (Idn.mayB r n L && decide (0 < L.length))) ∧ Gr w w' := by
  have HC : Hid (∀ w', Gr w w' → Calls Try.prog 83 #[.agg #[.int .i64 r, .int .i64 n, .slice ad L.length cap]] w' fun e w2 => e = .returned (.int .i64 (errB (Idn.mayB r n L))) ∧ Gr w' w2) := fun w' g => check_any r n L ad cap w' (hL.gr g) hn
  generalize Idn.mayB r n L = q at *
  clear hL
  cases q with
  | false =>
    rw [show errB false = 30 from rfl] at HC
    rw [Bool.false_and]
    go_enter Try.func80, Try.ntmps80
    go_wp2_with fail
    refine (HC.out _ (by repeat(first|exact Gr.r _|refine Gr.a ?_|refine Gr.d ?_|refine Gr.t ?_ (by assumption)))).mono ?_
    rintro e1 w1 ⟨rfl, hg1⟩
    go_wp2
    go_ret
    exact ⟨rfl, (by repeat(first|exact Gr.r _|refine Gr.a ?_|refine Gr.d ?_|refine Gr.t ?_ (by assumption)))⟩
  | true =>
    rw [show errB true = 0 from rfl] at HC
    rw [Bool.true_and]
    go_enter Try.func80, Try.ntmps80
    go_wp2_with fail
    refine (HC.out _ (by repeat(first|exact Gr.r _|refine Gr.a ?_|refine Gr.d ?_|refine Gr.t ?_ (by assumption)))).mono ?_
    rintro e1 w1 ⟨rfl, hg1⟩
    have B1 := (Cs.new w [.int .i64 r, .int .i64 n, .slice ad L.length cap] 24 _ rfl).gr hg1
    have c2 := B1.at_ 2 _ rfl
    go_wp2
    go_ret
    exact ⟨rfl, (by repeat(first|exact Gr.r _|refine Gr.a ?_|refine Gr.d ?_|refine Gr.t ?_ (by assumption)))⟩
set_option maxHeartbeats 1000000 in
theorem defFits_any (k r n : Int) (L : List (Int × Int)) (d : ByteArray) (y : Int) (ad : Option Addr) (cap : Nat) (w : World) (hd : d.size ≤ 9223372036854775807) :
    Calls Try.prog 81 #[.agg #[.int .i64 k, .int .i64 r, .int .i64 n, .slice ad L.length cap, .string d, .int .i64 y]] w fun e w' => e = .returned (.bool (Nt.dfB ⟨k, r, n, L, d, y⟩)) ∧ Gr w w' := by
  have HN : Hid (∀ w', Calls Try.prog 92 #[.string d] w' fun e w2 => e = .returned (.bool (Act.nameB d)) ∧ w2 = w') := fun w' => name_any d w' hd
  unfold Nt.dfB
  simp only
  by_cases a : k = 1
  · subst a
    rw [if_pos rfl]
    go_enter Try.func81, Try.ntmps81
    go_wp2_with fail
    refine (HN.out _).mono ?_
    rintro e1 w1 ⟨rfl, rfl⟩
    go_wp2
    go_ret
    exact ⟨rfl, (by repeat(first|exact Gr.r _|refine Gr.a ?_|refine Gr.d ?_|refine Gr.t ?_ (by assumption)))⟩
  · rw [if_neg a, ← eqE]
    have a' : (k == 1) = false := by simpa using a
    go_enter Try.func81, Try.ntmps81
    go_wp2
    go_ret
    exact ⟨rfl, (by repeat(first|exact Gr.r _|refine Gr.a ?_|refine Gr.d ?_|refine Gr.t ?_ (by assumption)))⟩
set_option maxHeartbeats 1000000 in
theorem whyFits_any (k r n : Int) (L : List (Int × Int)) (d : ByteArray) (y : Int) (ad : Option Addr) (cap : Nat) (w : World) :
    Calls Try.prog 82 #[.agg #[.int .i64 k, .int .i64 r, .int .i64 n, .slice ad L.length cap, .string d, .int .i64 y]] w fun e w' => e = .returned (.bool (Nt.wyB ⟨k, r, n, L, d, y⟩)) ∧ Gr w w' := by
  have HW : Hid (∀ w', Calls Try.prog 71 #[.int .i64 y, .int .i64 1, .int .i64 9] w' fun e w2 => e = .returned (.bool (Nt.inB y 1 9)) ∧ w2 = w') := fun w' => within_any y 1 9 w'
  unfold Nt.wyB
  simp only
  by_cases a : k = 6
  · subst a
    rw [if_pos rfl]
    go_enter Try.func82, Try.ntmps82
    go_wp2_with fail
    refine (HW.out _).mono ?_
    rintro e1 w1 ⟨rfl, rfl⟩
    go_wp2
    go_ret
    exact ⟨rfl, (by repeat(first|exact Gr.r _|refine Gr.a ?_|refine Gr.d ?_|refine Gr.t ?_ (by assumption)))⟩
  · rw [if_neg a]
    have a' : (k == 6) = false := by simpa using a
    have b' : (y == 0) = decide (y = 0) := by rfl
    go_enter Try.func82, Try.ntmps82
    go_wp2
    go_ret
    exact ⟨rfl, (by repeat(first|exact Gr.r _|refine Gr.a ?_|refine Gr.d ?_|refine Gr.t ?_ (by assumption)))⟩
set_option maxHeartbeats 2000000 in
theorem isEmpty_any (k r n : Int) (L : List (Int × Int)) (d : ByteArray) (y : Int) (ad : Option Addr) (cap : Nat) (w : World) :
    Calls Try.prog 72 #[.agg #[.int .i64 k, .int .i64 r, .int .i64 n, .slice ad L.length cap, .string d, .int .i64 y]] w fun e w' => e = .returned (.bool (Nt.emB ⟨k, r, n, L, d, y⟩)) ∧ Gr w w' := by
  have hk : (k == 0) = decide (k = 0) := rfl
  have hr : (r == 0) = decide (r = 0) := rfl
  have hm : (n == 0) = decide (n = 0) := rfl
  have hl : ((L.length : Int) == 0) = decide (L.length = 0) := by
    by_cases h : L.length = 0 <;> simp [h]
  have hs := eqE d
  have hy : (y == 0) = decide (y = 0) := rfl
  unfold Nt.emB
  simp only
  rw [← hk, ← hr, ← hm, ← hl, ← hs, ← hy]
  clear hk hr hm hl hs hy
  cases h0 : (k == 0) with
  | false =>
    simp only [Bool.false_and]
    go_enter Try.func72, Try.ntmps72
    go_wp2
    go_ret
    exact ⟨rfl, (by repeat(first|exact Gr.r _|refine Gr.a ?_|refine Gr.d ?_|refine Gr.t ?_ (by assumption)))⟩
  | true =>
    cases h1 : (r == 0) with
    | false =>
      simp only [Bool.false_and, Bool.true_and]
      go_enter Try.func72, Try.ntmps72
      go_wp2
      go_ret
      exact ⟨rfl, (by repeat(first|exact Gr.r _|refine Gr.a ?_|refine Gr.d ?_|refine Gr.t ?_ (by assumption)))⟩
    | true =>
      cases h2 : (n == 0) with
      | false =>
        simp only [Bool.false_and, Bool.true_and]
        go_enter Try.func72, Try.ntmps72
        go_wp2
        go_ret
        exact ⟨rfl, (by repeat(first|exact Gr.r _|refine Gr.a ?_|refine Gr.d ?_|refine Gr.t ?_ (by assumption)))⟩
      | true =>
        cases h3 : ((L.length : Int) == 0) with
        | false =>
          simp only [Bool.false_and, Bool.true_and]
          go_enter Try.func72, Try.ntmps72
          go_wp2
          go_ret
          exact ⟨rfl, (by repeat(first|exact Gr.r _|refine Gr.a ?_|refine Gr.d ?_|refine Gr.t ?_ (by assumption)))⟩
        | true =>
          cases h4 : (d.toList.isEmpty) with
          | false =>
            simp only [Bool.false_and, Bool.true_and]
            go_enter Try.func72, Try.ntmps72
            go_wp2
            go_ret
            exact ⟨rfl, (by repeat(first|exact Gr.r _|refine Gr.a ?_|refine Gr.d ?_|refine Gr.t ?_ (by assumption)))⟩
          | true =>
            simp only [Bool.true_and]
            go_enter Try.func72, Try.ntmps72
            go_wp2
            go_ret
            exact ⟨rfl, (by repeat(first|exact Gr.r _|refine Gr.a ?_|refine Gr.d ?_|refine Gr.t ?_ (by assumption)))⟩
set_option maxHeartbeats 2000000 in
theorem nCheck_any (k r n : Int) (L : List (Int × Int)) (d : ByteArray) (y : Int) (ad : Option Addr) (cap : Nat) (w : World) (hL : HopsAt w ad L) (hn : L.length ≤ 9223372036854775807) (hd : d.size ≤ 9223372036854775807) :
    Calls Try.prog 58 #[.agg #[.int .i64 k, .int .i64 r, .int .i64 n, .slice ad L.length cap, .string d, .int .i64 y]] w fun e w' => e = .returned (.int .i64 (Nt.ckE ⟨k, r, n, L, d, y⟩)) ∧ Gr w w' := by
  have H0 : Hid (∀ w', Gr w w' → Calls Try.prog 71 #[.int .i64 k, .int .i64 1, .int .i64 7] w' fun e w2 => e = .returned (.bool (Nt.inB k 1 7)) ∧ Gr w' w2) := fun w' _ => (within_any k 1 7 w').mono (by rintro e w2 ⟨rfl, rfl⟩; exact ⟨rfl, Gr.refl _⟩)
  have H1 : Hid (∀ w', Gr w w' → Calls Try.prog 80 #[.agg #[.int .i64 r, .int .i64 n, .slice ad L.length cap]] w' fun e w2 => e = .returned (.bool (Nt.chB ⟨k, r, n, L, d, y⟩)) ∧ Gr w' w2) := fun w' g => isChild_any r n L ad cap w' (hL.gr g) hn
  have H2 : Hid (∀ w', Gr w w' → Calls Try.prog 81 #[.agg #[.int .i64 k, .int .i64 r, .int .i64 n, .slice ad L.length cap, .string d, .int .i64 y]] w' fun e w2 => e = .returned (.bool (Nt.dfB ⟨k, r, n, L, d, y⟩)) ∧ Gr w' w2) := fun w' _ => defFits_any k r n L d y ad cap w' hd
  have H3 : Hid (∀ w', Gr w w' → Calls Try.prog 82 #[.agg #[.int .i64 k, .int .i64 r, .int .i64 n, .slice ad L.length cap, .string d, .int .i64 y]] w' fun e w2 => e = .returned (.bool (Nt.wyB ⟨k, r, n, L, d, y⟩)) ∧ Gr w' w2) := fun w' _ => whyFits_any k r n L d y ad cap w'
  have HE : Hid (Nt.ckE ⟨k, r, n, L, d, y⟩ = if (Nt.inB k 1 7 && Nt.chB ⟨k, r, n, L, d, y⟩ && Nt.dfB ⟨k, r, n, L, d, y⟩ && Nt.wyB ⟨k, r, n, L, d, y⟩) = true then 0 else 130) := rfl
  generalize Nt.ckE ⟨k, r, n, L, d, y⟩ = R at *
  generalize Nt.inB k 1 7 = b0 at *
  generalize Nt.chB ⟨k, r, n, L, d, y⟩ = b1 at *
  generalize Nt.dfB ⟨k, r, n, L, d, y⟩ = b2 at *
  generalize Nt.wyB ⟨k, r, n, L, d, y⟩ = b3 at *
  clear hL hn hd
  cases b0 with
  | false =>
    go_enter Try.func58, Try.ntmps58
    go_wp2_with fail
    refine (H0.out _ ?_).mono ?_
    · exact (by repeat(first|exact Gr.r _|refine Gr.a ?_|refine Gr.d ?_|refine Gr.t ?_ (by assumption)))
    rintro e0 w1 ⟨rfl, hg0⟩
    have B1 := (Cs.new w [.int .i64 k, .int .i64 r, .int .i64 n, .slice ad L.length cap, .string d, .int .i64 y] 26 _ rfl).gr hg0
    have c0 := B1.at_ 0 _ rfl
    have c1 := B1.at_ 1 _ rfl
    have c2 := B1.at_ 2 _ rfl
    have c3 := B1.at_ 3 _ rfl
    have c4 := B1.at_ 4 _ rfl
    have c5 := B1.at_ 5 _ rfl
    have clt := B1.lt
    go_wp2
    go_ret
    exact ⟨by rw [HE.out]; rfl, (by repeat(first|exact Gr.r _|refine Gr.a ?_|refine Gr.d ?_|refine Gr.t ?_ (by assumption)))⟩
  | true =>
    cases b1 with
    | false =>
      go_enter Try.func58, Try.ntmps58
      go_wp2_with fail
      refine (H0.out _ ?_).mono ?_
      · exact (by repeat(first|exact Gr.r _|refine Gr.a ?_|refine Gr.d ?_|refine Gr.t ?_ (by assumption)))
      rintro e0 w1 ⟨rfl, hg0⟩
      have B1 := (Cs.new w [.int .i64 k, .int .i64 r, .int .i64 n, .slice ad L.length cap, .string d, .int .i64 y] 26 _ rfl).gr hg0
      have c0 := B1.at_ 0 _ rfl
      have c1 := B1.at_ 1 _ rfl
      have c2 := B1.at_ 2 _ rfl
      have c3 := B1.at_ 3 _ rfl
      have c4 := B1.at_ 4 _ rfl
      have c5 := B1.at_ 5 _ rfl
      have clt := B1.lt
      go_wp2_with fail
      refine (H1.out _ ?_).mono ?_
      · exact (by repeat(first|exact Gr.r _|refine Gr.a ?_|refine Gr.d ?_|refine Gr.t ?_ (by assumption)))
      rintro e1 w2 ⟨rfl, hg1⟩
      have B2 := B1.gr hg1
      have c0 := B2.at_ 0 _ rfl
      have c1 := B2.at_ 1 _ rfl
      have c2 := B2.at_ 2 _ rfl
      have c3 := B2.at_ 3 _ rfl
      have c4 := B2.at_ 4 _ rfl
      have c5 := B2.at_ 5 _ rfl
      have clt := B2.lt
      go_wp2
      go_ret
      exact ⟨by rw [HE.out]; rfl, (by repeat(first|exact Gr.r _|refine Gr.a ?_|refine Gr.d ?_|refine Gr.t ?_ (by assumption)))⟩
    | true =>
      cases b2 with
      | false =>
        go_enter Try.func58, Try.ntmps58
        go_wp2_with fail
        refine (H0.out _ ?_).mono ?_
        · exact (by repeat(first|exact Gr.r _|refine Gr.a ?_|refine Gr.d ?_|refine Gr.t ?_ (by assumption)))
        rintro e0 w1 ⟨rfl, hg0⟩
        have B1 := (Cs.new w [.int .i64 k, .int .i64 r, .int .i64 n, .slice ad L.length cap, .string d, .int .i64 y] 26 _ rfl).gr hg0
        have c0 := B1.at_ 0 _ rfl
        have c1 := B1.at_ 1 _ rfl
        have c2 := B1.at_ 2 _ rfl
        have c3 := B1.at_ 3 _ rfl
        have c4 := B1.at_ 4 _ rfl
        have c5 := B1.at_ 5 _ rfl
        have clt := B1.lt
        go_wp2_with fail
        refine (H1.out _ ?_).mono ?_
        · exact (by repeat(first|exact Gr.r _|refine Gr.a ?_|refine Gr.d ?_|refine Gr.t ?_ (by assumption)))
        rintro e1 w2 ⟨rfl, hg1⟩
        have B2 := B1.gr hg1
        have c0 := B2.at_ 0 _ rfl
        have c1 := B2.at_ 1 _ rfl
        have c2 := B2.at_ 2 _ rfl
        have c3 := B2.at_ 3 _ rfl
        have c4 := B2.at_ 4 _ rfl
        have c5 := B2.at_ 5 _ rfl
        have clt := B2.lt
        go_wp2_with fail
        refine (H2.out _ ?_).mono ?_
        · exact (by repeat(first|exact Gr.r _|refine Gr.a ?_|refine Gr.d ?_|refine Gr.t ?_ (by assumption)))
        rintro e2 w3 ⟨rfl, hg2⟩
        have B3 := B2.gr hg2
        have c0 := B3.at_ 0 _ rfl
        have c1 := B3.at_ 1 _ rfl
        have c2 := B3.at_ 2 _ rfl
        have c3 := B3.at_ 3 _ rfl
        have c4 := B3.at_ 4 _ rfl
        have c5 := B3.at_ 5 _ rfl
        have clt := B3.lt
        go_wp2
        go_ret
        exact ⟨by rw [HE.out]; rfl, (by repeat(first|exact Gr.r _|refine Gr.a ?_|refine Gr.d ?_|refine Gr.t ?_ (by assumption)))⟩
      | true =>
        cases b3 with
        | false =>
          go_enter Try.func58, Try.ntmps58
          go_wp2_with fail
          refine (H0.out _ ?_).mono ?_
          · exact (by repeat(first|exact Gr.r _|refine Gr.a ?_|refine Gr.d ?_|refine Gr.t ?_ (by assumption)))
          rintro e0 w1 ⟨rfl, hg0⟩
          have B1 := (Cs.new w [.int .i64 k, .int .i64 r, .int .i64 n, .slice ad L.length cap, .string d, .int .i64 y] 26 _ rfl).gr hg0
          have c0 := B1.at_ 0 _ rfl
          have c1 := B1.at_ 1 _ rfl
          have c2 := B1.at_ 2 _ rfl
          have c3 := B1.at_ 3 _ rfl
          have c4 := B1.at_ 4 _ rfl
          have c5 := B1.at_ 5 _ rfl
          have clt := B1.lt
          go_wp2_with fail
          refine (H1.out _ ?_).mono ?_
          · exact (by repeat(first|exact Gr.r _|refine Gr.a ?_|refine Gr.d ?_|refine Gr.t ?_ (by assumption)))
          rintro e1 w2 ⟨rfl, hg1⟩
          have B2 := B1.gr hg1
          have c0 := B2.at_ 0 _ rfl
          have c1 := B2.at_ 1 _ rfl
          have c2 := B2.at_ 2 _ rfl
          have c3 := B2.at_ 3 _ rfl
          have c4 := B2.at_ 4 _ rfl
          have c5 := B2.at_ 5 _ rfl
          have clt := B2.lt
          go_wp2_with fail
          refine (H2.out _ ?_).mono ?_
          · exact (by repeat(first|exact Gr.r _|refine Gr.a ?_|refine Gr.d ?_|refine Gr.t ?_ (by assumption)))
          rintro e2 w3 ⟨rfl, hg2⟩
          have B3 := B2.gr hg2
          have c0 := B3.at_ 0 _ rfl
          have c1 := B3.at_ 1 _ rfl
          have c2 := B3.at_ 2 _ rfl
          have c3 := B3.at_ 3 _ rfl
          have c4 := B3.at_ 4 _ rfl
          have c5 := B3.at_ 5 _ rfl
          have clt := B3.lt
          go_wp2_with fail
          refine (H3.out _ ?_).mono ?_
          · exact (by repeat(first|exact Gr.r _|refine Gr.a ?_|refine Gr.d ?_|refine Gr.t ?_ (by assumption)))
          rintro e3 w4 ⟨rfl, hg3⟩
          have B4 := B3.gr hg3
          have c0 := B4.at_ 0 _ rfl
          have c1 := B4.at_ 1 _ rfl
          have c2 := B4.at_ 2 _ rfl
          have c3 := B4.at_ 3 _ rfl
          have c4 := B4.at_ 4 _ rfl
          have c5 := B4.at_ 5 _ rfl
          have clt := B4.lt
          go_wp2
          go_ret
          exact ⟨by rw [HE.out]; rfl, (by repeat(first|exact Gr.r _|refine Gr.a ?_|refine Gr.d ?_|refine Gr.t ?_ (by assumption)))⟩
        | true =>
          go_enter Try.func58, Try.ntmps58
          go_wp2_with fail
          refine (H0.out _ ?_).mono ?_
          · exact (by repeat(first|exact Gr.r _|refine Gr.a ?_|refine Gr.d ?_|refine Gr.t ?_ (by assumption)))
          rintro e0 w1 ⟨rfl, hg0⟩
          have B1 := (Cs.new w [.int .i64 k, .int .i64 r, .int .i64 n, .slice ad L.length cap, .string d, .int .i64 y] 26 _ rfl).gr hg0
          have c0 := B1.at_ 0 _ rfl
          have c1 := B1.at_ 1 _ rfl
          have c2 := B1.at_ 2 _ rfl
          have c3 := B1.at_ 3 _ rfl
          have c4 := B1.at_ 4 _ rfl
          have c5 := B1.at_ 5 _ rfl
          have clt := B1.lt
          go_wp2_with fail
          refine (H1.out _ ?_).mono ?_
          · exact (by repeat(first|exact Gr.r _|refine Gr.a ?_|refine Gr.d ?_|refine Gr.t ?_ (by assumption)))
          rintro e1 w2 ⟨rfl, hg1⟩
          have B2 := B1.gr hg1
          have c0 := B2.at_ 0 _ rfl
          have c1 := B2.at_ 1 _ rfl
          have c2 := B2.at_ 2 _ rfl
          have c3 := B2.at_ 3 _ rfl
          have c4 := B2.at_ 4 _ rfl
          have c5 := B2.at_ 5 _ rfl
          have clt := B2.lt
          go_wp2_with fail
          refine (H2.out _ ?_).mono ?_
          · exact (by repeat(first|exact Gr.r _|refine Gr.a ?_|refine Gr.d ?_|refine Gr.t ?_ (by assumption)))
          rintro e2 w3 ⟨rfl, hg2⟩
          have B3 := B2.gr hg2
          have c0 := B3.at_ 0 _ rfl
          have c1 := B3.at_ 1 _ rfl
          have c2 := B3.at_ 2 _ rfl
          have c3 := B3.at_ 3 _ rfl
          have c4 := B3.at_ 4 _ rfl
          have c5 := B3.at_ 5 _ rfl
          have clt := B3.lt
          go_wp2_with fail
          refine (H3.out _ ?_).mono ?_
          · exact (by repeat(first|exact Gr.r _|refine Gr.a ?_|refine Gr.d ?_|refine Gr.t ?_ (by assumption)))
          rintro e3 w4 ⟨rfl, hg3⟩
          have B4 := B3.gr hg3
          have c0 := B4.at_ 0 _ rfl
          have c1 := B4.at_ 1 _ rfl
          have c2 := B4.at_ 2 _ rfl
          have c3 := B4.at_ 3 _ rfl
          have c4 := B4.at_ 4 _ rfl
          have c5 := B4.at_ 5 _ rfl
          have clt := B4.lt
          go_wp2
          go_ret
          exact ⟨by rw [HE.out]; rfl, (by repeat(first|exact Gr.r _|refine Gr.a ?_|refine Gr.d ?_|refine Gr.t ?_ (by assumption)))⟩
set_option maxHeartbeats 2000000 in
theorem countsFit_any (fr tx ep sq ae ac k r n : Int) (L : List (Int × Int)) (d : ByteArray) (y : Int) (ad : Option Addr) (cap : Nat) (w : World) :
    Calls Try.prog 46 #[.agg #[.int .i64 fr, .int .i64 tx, .int .i64 ep, .int .i64 sq, .int .i64 ae, .int .i64 ac, .int .i64 k, .int .i64 r, .int .i64 n, .slice ad L.length cap, .string d, .int .i64 y]] w fun e w' => e = .returned (.bool (Nt.cnB ⟨fr, tx, ep, sq, ae, ac, ⟨k, r, n, L, d, y⟩⟩)) ∧ Gr w w' := by
  have H0 : Hid (∀ w', Gr w w' → Calls Try.prog 71 #[.int .i64 ep, .int .i64 1, .int .i64 1000000000] w' fun e w2 => e = .returned (.bool (Nt.inB ep 1 1000000000)) ∧ Gr w' w2) := fun w' _ => (within_any ep 1 1000000000 w').mono (by rintro e w2 ⟨rfl, rfl⟩; exact ⟨rfl, Gr.refl _⟩)
  have H1 : Hid (∀ w', Gr w w' → Calls Try.prog 71 #[.int .i64 sq, .int .i64 0, .int .i64 1000000000] w' fun e w2 => e = .returned (.bool (Nt.inB sq 0 1000000000)) ∧ Gr w' w2) := fun w' _ => (within_any sq 0 1000000000 w').mono (by rintro e w2 ⟨rfl, rfl⟩; exact ⟨rfl, Gr.refl _⟩)
  have H2 : Hid (∀ w', Gr w w' → Calls Try.prog 71 #[.int .i64 ae, .int .i64 0, .int .i64 1000000000] w' fun e w2 => e = .returned (.bool (Nt.inB ae 0 1000000000)) ∧ Gr w' w2) := fun w' _ => (within_any ae 0 1000000000 w').mono (by rintro e w2 ⟨rfl, rfl⟩; exact ⟨rfl, Gr.refl _⟩)
  have H3 : Hid (∀ w', Gr w w' → Calls Try.prog 71 #[.int .i64 ac, .int .i64 0, .int .i64 1000000000] w' fun e w2 => e = .returned (.bool (Nt.inB ac 0 1000000000)) ∧ Gr w' w2) := fun w' _ => (within_any ac 0 1000000000 w').mono (by rintro e w2 ⟨rfl, rfl⟩; exact ⟨rfl, Gr.refl _⟩)
  have HE : Hid (Nt.cnB ⟨fr, tx, ep, sq, ae, ac, ⟨k, r, n, L, d, y⟩⟩ = (Nt.inB ep 1 1000000000 && Nt.inB sq 0 1000000000 && Nt.inB ae 0 1000000000 && Nt.inB ac 0 1000000000)) := rfl
  generalize Nt.cnB ⟨fr, tx, ep, sq, ae, ac, ⟨k, r, n, L, d, y⟩⟩ = R at *
  generalize Nt.inB ep 1 1000000000 = b0 at *
  generalize Nt.inB sq 0 1000000000 = b1 at *
  generalize Nt.inB ae 0 1000000000 = b2 at *
  generalize Nt.inB ac 0 1000000000 = b3 at *
  cases b0 with
  | false =>
    go_enter Try.func46, Try.ntmps46
    go_wp2_with fail
    refine (H0.out _ ?_).mono ?_
    · exact (by repeat(first|exact Gr.r _|refine Gr.a ?_|refine Gr.d ?_|refine Gr.t ?_ (by assumption)))
    rintro e0 w1 ⟨rfl, hg0⟩
    have B1 := (Cs.new w [.int .i64 fr, .int .i64 tx, .int .i64 ep, .int .i64 sq, .int .i64 ae, .int .i64 ac, .int .i64 k, .int .i64 r, .int .i64 n, .slice ad L.length cap, .string d, .int .i64 y] 28 _ rfl).gr hg0
    have c0 := B1.at_ 0 _ rfl
    have c1 := B1.at_ 1 _ rfl
    have c2 := B1.at_ 2 _ rfl
    have c3 := B1.at_ 3 _ rfl
    have c4 := B1.at_ 4 _ rfl
    have c5 := B1.at_ 5 _ rfl
    have c6 := B1.at_ 6 _ rfl
    have c7 := B1.at_ 7 _ rfl
    have c8 := B1.at_ 8 _ rfl
    have c9 := B1.at_ 9 _ rfl
    have c10 := B1.at_ 10 _ rfl
    have c11 := B1.at_ 11 _ rfl
    have clt := B1.lt
    go_wp2
    go_ret
    exact ⟨by rw [HE.out]; rfl, (by repeat(first|exact Gr.r _|refine Gr.a ?_|refine Gr.d ?_|refine Gr.t ?_ (by assumption)))⟩
  | true =>
    cases b1 with
    | false =>
      go_enter Try.func46, Try.ntmps46
      go_wp2_with fail
      refine (H0.out _ ?_).mono ?_
      · exact (by repeat(first|exact Gr.r _|refine Gr.a ?_|refine Gr.d ?_|refine Gr.t ?_ (by assumption)))
      rintro e0 w1 ⟨rfl, hg0⟩
      have B1 := (Cs.new w [.int .i64 fr, .int .i64 tx, .int .i64 ep, .int .i64 sq, .int .i64 ae, .int .i64 ac, .int .i64 k, .int .i64 r, .int .i64 n, .slice ad L.length cap, .string d, .int .i64 y] 28 _ rfl).gr hg0
      have c0 := B1.at_ 0 _ rfl
      have c1 := B1.at_ 1 _ rfl
      have c2 := B1.at_ 2 _ rfl
      have c3 := B1.at_ 3 _ rfl
      have c4 := B1.at_ 4 _ rfl
      have c5 := B1.at_ 5 _ rfl
      have c6 := B1.at_ 6 _ rfl
      have c7 := B1.at_ 7 _ rfl
      have c8 := B1.at_ 8 _ rfl
      have c9 := B1.at_ 9 _ rfl
      have c10 := B1.at_ 10 _ rfl
      have c11 := B1.at_ 11 _ rfl
      have clt := B1.lt
      go_wp2_with fail
      refine (H1.out _ ?_).mono ?_
      · exact (by repeat(first|exact Gr.r _|refine Gr.a ?_|refine Gr.d ?_|refine Gr.t ?_ (by assumption)))
      rintro e1 w2 ⟨rfl, hg1⟩
      have B2 := B1.gr hg1
      have c0 := B2.at_ 0 _ rfl
      have c1 := B2.at_ 1 _ rfl
      have c2 := B2.at_ 2 _ rfl
      have c3 := B2.at_ 3 _ rfl
      have c4 := B2.at_ 4 _ rfl
      have c5 := B2.at_ 5 _ rfl
      have c6 := B2.at_ 6 _ rfl
      have c7 := B2.at_ 7 _ rfl
      have c8 := B2.at_ 8 _ rfl
      have c9 := B2.at_ 9 _ rfl
      have c10 := B2.at_ 10 _ rfl
      have c11 := B2.at_ 11 _ rfl
      have clt := B2.lt
      go_wp2
      go_ret
      exact ⟨by rw [HE.out]; rfl, (by repeat(first|exact Gr.r _|refine Gr.a ?_|refine Gr.d ?_|refine Gr.t ?_ (by assumption)))⟩
    | true =>
      cases b2 with
      | false =>
        go_enter Try.func46, Try.ntmps46
        go_wp2_with fail
        refine (H0.out _ ?_).mono ?_
        · exact (by repeat(first|exact Gr.r _|refine Gr.a ?_|refine Gr.d ?_|refine Gr.t ?_ (by assumption)))
        rintro e0 w1 ⟨rfl, hg0⟩
        have B1 := (Cs.new w [.int .i64 fr, .int .i64 tx, .int .i64 ep, .int .i64 sq, .int .i64 ae, .int .i64 ac, .int .i64 k, .int .i64 r, .int .i64 n, .slice ad L.length cap, .string d, .int .i64 y] 28 _ rfl).gr hg0
        have c0 := B1.at_ 0 _ rfl
        have c1 := B1.at_ 1 _ rfl
        have c2 := B1.at_ 2 _ rfl
        have c3 := B1.at_ 3 _ rfl
        have c4 := B1.at_ 4 _ rfl
        have c5 := B1.at_ 5 _ rfl
        have c6 := B1.at_ 6 _ rfl
        have c7 := B1.at_ 7 _ rfl
        have c8 := B1.at_ 8 _ rfl
        have c9 := B1.at_ 9 _ rfl
        have c10 := B1.at_ 10 _ rfl
        have c11 := B1.at_ 11 _ rfl
        have clt := B1.lt
        go_wp2_with fail
        refine (H1.out _ ?_).mono ?_
        · exact (by repeat(first|exact Gr.r _|refine Gr.a ?_|refine Gr.d ?_|refine Gr.t ?_ (by assumption)))
        rintro e1 w2 ⟨rfl, hg1⟩
        have B2 := B1.gr hg1
        have c0 := B2.at_ 0 _ rfl
        have c1 := B2.at_ 1 _ rfl
        have c2 := B2.at_ 2 _ rfl
        have c3 := B2.at_ 3 _ rfl
        have c4 := B2.at_ 4 _ rfl
        have c5 := B2.at_ 5 _ rfl
        have c6 := B2.at_ 6 _ rfl
        have c7 := B2.at_ 7 _ rfl
        have c8 := B2.at_ 8 _ rfl
        have c9 := B2.at_ 9 _ rfl
        have c10 := B2.at_ 10 _ rfl
        have c11 := B2.at_ 11 _ rfl
        have clt := B2.lt
        go_wp2_with fail
        refine (H2.out _ ?_).mono ?_
        · exact (by repeat(first|exact Gr.r _|refine Gr.a ?_|refine Gr.d ?_|refine Gr.t ?_ (by assumption)))
        rintro e2 w3 ⟨rfl, hg2⟩
        have B3 := B2.gr hg2
        have c0 := B3.at_ 0 _ rfl
        have c1 := B3.at_ 1 _ rfl
        have c2 := B3.at_ 2 _ rfl
        have c3 := B3.at_ 3 _ rfl
        have c4 := B3.at_ 4 _ rfl
        have c5 := B3.at_ 5 _ rfl
        have c6 := B3.at_ 6 _ rfl
        have c7 := B3.at_ 7 _ rfl
        have c8 := B3.at_ 8 _ rfl
        have c9 := B3.at_ 9 _ rfl
        have c10 := B3.at_ 10 _ rfl
        have c11 := B3.at_ 11 _ rfl
        have clt := B3.lt
        go_wp2
        go_ret
        exact ⟨by rw [HE.out]; rfl, (by repeat(first|exact Gr.r _|refine Gr.a ?_|refine Gr.d ?_|refine Gr.t ?_ (by assumption)))⟩
      | true =>
        cases b3 with
        | false =>
          go_enter Try.func46, Try.ntmps46
          go_wp2_with fail
          refine (H0.out _ ?_).mono ?_
          · exact (by repeat(first|exact Gr.r _|refine Gr.a ?_|refine Gr.d ?_|refine Gr.t ?_ (by assumption)))
          rintro e0 w1 ⟨rfl, hg0⟩
          have B1 := (Cs.new w [.int .i64 fr, .int .i64 tx, .int .i64 ep, .int .i64 sq, .int .i64 ae, .int .i64 ac, .int .i64 k, .int .i64 r, .int .i64 n, .slice ad L.length cap, .string d, .int .i64 y] 28 _ rfl).gr hg0
          have c0 := B1.at_ 0 _ rfl
          have c1 := B1.at_ 1 _ rfl
          have c2 := B1.at_ 2 _ rfl
          have c3 := B1.at_ 3 _ rfl
          have c4 := B1.at_ 4 _ rfl
          have c5 := B1.at_ 5 _ rfl
          have c6 := B1.at_ 6 _ rfl
          have c7 := B1.at_ 7 _ rfl
          have c8 := B1.at_ 8 _ rfl
          have c9 := B1.at_ 9 _ rfl
          have c10 := B1.at_ 10 _ rfl
          have c11 := B1.at_ 11 _ rfl
          have clt := B1.lt
          go_wp2_with fail
          refine (H1.out _ ?_).mono ?_
          · exact (by repeat(first|exact Gr.r _|refine Gr.a ?_|refine Gr.d ?_|refine Gr.t ?_ (by assumption)))
          rintro e1 w2 ⟨rfl, hg1⟩
          have B2 := B1.gr hg1
          have c0 := B2.at_ 0 _ rfl
          have c1 := B2.at_ 1 _ rfl
          have c2 := B2.at_ 2 _ rfl
          have c3 := B2.at_ 3 _ rfl
          have c4 := B2.at_ 4 _ rfl
          have c5 := B2.at_ 5 _ rfl
          have c6 := B2.at_ 6 _ rfl
          have c7 := B2.at_ 7 _ rfl
          have c8 := B2.at_ 8 _ rfl
          have c9 := B2.at_ 9 _ rfl
          have c10 := B2.at_ 10 _ rfl
          have c11 := B2.at_ 11 _ rfl
          have clt := B2.lt
          go_wp2_with fail
          refine (H2.out _ ?_).mono ?_
          · exact (by repeat(first|exact Gr.r _|refine Gr.a ?_|refine Gr.d ?_|refine Gr.t ?_ (by assumption)))
          rintro e2 w3 ⟨rfl, hg2⟩
          have B3 := B2.gr hg2
          have c0 := B3.at_ 0 _ rfl
          have c1 := B3.at_ 1 _ rfl
          have c2 := B3.at_ 2 _ rfl
          have c3 := B3.at_ 3 _ rfl
          have c4 := B3.at_ 4 _ rfl
          have c5 := B3.at_ 5 _ rfl
          have c6 := B3.at_ 6 _ rfl
          have c7 := B3.at_ 7 _ rfl
          have c8 := B3.at_ 8 _ rfl
          have c9 := B3.at_ 9 _ rfl
          have c10 := B3.at_ 10 _ rfl
          have c11 := B3.at_ 11 _ rfl
          have clt := B3.lt
          go_wp2_with fail
          refine (H3.out _ ?_).mono ?_
          · exact (by repeat(first|exact Gr.r _|refine Gr.a ?_|refine Gr.d ?_|refine Gr.t ?_ (by assumption)))
          rintro e3 w4 ⟨rfl, hg3⟩
          have B4 := B3.gr hg3
          have c0 := B4.at_ 0 _ rfl
          have c1 := B4.at_ 1 _ rfl
          have c2 := B4.at_ 2 _ rfl
          have c3 := B4.at_ 3 _ rfl
          have c4 := B4.at_ 4 _ rfl
          have c5 := B4.at_ 5 _ rfl
          have c6 := B4.at_ 6 _ rfl
          have c7 := B4.at_ 7 _ rfl
          have c8 := B4.at_ 8 _ rfl
          have c9 := B4.at_ 9 _ rfl
          have c10 := B4.at_ 10 _ rfl
          have c11 := B4.at_ 11 _ rfl
          have clt := B4.lt
          go_wp2
          go_ret
          exact ⟨by rw [HE.out]; rfl, (by repeat(first|exact Gr.r _|refine Gr.a ?_|refine Gr.d ?_|refine Gr.t ?_ (by assumption)))⟩
        | true =>
          go_enter Try.func46, Try.ntmps46
          go_wp2_with fail
          refine (H0.out _ ?_).mono ?_
          · exact (by repeat(first|exact Gr.r _|refine Gr.a ?_|refine Gr.d ?_|refine Gr.t ?_ (by assumption)))
          rintro e0 w1 ⟨rfl, hg0⟩
          have B1 := (Cs.new w [.int .i64 fr, .int .i64 tx, .int .i64 ep, .int .i64 sq, .int .i64 ae, .int .i64 ac, .int .i64 k, .int .i64 r, .int .i64 n, .slice ad L.length cap, .string d, .int .i64 y] 28 _ rfl).gr hg0
          have c0 := B1.at_ 0 _ rfl
          have c1 := B1.at_ 1 _ rfl
          have c2 := B1.at_ 2 _ rfl
          have c3 := B1.at_ 3 _ rfl
          have c4 := B1.at_ 4 _ rfl
          have c5 := B1.at_ 5 _ rfl
          have c6 := B1.at_ 6 _ rfl
          have c7 := B1.at_ 7 _ rfl
          have c8 := B1.at_ 8 _ rfl
          have c9 := B1.at_ 9 _ rfl
          have c10 := B1.at_ 10 _ rfl
          have c11 := B1.at_ 11 _ rfl
          have clt := B1.lt
          go_wp2_with fail
          refine (H1.out _ ?_).mono ?_
          · exact (by repeat(first|exact Gr.r _|refine Gr.a ?_|refine Gr.d ?_|refine Gr.t ?_ (by assumption)))
          rintro e1 w2 ⟨rfl, hg1⟩
          have B2 := B1.gr hg1
          have c0 := B2.at_ 0 _ rfl
          have c1 := B2.at_ 1 _ rfl
          have c2 := B2.at_ 2 _ rfl
          have c3 := B2.at_ 3 _ rfl
          have c4 := B2.at_ 4 _ rfl
          have c5 := B2.at_ 5 _ rfl
          have c6 := B2.at_ 6 _ rfl
          have c7 := B2.at_ 7 _ rfl
          have c8 := B2.at_ 8 _ rfl
          have c9 := B2.at_ 9 _ rfl
          have c10 := B2.at_ 10 _ rfl
          have c11 := B2.at_ 11 _ rfl
          have clt := B2.lt
          go_wp2_with fail
          refine (H2.out _ ?_).mono ?_
          · exact (by repeat(first|exact Gr.r _|refine Gr.a ?_|refine Gr.d ?_|refine Gr.t ?_ (by assumption)))
          rintro e2 w3 ⟨rfl, hg2⟩
          have B3 := B2.gr hg2
          have c0 := B3.at_ 0 _ rfl
          have c1 := B3.at_ 1 _ rfl
          have c2 := B3.at_ 2 _ rfl
          have c3 := B3.at_ 3 _ rfl
          have c4 := B3.at_ 4 _ rfl
          have c5 := B3.at_ 5 _ rfl
          have c6 := B3.at_ 6 _ rfl
          have c7 := B3.at_ 7 _ rfl
          have c8 := B3.at_ 8 _ rfl
          have c9 := B3.at_ 9 _ rfl
          have c10 := B3.at_ 10 _ rfl
          have c11 := B3.at_ 11 _ rfl
          have clt := B3.lt
          go_wp2_with fail
          refine (H3.out _ ?_).mono ?_
          · exact (by repeat(first|exact Gr.r _|refine Gr.a ?_|refine Gr.d ?_|refine Gr.t ?_ (by assumption)))
          rintro e3 w4 ⟨rfl, hg3⟩
          have B4 := B3.gr hg3
          have c0 := B4.at_ 0 _ rfl
          have c1 := B4.at_ 1 _ rfl
          have c2 := B4.at_ 2 _ rfl
          have c3 := B4.at_ 3 _ rfl
          have c4 := B4.at_ 4 _ rfl
          have c5 := B4.at_ 5 _ rfl
          have c6 := B4.at_ 6 _ rfl
          have c7 := B4.at_ 7 _ rfl
          have c8 := B4.at_ 8 _ rfl
          have c9 := B4.at_ 9 _ rfl
          have c10 := B4.at_ 10 _ rfl
          have c11 := B4.at_ 11 _ rfl
          have clt := B4.lt
          go_wp2
          go_ret
          exact ⟨by rw [HE.out]; rfl, (by repeat(first|exact Gr.r _|refine Gr.a ?_|refine Gr.d ?_|refine Gr.t ?_ (by assumption)))⟩
end Go.Proofs.Ythfbpilfdfploaa
namespace Go.Proofs.Ythfbpilfdfploaa
open Go.RowKit

variable {Z : Nat → Prop}
def ckB (x : Nt) : Bool := Nt.ckE x == 0
theorem ck_okN (x : Nt) : (Nt.ckE x == 0) = okN (pk x) := by
  rw [okN_pk]
  unfold Nt.ckE
  cases Nt.ntB x <;> rfl
theorem one_parts (q d s : Int) (x : Nt) (c : Bool) (hc : c = okN (pk x)) : Ox.one okN (⟨q, d, s, pk x⟩ : Ox.It Nx) = (Nt.inB q 1 1000000000 && Nt.inB d 0 1000000016 && Nt.inB s 0 1000000 && c) := by
  subst hc
  unfold Ox.one Nt.inB
  rw [Bool.eq_iff_iff]
  simp only [Bool.and_eq_true, decide_eq_true_eq]
  constructor
  · rintro ⟨⟨⟨h1, h2⟩, h3⟩, h4⟩; exact ⟨⟨⟨h1, h3⟩, h4⟩, h2⟩
  · rintro ⟨⟨⟨h1, h3⟩, h4⟩, h2⟩; exact ⟨⟨⟨h1, h2⟩, h3⟩, h4⟩
set_option maxHeartbeats 2000000 in
set_option maxRecDepth 100000 in
theorem itemMay_any (x : Mi) (w : World) (h : MnAt Z w x.m) :
    Calls Try.prog 65 #[x.v] w fun e w' => e = .returned (.bool (Ox.one okN x.it)) ∧ Gr w w' := by
  have HN : Hid (∀ w', Gr w w' → Calls Try.prog 58 #[x.m.v] w' fun e w2 => e = .returned (.int .i64 (Nt.ckE x.m.x)) ∧ Gr w' w2) := fun w' g => nCheck_any x.m.x.k x.m.x.r x.m.x.n x.m.x.L x.m.x.d x.m.x.y x.m.ad x.m.cap w' (h.hp.gr g) h.hl h.hd
  have HW0 : Hid (∀ w', Calls Try.prog 61 #[.int .i64 x.q, .int .i64 1, .int .i64 1000000000] w' fun e w2 => e = .returned (.bool (Nt.inB x.q 1 1000000000)) ∧ w2 = w') := fun w' => oWithin_any _ _ _ w'
  have HW1 : Hid (∀ w', Calls Try.prog 61 #[.int .i64 x.d, .int .i64 0, .int .i64 1000000016] w' fun e w2 => e = .returned (.bool (Nt.inB x.d 0 1000000016)) ∧ w2 = w') := fun w' => oWithin_any _ _ _ w'
  have HW2 : Hid (∀ w', Calls Try.prog 61 #[.int .i64 x.s, .int .i64 0, .int .i64 1000000] w' fun e w2 => e = .returned (.bool (Nt.inB x.s 0 1000000)) ∧ w2 = w') := fun w' => oWithin_any _ _ _ w'
  have HE : Hid (Ox.one okN x.it = (Nt.inB x.q 1 1000000000 && Nt.inB x.d 0 1000000016 && Nt.inB x.s 0 1000000 && (Nt.ckE x.m.x == 0))) := one_parts _ _ _ _ _ (ck_okN _)
  generalize Ox.one okN x.it = R at *
  generalize Nt.inB x.q 1 1000000000 = b0 at *
  generalize Nt.inB x.d 0 1000000016 = b1 at *
  generalize Nt.inB x.s 0 1000000 = b2 at *
  generalize Nt.ckE x.m.x = c at *
  clear h
  obtain ⟨q, dd, s, ⟨⟨k, r, n, L, d, y⟩, ad, cap⟩⟩ := x
  dsimp only [Mn.v, Mi.v] at *
  generalize L.length = ll at *
  cases b0 with
  | false =>
    go_enter Try.func65, Try.ntmps65
    go_wp2_with fail
    refine (HW0.out _).mono ?_
    rintro e1 w1 ⟨rfl, hw1⟩; obtain rfl := hw1.symm
    go_wp2
    go_ret
    exact ⟨by rw [HE.out]; rfl, (by repeat(first|exact Gr.r _|refine Gr.a ?_|refine Gr.d ?_|refine Gr.t ?_ (by assumption)))⟩
  | true =>
    cases b1 with
    | false =>
      go_enter Try.func65, Try.ntmps65
      go_wp2_with fail
      refine (HW0.out _).mono ?_
      rintro e1 w1 ⟨rfl, hw1⟩; obtain rfl := hw1.symm
      go_wp2_with fail
      refine (HW1.out _).mono ?_
      rintro e1 w1 ⟨rfl, hw1⟩; obtain rfl := hw1.symm
      go_wp2
      go_ret
      exact ⟨by rw [HE.out]; rfl, (by repeat(first|exact Gr.r _|refine Gr.a ?_|refine Gr.d ?_|refine Gr.t ?_ (by assumption)))⟩
    | true =>
      cases b2 with
      | false =>
        go_enter Try.func65, Try.ntmps65
        go_wp2_with fail
        refine (HW0.out _).mono ?_
        rintro e1 w1 ⟨rfl, hw1⟩; obtain rfl := hw1.symm
        go_wp2_with fail
        refine (HW1.out _).mono ?_
        rintro e1 w1 ⟨rfl, hw1⟩; obtain rfl := hw1.symm
        go_wp2_with fail
        refine (HW2.out _).mono ?_
        rintro e1 w1 ⟨rfl, hw1⟩; obtain rfl := hw1.symm
        go_wp2
        go_ret
        exact ⟨by rw [HE.out]; rfl, (by repeat(first|exact Gr.r _|refine Gr.a ?_|refine Gr.d ?_|refine Gr.t ?_ (by assumption)))⟩
      | true =>
        go_enter Try.func65, Try.ntmps65
        go_wp2_with fail
        refine (HW0.out _).mono ?_
        rintro e1 w1 ⟨rfl, hw1⟩; obtain rfl := hw1.symm
        go_wp2_with fail
        refine (HW1.out _).mono ?_
        rintro e1 w1 ⟨rfl, hw1⟩; obtain rfl := hw1.symm
        go_wp2_with fail
        refine (HW2.out _).mono ?_
        rintro e1 w1 ⟨rfl, hw1⟩; obtain rfl := hw1.symm
        go_wp2_with fail
        refine (HN.out _ ?_).mono ?_
        · exact (by repeat(first|exact Gr.r _|refine Gr.a ?_|refine Gr.d ?_|refine Gr.t ?_ (by assumption)))
        rintro e1 w1 ⟨rfl, hg1⟩
        go_wp2
        go_ret
        exact ⟨by rw [HE.out]; rfl, (by repeat(first|exact Gr.r _|refine Gr.a ?_|refine Gr.d ?_|refine Gr.t ?_ (by assumption)))⟩

/- an outbox: place by place -/
def oMayE (D : List Mi) : Int := if Ox.mayB okN (its D) = true then 0 else 2
theorem oMayE_big {D : List Mi} (h : 12 < D.length) : oMayE D = 2 := by
  unfold oMayE Ox.mayB
  rw [its_len, decide_eq_false (by omega)]; rfl
theorem oMayE_no {D : List Mi} {k : Nat} (hk : k < D.length) (h : Ox.at_ okN (its D) k = false) : oMayE D = 2 := by
  unfold oMayE
  rw [Ox.mayB_no (by rw [its_len]; exact hk) h]; rfl
theorem oMayE_yes {D : List Mi} (hl : D.length ≤ 12) (h : ∀ j, j < D.length → Ox.at_ okN (its D) j = true) : oMayE D = 0 := by
  unfold oMayE Ox.mayB
  rw [its_len, decide_eq_true hl, Bool.true_and, List.all_eq_true.2 (fun j hj => h j (List.mem_range.1 hj))]; rfl
theorem at_zero {D : List Mi} (h : 0 < D.length) : Ox.at_ okN (its D) 0 = (Ox.one okN D[0].it && !Ox.among (its (D.take 0)) (pk D[0].m.x)) := by
  unfold Ox.at_
  rw [its_get? D 0 h, its_take]
  simp [Mi.it]
theorem at_succ {D : List Mi} {k : Nat} (h : k + 1 < D.length) : Ox.at_ okN (its D) (k + 1) = (Ox.one okN D[k + 1].it && !decide (D[k + 1].q ≤ D[k].q) && !Ox.among (its (D.take (k + 1))) (pk D[k + 1].m.x)) := by
  unfold Ox.at_
  rw [its_get? D (k + 1) h, its_take]
  simp only [Nat.add_sub_cancel, its_get? D k (by omega)]
  have : decide (k + 1 = 0) = false := by simp
  rw [this, Bool.false_or]
  have e : (decide (D[k].it.q < D[k + 1].it.q)) = !decide (D[k + 1].q ≤ D[k].q) := by
    show decide (D[k].q < D[k + 1].q) = _
    rw [Bool.eq_iff_iff]; simp
  rw [e]; rfl
/- an item in a box, and one cell beside it, are kept -/
theorem hold10 {a b : World} (g : Gr a b) {B : Nat} {v0 v1 v2 v3 v4 v5 v6 v7 v8 : Value} (h : Cs a B [v0, v1, v2, v3, v4, v5, v6, v7, v8]) {p : Addr} {u : Value} (hp : a.cell? p = some u) :
    Gr a b ∧ b.cell? ⟨B, 0, none⟩ = some v0 ∧ b.cell? ⟨B, 1, none⟩ = some v1 ∧ b.cell? ⟨B, 2, none⟩ = some v2 ∧ b.cell? ⟨B, 3, none⟩ = some v3 ∧ b.cell? ⟨B, 4, none⟩ = some v4 ∧ b.cell? ⟨B, 5, none⟩ = some v5 ∧ b.cell? ⟨B, 6, none⟩ = some v6 ∧ b.cell? ⟨B, 7, none⟩ = some v7 ∧ b.cell? ⟨B, 8, none⟩ = some v8 ∧ b.cell? p = some u :=
  ⟨g, g.keep (h.at_ 0 _ rfl), g.keep (h.at_ 1 _ rfl), g.keep (h.at_ 2 _ rfl), g.keep (h.at_ 3 _ rfl), g.keep (h.at_ 4 _ rfl), g.keep (h.at_ 5 _ rfl), g.keep (h.at_ 6 _ rfl), g.keep (h.at_ 7 _ rfl), g.keep (h.at_ 8 _ rfl), g.keep hp⟩
end Go.Proofs.Ythfbpilfdfploaa
namespace Go.Proofs.Ythfbpilfdfploaa
open Go.RowKit

variable {Z : Nat → Prop}
/- hops anew, whether there is a row or none -/
set_option maxHeartbeats 1000000 in
set_option maxRecDepth 100000 in
theorem cloneAll_any (L : List (Int × Int)) (ad : Option Addr) (cap : Nat) (w : World) (hL : HopsAt w ad L) (hn : L.length ≤ 1000) :
    Calls Try.prog 84 #[.slice ad L.length cap] w fun e w' => ∃ ad2 cap2, e = .returned (.slice ad2 L.length cap2) ∧ L.length ≤ cap2 ∧ HopsAt w' ad2 L ∧ (∀ a, ad2 = some a → w.heap.size ≤ a.block) ∧ Gr w w' := by
  cases ad with
  | none =>
    cases L with
    | cons x l => obtain ⟨_, _, e, _⟩ := hL 0 (by simp); cases e
    | nil =>
      clear hL hn
      have he : ∀ w : World, (binOp .eql 22 (.slice none 0 cap) (.slice none 0 0)).run Try.prog w = .ok (.bool true) w := fun _ => rfl
      go_enter Try.func84, Try.ntmps84
      go_wp2
      go_ret
      exact ⟨none, 0, rfl, by simp, HopsAt.nil, (fun a e => by cases e), (by repeat(first|exact Gr.r _|refine Gr.a ?_|refine Gr.d ?_|refine Gr.t ?_ (by assumption)))⟩
  | some a =>
    obtain ⟨i0, hi, hz0, hz1, hz2⟩ := info_parts infoHop
    have HN : Hid (∀ j u, (hopV L)[j]? = some u → (w.alloc (.cells #[] 83)).cell? (a.add j) = some u) := by
      intro j u hu
      cases L with
      | nil => simp [hopV] at hu
      | cons x l =>
        obtain ⟨b, off, e, _⟩ := hL 0 (by simp)
        cases e
        exact (hL.gr ((Gr.refl w).alloc (o := .cells #[] 83))).news j u hu
    have hln := hopV_len L
    have hm1 : 0 + L.length ≤ maxLen := by unfold maxLen; omega
    clear hL
    have he : ∀ w : World, (binOp .eql 22 (.slice (some a) L.length cap) (.slice none 0 0)).run Try.prog w = .ok (.bool false) w := fun _ => rfl
    go_enter Try.func84, Try.ntmps84
    go_wp2_with (first
      | (at_builtin; refine wpList_append_own _ rfl _ _ 22 rfl w.heap.size 83 i0 (.agg #[.int .i64 0, .int .i64 0]) 2 16 Try.underlying22 hi hz0 hz1 hz2 rfl (by decide) _ _ _ rfl (own_lit0 _ _ _ _ (by simp) (by simp)) a L.length cap (hopV L) rfl hln HN.out (hopV_one L) hm1 (by omega) (by simp) ?_)
      | fail)
    intro v' w1 hown' hgrow _
    obtain ⟨ad2, cap2, rfl, hcp, hia, hfr⟩ := own_hops hown'
    have HI : Hid (HopsAt w1 ad2 L) := hia
    have HFR : Hid (∀ a, ad2 = some a → w.heap.size ≤ a.block) := hfr
    have hb1 : Below w.heap.size w (w.alloc (.cells #[] 83)) := (Below.refl w.heap.size w).alloc (Nat.le_refl _) _
    have HG : Hid (Gr w w1) := ⟨hb1.grown hgrow (by simp) (fun k hk => by simp [Value.ownBlock] at hk; omega)⟩
    clear hown' hia hfr
    go_wp2
    go_ret
    exact ⟨ad2, cap2, rfl, hcp, HI.out, HFR.out, HG.out⟩

/- a note in new memory -/
def CnR (Z : Nat → Prop) (m : Mn) (w : World) (e : Ending) (w' : World) : Prop :=
  ∃ a c, e = .returned (Mn.v ⟨m.x, a, c⟩) ∧ MnAt Z w' ⟨m.x, a, c⟩ ∧ (∀ p, a = some p → w.heap.size ≤ p.block) ∧ Gr w w'
set_option maxHeartbeats 4000000 in
set_option maxRecDepth 100000 in
theorem copiedNote_any (m : Mn) (w : World) (hZ : Frs Z w) (h : MnAt Z w m) (hn : m.x.L.length ≤ 1000) (hd : m.x.d.size ≤ 1000) :
    Calls Try.prog 74 #[m.v] w fun e w' => CnR Z m w e w' := by
  obtain ⟨⟨k, r, n, L, d, y⟩, ad, cap⟩ := m
  have HC : Hid (∀ w', Gr w w' → Calls Try.prog 84 #[.slice ad L.length cap] w' fun e w2 => ∃ ad2 cap2, e = .returned (.slice ad2 L.length cap2) ∧ L.length ≤ cap2 ∧ HopsAt w2 ad2 L ∧ (∀ a, ad2 = some a → w'.heap.size ≤ a.block) ∧ Gr w' w2) := fun w' g => cloneAll_any L ad cap w' (h.hp.gr g) hn
  have HS : Hid (∀ w', Calls Try.prog 57 #[.string d] w' fun e w2 => e = .returned (.string d) ∧ Gr w' w2) := fun w' => sclone_any d w' (by simp only at hd; omega)
  have HL : Hid (L.length ≤ 9223372036854775807 ∧ d.size ≤ 9223372036854775807) := ⟨h.hl, h.hd⟩
  clear h
  dsimp only [Mn.v] at *
  have hll : Hid (∀ w' a c, HopsAt w' a L → L.length ≤ c → (∀ p, a = some p → w.heap.size ≤ p.block) → MnAt Z w' ⟨⟨k, r, n, L, d, y⟩, a, c⟩) := fun w' a c h1 h2 h3 => ⟨h1, HL.out.1, h2, HL.out.2, fun _ p e => hZ _ (h3 p e)⟩
  unfold CnR
  dsimp only [Mn.v]
  generalize hlg : L.length = ll at *
  clear hlg hn hd HL
  go_enter Try.func74, Try.ntmps74
  go_wp2_with fail
  refine (HC.out _ ?_).mono ?_
  · exact (by repeat(first|exact Gr.r _|refine Gr.a ?_|refine Gr.d ?_|refine Gr.t ?_ (by assumption)))
  rintro e1 w1 ⟨a2, c2, rfl, hc2, hh2, hf2, hg1⟩
  have hs0 : w.heap.size ≤ w1.heap.size := by have := hg1.size; simp at this; omega
  have G1 : Hid (Gr w w1) := (by repeat(first|exact Gr.r _|refine Gr.a ?_|refine Gr.d ?_|refine Gr.t ?_ (by assumption)))
  have B1 := ((Cs.new w [.int .i64 k, .int .i64 r, .int .i64 n, .slice ad ll cap, .string d, .int .i64 y] 26 _ rfl).alloc (o := .cells #[.int .i64 0, .int .i64 0, .int .i64 0, .slice none 0 0, .string ⟨#[]⟩, .int .i64 0] 26)).gr hg1
  have D1 := (Cs.new (w.alloc (.cells #[.int .i64 k, .int .i64 r, .int .i64 n, .slice ad ll cap, .string d, .int .i64 y] 26)) [.int .i64 0, .int .i64 0, .int .i64 0, .slice none 0 0, .string ⟨#[]⟩, .int .i64 0] 26 (w.heap.size + 1) (by simp)).gr hg1
  have HB1 := Lib.hid (B1.set 3 (by simp) (.slice a2 ll c2))
  have HD1 := Lib.hid (D1.far ⟨w.heap.size, 3, none⟩ (.slice a2 ll c2) (by simp))
  have hfb : ∀ a, a2 = some a → w.heap.size + 2 ≤ a.block := fun a e => by have := hf2 a e; simpa using this
  have HF := Lib.hid hfb
  have HH1 := Lib.hid (hh2.set ⟨w.heap.size, 3, none⟩ (.slice a2 ll c2) (fun a e => by have := hfb a e; simp; omega))
  have HC2 := Lib.hid hc2
  have b3 := B1.at_ 3 _ rfl
  have f3 := B1.fz 3 (by simp)
  have bl := B1.lt
  have b4 := HB1.out.at_ 4 _ rfl
  clear hc2 hh2 hf2 hfb HC B1 D1
  go_wp2_with fail
  refine (HS.out _).mono ?_
  rintro e2 w2 ⟨rfl, hg2⟩
  have G2 : Hid (Gr w w2) := (G1.out.set _ (by simp) _).trans hg2
  have HB2 := Lib.hid (HB1.out.gr hg2)
  have HD2 := Lib.hid (HD1.out.gr hg2)
  have HH2 := Lib.hid (HH1.out.gr hg2)
  have x0 := HB2.out.at_ 0 _ rfl
  have x1 := HB2.out.at_ 1 _ rfl
  have x2 := HB2.out.at_ 2 _ rfl
  have x3 := HB2.out.at_ 3 _ rfl
  have x4 := HB2.out.at_ 4 _ rfl
  have x5 := HB2.out.at_ 5 _ rfl
  have xf0 := HB2.out.fz 0 (by simp)
  have xf1 := HB2.out.fz 1 (by simp)
  have xf2 := HB2.out.fz 2 (by simp)
  have xf3 := HB2.out.fz 3 (by simp)
  have xf4 := HB2.out.fz 4 (by simp)
  have xf5 := HB2.out.fz 5 (by simp)
  have xlt := HB2.out.lt
  have y0 := HD2.out.at_ 0 _ rfl
  have y1 := HD2.out.at_ 1 _ rfl
  have y2 := HD2.out.at_ 2 _ rfl
  have y3 := HD2.out.at_ 3 _ rfl
  have y4 := HD2.out.at_ 4 _ rfl
  have y5 := HD2.out.at_ 5 _ rfl
  have yf0 := HD2.out.fz 0 (by simp)
  have yf1 := HD2.out.fz 1 (by simp)
  have yf2 := HD2.out.fz 2 (by simp)
  have yf3 := HD2.out.fz 3 (by simp)
  have yf4 := HD2.out.fz 4 (by simp)
  have yf5 := HD2.out.fz 5 (by simp)
  have ylt := HD2.out.lt
  have hs2 := G2.out.size
  clear hg2 hg1 HB1 HD1 HH1 G1 hs0 b3 f3 bl b4
  go_wp2
  refine bodyPost_ret (v := .agg #[.int .i64 k, .int .i64 r, .int .i64 n, .slice a2 ll c2, .string d, .int .i64 y]) (by simp [results, Try.results74, go_sem, *]) rfl ?_
  refine ⟨a2, c2, rfl, ?_, fun p e => by have := HF.out p e; omega, ?_⟩
  · refine hll.out _ _ _ ?_ HC2.out (fun p e => by have := HF.out p e; omega)
    repeat' (first | with_reducible exact HH2.out | with_reducible refine HopsAt.set ?_ _ _ ?_)
    all_goals (intro a e; have := HF.out a e; simp; omega)
  · repeat' (first | with_reducible exact G2.out | with_reducible refine Gr.set ?_ _ ?_ _)
    all_goals (simp; try omega)

set_option maxHeartbeats 4000000 in
set_option maxRecDepth 100000 in
theorem fresh_any (q now : Int) (m : Mn) (w : World) (hZ : Frs Z w) (h : MnAt Z w m) (hn : m.x.L.length ≤ 1000) (hd : m.x.d.size ≤ 1000) :
    Calls Try.prog 73 #[.int .i64 q, .int .i64 now, m.v] w fun e w' => ∃ a c, e = .returned (Mi.v ⟨q, now, 0, ⟨m.x, a, c⟩⟩) ∧ MnAt Z w' ⟨m.x, a, c⟩ ∧ (∀ p, a = some p → w.heap.size ≤ p.block) ∧ Gr w w' := by
  have HC : Hid (∀ w', Gr w w' → Calls Try.prog 74 #[m.v] w' fun e w2 => CnR Z m w' e w2) := fun w' g => copiedNote_any m w' (hZ.gr g) (h.gr g) hn hd
  obtain ⟨⟨k, r, n, L, d, y⟩, ad, cap⟩ := m
  clear h hn hd
  unfold CnR at HC
  have HSet : Hid (∀ w' a c (p : Addr) v, MnAt Z w' ⟨⟨k, r, n, L, d, y⟩, a, c⟩ → (∀ b, a = some b → p.block ≠ b.block) → MnAt Z (w'.setCell p v) ⟨⟨k, r, n, L, d, y⟩, a, c⟩) := fun w' a c p v h1 h2 => ⟨h1.hp.set p v h2, h1.hl, h1.hc, h1.hd, h1.hz⟩
  dsimp only [Mn.v, Mi.v] at *
  generalize L.length = ll at *
  go_enter Try.func73, Try.ntmps73
  go_wp2_with fail
  refine (HC.out _ ?_).mono ?_
  · exact (by repeat(first|exact Gr.r _|refine Gr.a ?_|refine Gr.d ?_|refine Gr.t ?_ (by assumption)))
  rintro e1 w1 ⟨a2, c2, rfl, hm2, hf2, hg1⟩
  have G1 : Hid (Gr w w1) := (by repeat(first|exact Gr.r _|refine Gr.a ?_|refine Gr.d ?_|refine Gr.t ?_ (by assumption)))
  have D1 := (Cs.new (w.alloc (.cells #[.int .i64 k, .int .i64 r, .int .i64 n, .slice ad ll cap, .string d, .int .i64 y] 26)) [.int .i64 0, .int .i64 0, .int .i64 0, .int .i64 0, .int .i64 0, .int .i64 0, .slice none 0 0, .string ⟨#[]⟩, .int .i64 0] 79 (w.heap.size + 1) (by simp)).gr hg1
  have HF : Hid (∀ p, a2 = some p → w.heap.size + 2 ≤ p.block) := fun p e => by have := hf2 p e; simpa using this
  have HM := Lib.hid hm2
  have y0 := D1.at_ 0 _ rfl
  have y1 := D1.at_ 1 _ rfl
  have y2 := D1.at_ 2 _ rfl
  have y3 := D1.at_ 3 _ rfl
  have y4 := D1.at_ 4 _ rfl
  have y5 := D1.at_ 5 _ rfl
  have y6 := D1.at_ 6 _ rfl
  have y7 := D1.at_ 7 _ rfl
  have y8 := D1.at_ 8 _ rfl
  have yf0 := D1.fz 0 (by simp)
  have yf1 := D1.fz 1 (by simp)
  have yf2 := D1.fz 2 (by simp)
  have yf3 := D1.fz 3 (by simp)
  have yf4 := D1.fz 4 (by simp)
  have yf5 := D1.fz 5 (by simp)
  have yf6 := D1.fz 6 (by simp)
  have yf7 := D1.fz 7 (by simp)
  have yf8 := D1.fz 8 (by simp)
  have ylt := D1.lt
  have hs1 := G1.out.size
  clear hm2 hf2 hg1 HC D1
  go_wp2
  refine bodyPost_ret (v := .agg #[.int .i64 q, .int .i64 now, .int .i64 0, .int .i64 k, .int .i64 r, .int .i64 n, .slice a2 ll c2, .string d, .int .i64 y]) (by simp [results, Try.results73, go_sem, *]) rfl ?_
  refine ⟨a2, c2, rfl, ?_, fun p e => by have := HF.out p e; omega, ?_⟩
  · repeat' (first | with_reducible exact HM.out | with_reducible refine HSet.out _ _ _ _ _ ?_ ?_)
    all_goals (intro a e; have := HF.out a e; simp; omega)
  · repeat' (first | with_reducible exact G1.out | with_reducible refine Gr.set ?_ _ ?_ _)
    all_goals (simp; try omega)
end Go.Proofs.Ythfbpilfdfploaa
namespace Go.Proofs.Ythfbpilfdfploaa
open Go.RowKit

variable {Z : Nat → Prop}
theorem MnAt.setFar {w : World} {m : Mn} (h : MnAt Z w m) (p : Addr) (v : Value) (hp : ∀ a, m.ad = some a → p.block ≠ a.block) : MnAt Z (w.setCell p v) m := ⟨h.hp.set p v hp, h.hl, h.hc, h.hd, h.hz⟩
/- what a call answers that makes a row of items -/
def BxR (Z : Nat → Prop) (l : List (Ox.It Nx)) (w : World) (e : Ending) (w' : World) : Prop :=
  ∃ a c E, e = .returned (.slice a E.length c) ∧ Bxs Z w' w.heap.size (.slice a E.length c) E ∧ its E = l ∧ Gr w w'
theorem its_take_succ (D : List Mi) (k : Nat) (h : k < D.length) : (its D).take (k + 1) = (its D).take k ++ [D[k].it] := by
  rw [List.take_succ_eq_append_getElem (by rw [its_len]; exact h), its_get D k h]
theorem own_slice3 {base : Nat} {v : Value} {D : List Mi} {w : World} (h : Bxs Z w base v D) : ∃ a c, v = .slice a D.length c := by
  obtain ⟨a, c, e, _⟩ := h.at
  exact ⟨a, c, e⟩
theorem ap_new {w : World} {base : Nat} {v : Value} {D : List Mi} (h : Bxs Z w base v D) {a : Option Addr} (ha : ∀ p, a = some p → w.heap.size ≤ p.block) : ∀ p, a = some p → v.ownBlock ≠ some p.block := by
  intro p e k
  have := (h.own.lt _ k).2
  have := ha p e
  omega

set_option maxHeartbeats 8000000 in
set_option maxRecDepth 100000 in
theorem copied_any (D : List Mi) (ad : Option Addr) (cap : Nat) (w : World) (hZ : Frs Z w) (hD : ItsAt Z w ad D) (hn : D.length ≤ 1000) (hs : ∀ x ∈ D, x.m.x.L.length ≤ 1000 ∧ x.m.x.d.size ≤ 1000) :
    Calls Try.prog 49 #[.slice ad D.length cap] w fun e w' => BxR Z (its D) w e w' := by
  obtain ⟨i0, hi0, hz0, hz1, hz2⟩ := info_parts infoItem
  have HC : Hid (∀ x ∈ D, ∀ w', Gr w w' → Calls Try.prog 74 #[x.m.v] w' fun e w2 => CnR Z x.m w' e w2) := fun x hx w' g => copiedNote_any x.m w' (hZ.gr g) ((hD.nt x hx).gr g) (hs x hx).1 (hs x hx).2
  have HD := Lib.hid hD.row
  clear hD hs
  go_enter Try.func49, Try.ntmps49
  go_wp2
  go_loopw [3, 8] (fun s3 s8 wr => ∃ (k : Nat) (a : Option Addr) (c : Nat) (E : List Mi), s8 = .int .i64 k ∧ s3 = .slice a E.length c ∧ k ≤ D.length ∧ E.length = k ∧ its E = (its D).take k ∧ Bxs Z wr w.heap.size (.slice a E.length c) E ∧ Gr w wr) (fun _ s8 _ => D.length - (intOf s8).toNat)
  case atStart => exact ⟨0, none, 0, [], rfl, rfl, Nat.zero_le _, rfl, by simp [its], Bxs.nil _ _, Gr.refl _⟩
  case round =>
    obtain ⟨k, a, c, E, rfl, rfl, hk, hE, hEl, hbx, hg⟩ := hrel
    have HG := Lib.hid hg
    have HB := Lib.hid hbx
    have HEl := Lib.hid hEl
    have HEk : Hid (E.length = k) := hE
    have hEb : E.length ≤ 1000 := by omega
    clear hbx hEl hE
    by_cases hlt : k < D.length
    · obtain ⟨b, off, rfl, hbl, d0, d1, d2, d3, d4, d5, d6, d7, d8⟩ := ItsRow.at HD.out k hlt
      have d0 := hg.keep d0
      have d1 := hg.keep d1
      have d2 := hg.keep d2
      have d3 := hg.keep d3
      have d4 := hg.keep d4
      have d5 := hg.keep d5
      have d6 := hg.keep d6
      have d7 := hg.keep d7
      have d8 := hg.keep d8
      have hbw : b < wr.heap.size := Nat.lt_of_lt_of_le hbl hg.size
      have hki : (k : Int) < (D.length : Int) := by omega
      have HX := Lib.hid (HC.out D[k] (List.getElem_mem hlt))
      have HT := Lib.hid (its_take_succ D k hlt)
      clear hg
      generalize D[k] = x at *
      obtain ⟨q, dd, s, ⟨⟨k0, r, n, L, dt, y⟩, ax, cx⟩⟩ := x
      unfold CnR at HX
      dsimp only [Mn.v, Mi.v] at *
      go_wp2_with fail
      refine (HX.out _ (HG.out.trans (by repeat(first|exact Gr.r _|refine Gr.a ?_|refine Gr.d ?_|refine Gr.t ?_ (by assumption))))).mono ?_
      rintro e1 w1 ⟨a2, c2, rfl, hm2, hf2, hg1⟩
      have HGw : Hid (Gr wr w1) := (Gr.refl wr).alloc.trans hg1
      have B1 := (Cs.new wr [.int .i64 q, .int .i64 dd, .int .i64 s, .int .i64 k0, .int .i64 r, .int .i64 n, .slice ax L.length cx, .string dt, .int .i64 y] 79 _ rfl).gr hg1
      have y0 := B1.at_ 0 _ rfl
      have y1 := B1.at_ 1 _ rfl
      have y2 := B1.at_ 2 _ rfl
      have y3 := B1.at_ 3 _ rfl
      have y4 := B1.at_ 4 _ rfl
      have y5 := B1.at_ 5 _ rfl
      have y6 := B1.at_ 6 _ rfl
      have y7 := B1.at_ 7 _ rfl
      have y8 := B1.at_ 8 _ rfl
      have yf0 := B1.fz 0 (by simp)
      have yf1 := B1.fz 1 (by simp)
      have yf2 := B1.fz 2 (by simp)
      have yf3 := B1.fz 3 (by simp)
      have yf4 := B1.fz 4 (by simp)
      have yf5 := B1.fz 5 (by simp)
      have yf6 := B1.fz 6 (by simp)
      have yf7 := B1.fz 7 (by simp)
      have yf8 := B1.fz 8 (by simp)
      have ylt := B1.lt
      have hfb : ∀ p, a2 = some p → wr.heap.size + 1 ≤ p.block := fun p e => by have := hf2 p e; simpa using this
      have HFB := Lib.hid hfb
      have hW4 : Gr w1 w1 := Gr.refl _
      obtain ⟨W3, hW3⟩ : ∃ W3, W3 = (((((w1.setCell ⟨wr.heap.size, 3, none⟩ (.int .i64 k0)).setCell ⟨wr.heap.size, 4, none⟩ (.int .i64 r)).setCell ⟨wr.heap.size, 5, none⟩ (.int .i64 n)).setCell ⟨wr.heap.size, 6, none⟩ (.slice a2 L.length c2)).setCell ⟨wr.heap.size, 7, none⟩ (.string dt)).setCell ⟨wr.heap.size, 8, none⟩ (.int .i64 y) := ⟨_, rfl⟩
      have hs3 : W3.heap.size = w1.heap.size := by rw [hW3]; simp
      have g3 : Gr wr W3 := by
        rw [hW3]
        repeat' (first | with_reducible exact HGw.out | with_reducible refine Gr.set ?_ _ ?_ _)
        all_goals simp
      have m3 : MnAt Z W3 ⟨⟨k0, r, n, L, dt, y⟩, a2, c2⟩ := by
        rw [hW3]
        repeat' (first | with_reducible exact hm2 | with_reducible refine MnAt.setFar ?_ _ _ ?_)
        all_goals (intro p e; have := hfb p e; simp; omega)
      have hwr : wr.heap.size + 1 ≤ w1.heap.size := by have := hg1.size; simpa using this
      have HOw := Lib.hid ((HB.out.gr g3).gr ((Gr.refl W3).alloc (o := .cells #[.int .i64 q, .int .i64 dd, .int .i64 s, .int .i64 k0, .int .i64 r, .int .i64 n, .slice a2 L.length c2, .string dt, .int .i64 y] 79)))
      have HM4 := Lib.hid (m3.gr ((Gr.refl W3).alloc (o := .cells #[.int .i64 q, .int .i64 dd, .int .i64 s, .int .i64 k0, .int .i64 r, .int .i64 n, .slice a2 L.length c2, .string dt, .int .i64 y] 79)))
      have HG4 : Hid (Gr w (W3.alloc (.cells #[.int .i64 q, .int .i64 dd, .int .i64 s, .int .i64 k0, .int .i64 r, .int .i64 n, .slice a2 L.length c2, .string dt, .int .i64 y] 79))) := (HG.out.trans g3).alloc
      have hnw := i_new W3 ⟨q, dd, s, ⟨⟨k0, r, n, L, dt, y⟩, a2, c2⟩⟩ 79
      rw [hs3, show (iC ⟨q, dd, s, ⟨⟨k0, r, n, L, dt, y⟩, a2, c2⟩⟩).toArray = #[.int .i64 q, .int .i64 dd, .int .i64 s, .int .i64 k0, .int .i64 r, .int .i64 n, .slice a2 L.length c2, .string dt, .int .i64 y] from rfl] at hnw
      have HNw := Lib.hid hnw
      have HAp : Hid (∀ p, a2 = some p → (Value.slice a E.length c).ownBlock ≠ some p.block) := ap_new HB.out (fun p e => by have := hfb p e; omega)
      have hlen4 : w.heap.size ≤ w1.heap.size := by have := HG.out.size; omega
      have HB0 := Lib.hid hs3
      subst hW3
      clear hm2 hf2 hg1 hfb g3 m3 hnw HX d0 d1 d2 d3 d4 d5 d6 d7 d8 B1 hs3
      have hm1 : E.length + 1 ≤ maxLen := by unfold maxLen; omega
      go_wp2_with (first
        | (at_builtin; refine wpList_append_own_at _ rfl _ _ 32 rfl w.heap.size 79 i0 (.agg #[.int .i64 0, .int .i64 0, .int .i64 0, .int .i64 0, .int .i64 0, .int .i64 0, .slice none 0 0, .string ⟨#[]⟩, .int .i64 0]) 9 96 Try.underlying32 hi0 hz0 hz1 hz2 rfl (by decide) _ _ _ rfl HOw.out.own ⟨w1.heap.size, 0, none⟩ 1 1 ([(⟨q, dd, s, ⟨⟨k0, r, n, L, dt, y⟩, a2, c2⟩⟩ : Mi)].flatMap iC) rfl rfl HNw.out (i_one _) hm1 (by omega) (by simp; omega) ?_)
        | fail)
      intro v' w5 hown' hgrow _ hat
      have hmo := Bxs.more (x := ⟨q, dd, s, ⟨⟨k0, r, n, L, dt, y⟩, a2, c2⟩⟩) HOw.out HM4.out (fun _ => HAp.out) hown' hgrow (by simpa using hat)
      obtain ⟨a5, c5, rfl⟩ := own_slice3 hmo
      have HMo := Lib.hid hmo
      have HG5 := Lib.hid (HOw.out.grown HG4.out hgrow (Nat.le_refl _))
      have HL5 : Hid (its (E ++ [(⟨q, dd, s, ⟨⟨k0, r, n, L, dt, y⟩, a2, c2⟩⟩ : Mi)]) = (its D).take (k + 1)) := by
        show _ = _
        rw [its_app, HEl.out, HT.out]; rfl
      clear hmo hown' hgrow hat yf0 yf1 yf2 yf3 yf4 yf5 yf6 yf7 yf8 y0 y1 y2 y3 y4 y5 y6 y7 y8 HOw HM4 HNw HAp
      go_wp2
      go_roundw
      case rel => exact ⟨k + 1, a5, c5, E ++ [(⟨q, dd, s, ⟨⟨k0, r, n, L, dt, y⟩, a2, c2⟩⟩ : Mi)], by go_num, rfl, by omega, by have := HEk.out; simp; omega, HL5.out, HMo.out, HG5.out⟩
      case measure => simp [intOf]; omega
    · have hge : ¬ ((k : Int) < (D.length : Int)) := by omega
      have HL : Hid (its E = its D) := by
        show _ = _
        rw [HEl.out, List.take_of_length_le (by rw [its_len]; omega)]
      go_wp2
      go_ret
      exact ⟨a, c, E, rfl, HB.out, HL.out, HG.out⟩

end Go.Proofs.Ythfbpilfdfploaa
namespace Go.Proofs.Ythfbpilfdfploaa
open Go.RowKit

end Go.Proofs.Ythfbpilfdfploaa
