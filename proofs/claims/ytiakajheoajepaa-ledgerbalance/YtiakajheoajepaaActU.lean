/- Plain mathematics of activities: what is done is undone, and kept. -/
import Derived.Test.YtiakajheoajepaaActM
namespace Go.Proofs.Ytiakajheoajepaa.Act

/- one pot: what is done can be undone, and kept -/
theorem pot_done (out : Bool) (h i o a : Int) (he : Pot.eDo out h i o a = 0) :
    Pot.mayB (h + Pot.sg out (-1) 1 * a) (i + Pot.sg out 0 1 * a) (o + Pot.sg out 1 0 * a) = true ∧ Pot.mayB (h + Pot.sg out (-1) 1 * a) i o = true ∧
    Pot.eUn out (h + Pot.sg out (-1) 1 * a) (i + Pot.sg out 0 1 * a) (o + Pot.sg out 1 0 * a) a = 0 := by
  have hm : Pot.argB h i o a = true ∧ a ≤ Pot.mostDo out h i o := by
    unfold Pot.eDo at he
    rcases Pot.err_cases h i o a (Pot.mostDo out h i o) with ⟨_, e2, e3⟩ | ⟨e1, _⟩ | ⟨e1, _⟩
    · exact ⟨e2, e3⟩
    · rw [e1] at he; cases he
    · rw [e1] at he; cases he
  obtain ⟨ha, hmo⟩ := hm
  obtain ⟨⟨h1, h2, h3, h4⟩, h5, h6⟩ := (Pot.arg_iff h i o a).1 ha
  have hmay : Pot.mayB h i o = true := (Pot.may_iff h i o).2 ⟨h1, h2, h3, h4⟩
  cases out with
  | true =>
    have e1 : Pot.mostDo true h i o = h - i := by unfold Pot.mostDo Pot.freeE; rw [if_pos rfl, if_pos hmay]
    rw [e1] at hmo
    have k1 : h + Pot.sg true (-1) 1 * a = h - a := by simp [Pot.sg]; omega
    have k2 : i + Pot.sg true 0 1 * a = i := by simp [Pot.sg]
    have k3 : o + Pot.sg true 1 0 * a = o + a := by simp [Pot.sg]
    rw [k1, k2, k3]
    refine ⟨(Pot.may_iff _ _ _).2 (by omega), (Pot.may_iff _ _ _).2 (by omega), ?_⟩
    unfold Pot.eUn
    refine Pot.err_ok ((Pot.arg_iff _ _ _ _).2 (by omega)) ?_
    rw [show Pot.mostUn true i (o + a) = o + a from rfl]; omega
  | false =>
    have e1 : Pot.mostDo false h i o = 1000000000000000 - h - o := by unfold Pot.mostDo Pot.roomE; rw [if_neg (by decide), if_pos hmay]
    rw [e1] at hmo
    have k1 : h + Pot.sg false (-1) 1 * a = h + a := by simp [Pot.sg]
    have k2 : i + Pot.sg false 0 1 * a = i + a := by simp [Pot.sg]
    have k3 : o + Pot.sg false 1 0 * a = o := by simp [Pot.sg]
    rw [k1, k2, k3]
    refine ⟨(Pot.may_iff _ _ _).2 (by omega), (Pot.may_iff _ _ _).2 (by omega), ?_⟩
    unfold Pot.eUn
    refine Pot.err_ok ((Pot.arg_iff _ _ _ _).2 (by omega)) ?_
    rw [show Pot.mostUn false (i + a) o = i + a from rfl]; omega

/- the same of act's words of pot's calls -/
theorem ch_done (out : Bool) (h i o a : Int) (he : chDo.e out h i o a = 0) (d : Int) (hd : d = Pot.sg out (-1) 1 * a) :
    ∃ i' o', chDo.h out h i o a = h + d ∧ chDo.i out h i o a = i' ∧ chDo.o out h i o a = o' ∧ Pot.mayB (h + d) i' o' = true ∧ Pot.mayB (h + d) i o = true ∧
      chUn.e out (h + d) i' o' a = 0 ∧ chUn.h out (h + d) i' o' a = h ∧ chUn.i out (h + d) i' o' a = i ∧ chUn.o out (h + d) i' o' a = o ∧
      chKe.e out (h + d) i' o' a = 0 ∧ chKe.h out (h + d) i' o' a = h + d ∧ chKe.i out (h + d) i' o' a = i ∧ chKe.o out (h + d) i' o' a = o := by
  subst hd
  have he' : Pot.eDo out h i o a = 0 := he
  obtain ⟨m1, m2, m3⟩ := pot_done out h i o a he'
  refine ⟨i + Pot.sg out 0 1 * a, o + Pot.sg out 1 0 * a, ?_, ?_, ?_, m1, m2, m3, ?_, ?_, ?_, m3, ?_, ?_, ?_⟩
  · show Pot.pick (Pot.eDo out h i o a) _ = _; rw [he', Pot.pick0]
  · show Pot.pick (Pot.eDo out h i o a) _ = _; rw [he', Pot.pick0]
  · show Pot.pick (Pot.eDo out h i o a) _ = _; rw [he', Pot.pick0]
  · show Pot.pick (Pot.eUn out _ _ _ a) _ = _; rw [m3, Pot.pick0]; cases out <;> simp [Pot.sg] <;> omega
  · show Pot.pick (Pot.eUn out _ _ _ a) _ = _; rw [m3, Pot.pick0]; cases out <;> simp [Pot.sg] <;> omega
  · show Pot.pick (Pot.eUn out _ _ _ a) _ = _; rw [m3, Pot.pick0]; cases out <;> simp [Pot.sg] <;> omega
  · show Pot.pick (Pot.eUn out _ _ _ a) _ = _; rw [m3, Pot.pick0]; cases out <;> simp [Pot.sg]
  · show Pot.pick (Pot.eUn out _ _ _ a) _ = _; rw [m3, Pot.pick0]; cases out <;> simp [Pot.sg] <;> omega
  · show Pot.pick (Pot.eUn out _ _ _ a) _ = _; rw [m3, Pot.pick0]; cases out <;> simp [Pot.sg] <;> omega

/- the other pot, which may not be moved -/
theorem kept_done (k x y z n : Int) (hm : Pot.mayB x y z = true) (he : eK chDo k x y z n = 0) (hk : 1 ≤ k ∧ k ≤ 4) (d : Int) (hd : d = wK k * n) :
    ∃ i' o', hK chDo k x y z n = x + d ∧ iK chDo k x y z n = i' ∧ uK chDo k x y z n = o' ∧ Pot.mayB (x + d) i' o' = true ∧ Pot.mayB (x + d) y z = true ∧
      eK chUn k (x + d) i' o' n = 0 ∧ hK chUn k (x + d) i' o' n = x ∧ iK chUn k (x + d) i' o' n = y ∧ uK chUn k (x + d) i' o' n = z ∧
      eK chKe k (x + d) i' o' n = 0 ∧ hK chKe k (x + d) i' o' n = x + d ∧ iK chKe k (x + d) i' o' n = y ∧ uK chKe k (x + d) i' o' n = z := by
  by_cases h0 : wK k = 0
  · have hd0 : d = 0 := by rw [hd, h0, Int.zero_mul]
    subst hd0
    rw [Int.add_zero]
    refine ⟨y, z, ?_, ?_, ?_, hm, hm, ?_, ?_, ?_, ?_, ?_, ?_, ?_, ?_⟩ <;> (first | unfold eK | unfold hK | unfold iK | unfold uK) <;> rw [if_pos h0]
  · have hs : wK k * n = Pot.sg (oK k) (-1) 1 * n := by
      have : k = 1 ∨ k = 2 ∨ k = 3 ∨ k = 4 := by omega
      rcases this with rfl | rfl | rfl | rfl
      · exact absurd rfl h0
      · exact absurd rfl h0
      · rfl
      · rfl
    have he' : chDo.e (oK k) x y z n = 0 := by unfold eK at he; rwa [if_neg h0] at he
    have := ch_done (oK k) x y z n he' d (hd.trans hs)
    unfold eK hK iK uK
    simpa only [if_neg h0] using this

theorem done_parts {s : ByteArray} {a b c x y z k n : Int} {t : ByteArray} (h : mvE chDo s a b c x y z k t n = 0) :
    t = s ∧ accB s a b c x y z = true ∧ actB k t n = true ∧ chDo.e (oF k) a b c n = 0 ∧ eK chDo k x y z n = 0 := by
  rcases fit_cases s a b c x y z k t n with ⟨h0, h1, h2, h3⟩ | h2
  · unfold mvE at h
    rw [if_pos h0] at h
    by_cases he : chDo.e (oF k) a b c n = 0
    · rw [if_pos he] at h
      exact ⟨h3, h1, h2, he, h⟩
    · rw [if_neg he] at h
      exact absurd h he
  · unfold mvE at h
    rcases h2 with h2 | h2 <;> rw [h2, if_neg (by decide)] at h <;> exact absurd h (by decide)
theorem fit_yes {s : ByteArray} {a b c x y z k n : Int} (h1 : accB s a b c x y z = true) (h2 : actB k s n = true) : fitE s a b c x y z k s n = 0 := by
  unfold fitE
  rw [if_pos h1, if_pos]
  rw [Bool.and_eq_true]
  exact ⟨h2, decide_eq_true rfl⟩
theorem mv_yes {C : Ch} {s : ByteArray} {a b c x y z k n : Int} (h1 : accB s a b c x y z = true) (h2 : actB k s n = true) (h3 : C.e (oF k) a b c n = 0) (h4 : eK C k x y z n = 0) : mvE C s a b c x y z k s n = 0 := by
  unfold mvE; rw [if_pos (fit_yes h1 h2), if_pos h3, h4]

/- an account: what is done can be undone, and kept -/
theorem undone {s : ByteArray} {a b c x y z k n : Int} {t : ByteArray} (h : mvE chDo s a b c x y z k t n = 0) :
    t = s ∧ accB s a b c x y z = true ∧ actB k t n = true ∧ ∃ b' c' y' z',
      (chDo.h (oF k) a b c n = a + dF k t n ∧ chDo.i (oF k) a b c n = b' ∧ chDo.o (oF k) a b c n = c' ∧ hK chDo k x y z n = x + dK k t n ∧ iK chDo k x y z n = y' ∧ uK chDo k x y z n = z') ∧
      accB s (a + dF k t n) b' c' (x + dK k t n) y' z' = true ∧ accB s (a + dF k t n) b c (x + dK k t n) y z = true ∧
      (mvE chUn s (a + dF k t n) b' c' (x + dK k t n) y' z' k t n = 0 ∧ chUn.h (oF k) (a + dF k t n) b' c' n = a ∧ chUn.i (oF k) (a + dF k t n) b' c' n = b ∧ chUn.o (oF k) (a + dF k t n) b' c' n = c ∧ hK chUn k (x + dK k t n) y' z' n = x ∧ iK chUn k (x + dK k t n) y' z' n = y ∧ uK chUn k (x + dK k t n) y' z' n = z) ∧
      (mvE chKe s (a + dF k t n) b' c' (x + dK k t n) y' z' k t n = 0 ∧ chKe.h (oF k) (a + dF k t n) b' c' n = a + dF k t n ∧ chKe.i (oF k) (a + dF k t n) b' c' n = b ∧ chKe.o (oF k) (a + dF k t n) b' c' n = c ∧ hK chKe k (x + dK k t n) y' z' n = x + dK k t n ∧ iK chKe k (x + dK k t n) y' z' n = y ∧ uK chKe k (x + dK k t n) y' z' n = z) := by
  obtain ⟨rfl, h1, h2, h3, h4⟩ := done_parts h
  obtain ⟨hn, hf, hk⟩ := (acc_iff t a b c x y z).1 h1
  obtain ⟨hkk, _, _⟩ := (act_iff k t n).1 h2
  have eF : dF k t n = Pot.sg (oF k) (-1) 1 * n := by
    unfold dF; rw [if_pos h2]
    have : k = 1 ∨ k = 2 ∨ k = 3 ∨ k = 4 := by omega
    rcases this with rfl | rfl | rfl | rfl <;> rfl
  have eKd : dK k t n = wK k * n := by unfold dK; rw [if_pos h2]
  obtain ⟨b', c', f1, f2, f3, f4, f5, f6, f7, f8, f9, g1, g2, g3, g4⟩ := ch_done (oF k) a b c n h3 (dF k t n) eF
  obtain ⟨y', z', p1, p2, p3, p4, p5, p6, p7, p8, p9, q1, q2, q3, q4⟩ := kept_done k x y z n hk h4 hkk (dK k t n) eKd
  have A1 : accB t (a + dF k t n) b' c' (x + dK k t n) y' z' = true := (acc_iff _ _ _ _ _ _ _).2 ⟨hn, f4, p4⟩
  have A2 : accB t (a + dF k t n) b c (x + dK k t n) y z = true := (acc_iff _ _ _ _ _ _ _).2 ⟨hn, f5, p5⟩
  exact ⟨rfl, h1, h2, b', c', y', z', ⟨f1, f2, f3, p1, p2, p3⟩, A1, A2, ⟨mv_yes A1 h2 f6 p6, f7, f8, f9, p7, p8, p9⟩, ⟨mv_yes A1 h2 g1 q1, g2, g3, g4, q2, q3, q4⟩⟩
theorem acc_rng {s : ByteArray} {a b c x y z : Int} (h : accB s a b c x y z = true) : (0 ≤ a ∧ a ≤ 1000000000000000) ∧ (0 ≤ b ∧ b ≤ 1000000000000000) ∧ (0 ≤ c ∧ c ≤ 1000000000000000) ∧ (0 ≤ x ∧ x ≤ 1000000000000000) ∧ (0 ≤ y ∧ y ≤ 1000000000000000) ∧ (0 ≤ z ∧ z ≤ 1000000000000000) := by
  obtain ⟨_, h1, h2⟩ := (acc_iff s a b c x y z).1 h
  have := (Pot.may_iff a b c).1 h1
  have := (Pot.may_iff x y z).1 h2
  omega
end Go.Proofs.Ytiakajheoajepaa.Act
