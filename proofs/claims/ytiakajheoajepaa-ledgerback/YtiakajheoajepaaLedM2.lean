/- Plain mathematics of ledgers: what is done, undone and kept leaves a ledger that may be. -/
import Derived.Test.YtiakajheoajepaaLedM
namespace Go.Proofs.Ytiakajheoajepaa.Led

/- an account as one of act's calls leaves it -/
def mvX (C : Act.Ch) (x : Acc) (k : Int) (t : ByteArray) (n : Int) : Int := Act.mvE C x.s x.a x.b x.c x.x x.y x.z k t n
def mvA (C : Act.Ch) (x : Acc) (k n : Int) : Acc := ⟨x.s, C.h (Act.oF k) x.a x.b x.c n, C.i (Act.oF k) x.a x.b x.c n, C.o (Act.oF k) x.a x.b x.c n, Act.hK C k x.x x.y x.z n, Act.iK C k x.x x.y x.z n, Act.uK C k x.x x.y x.z n⟩
def shift (x : Acc) (h f i o g j u : Int) : Acc := ⟨x.s, x.a + h * f, x.b + i, x.c + o, x.x + h * g, x.y + j, x.z + u⟩
theorem ways {k : Int} {t : ByteArray} {n : Int} (h : Act.actB k t n = true) : 1 ≤ n ∧ n ≤ 1000000000000000 ∧
    ((k = 1 ∧ Act.dF k t n = -n ∧ Act.dK k t n = 0) ∨ (k = 2 ∧ Act.dF k t n = n ∧ Act.dK k t n = 0) ∨ (k = 3 ∧ Act.dF k t n = -n ∧ Act.dK k t n = n) ∨ (k = 4 ∧ Act.dF k t n = n ∧ Act.dK k t n = -n)) := by
  obtain ⟨⟨k1, k2⟩, _, n1, n2⟩ := (Act.act_iff k t n).1 h
  refine ⟨n1, n2, ?_⟩
  unfold Act.dF Act.dK
  rw [if_pos h, if_pos h]
  have : k = 1 ∨ k = 2 ∨ k = 3 ∨ k = 4 := by omega
  rcases this with rfl | rfl | rfl | rfl
  · exact Or.inl ⟨rfl, by simp [Act.wF], by simp [Act.wK]⟩
  · exact Or.inr (Or.inl ⟨rfl, by simp [Act.wF], by simp [Act.wK]⟩)
  · exact Or.inr (Or.inr (Or.inl ⟨rfl, by simp [Act.wF], by simp [Act.wK]⟩))
  · exact Or.inr (Or.inr (Or.inr ⟨rfl, by simp [Act.wF], by simp [Act.wK]⟩))
theorem mv_do {x : Acc} {k : Int} {t : ByteArray} {n : Int} (h : mvX Act.chDo x k t n = 0) :
    t = x.s ∧ accOk x = true ∧ Act.actB k t n = true ∧ mvA Act.chDo x k n = shift x 1 (Act.dF k t n) (max (Act.dF k t n) 0) (max (-Act.dF k t n) 0) (Act.dK k t n) (max (Act.dK k t n) 0) (max (-Act.dK k t n) 0) ∧ accOk (mvA Act.chDo x k n) = true := by
  obtain ⟨e1, hacc, hact, h3, h4⟩ := Act.done_parts h
  obtain ⟨_, _, _, b', c', y', z', ⟨u1, u2, u3, u4, u5, u6⟩, hok, _⟩ := Act.undone h
  refine ⟨e1, hacc, hact, ?_, ?_⟩
  · have h3' : Pot.eDo (Act.oF k) x.a x.b x.c n = 0 := h3
    obtain ⟨n1, n2, hw⟩ := ways hact
    have p1 : Act.chDo.h (Act.oF k) x.a x.b x.c n = x.a + Pot.sg (Act.oF k) (-1) 1 * n := by show Pot.pick (Pot.eDo _ _ _ _ _) _ = _; rw [h3', Pot.pick0]
    have p2 : Act.chDo.i (Act.oF k) x.a x.b x.c n = x.b + Pot.sg (Act.oF k) 0 1 * n := by show Pot.pick (Pot.eDo _ _ _ _ _) _ = _; rw [h3', Pot.pick0]
    have p3 : Act.chDo.o (Act.oF k) x.a x.b x.c n = x.c + Pot.sg (Act.oF k) 1 0 * n := by show Pot.pick (Pot.eDo _ _ _ _ _) _ = _; rw [h3', Pot.pick0]
    unfold mvA shift
    rw [p1, p2, p3]
    rcases hw with ⟨rfl, w1, w2⟩ | ⟨rfl, w1, w2⟩ | ⟨rfl, w1, w2⟩ | ⟨rfl, w1, w2⟩
    · rw [w1, w2, show Act.hK Act.chDo 1 x.x x.y x.z n = x.x from rfl, show Act.iK Act.chDo 1 x.x x.y x.z n = x.y from rfl, show Act.uK Act.chDo 1 x.x x.y x.z n = x.z from rfl, show Act.oF 1 = true from rfl]
      simp only [Pot.sg, if_true, Acc.mk.injEq]
      refine ⟨trivial, ?_, ?_, ?_, ?_, ?_, ?_⟩ <;> first | trivial | omega
    · rw [w1, w2, show Act.hK Act.chDo 2 x.x x.y x.z n = x.x from rfl, show Act.iK Act.chDo 2 x.x x.y x.z n = x.y from rfl, show Act.uK Act.chDo 2 x.x x.y x.z n = x.z from rfl, show Act.oF 2 = false from rfl]
      simp only [Pot.sg, Bool.false_eq_true, if_false, Acc.mk.injEq]
      refine ⟨trivial, ?_, ?_, ?_, ?_, ?_, ?_⟩ <;> first | trivial | omega
    · have h4' : Pot.eDo false x.x x.y x.z n = 0 := h4
      rw [w1, w2, show Act.hK Act.chDo 3 x.x x.y x.z n = Pot.pick (Pot.eDo false x.x x.y x.z n) (x.x + Pot.sg false (-1) 1 * n) from rfl, show Act.iK Act.chDo 3 x.x x.y x.z n = Pot.pick (Pot.eDo false x.x x.y x.z n) (x.y + Pot.sg false 0 1 * n) from rfl, show Act.uK Act.chDo 3 x.x x.y x.z n = Pot.pick (Pot.eDo false x.x x.y x.z n) (x.z + Pot.sg false 1 0 * n) from rfl, show Act.oF 3 = true from rfl, h4', Pot.pick0, Pot.pick0, Pot.pick0]
      simp only [Pot.sg, if_true, Bool.false_eq_true, if_false, Acc.mk.injEq]
      refine ⟨trivial, ?_, ?_, ?_, ?_, ?_, ?_⟩ <;> first | trivial | omega
    · have h4' : Pot.eDo true x.x x.y x.z n = 0 := h4
      rw [w1, w2, show Act.hK Act.chDo 4 x.x x.y x.z n = Pot.pick (Pot.eDo true x.x x.y x.z n) (x.x + Pot.sg true (-1) 1 * n) from rfl, show Act.iK Act.chDo 4 x.x x.y x.z n = Pot.pick (Pot.eDo true x.x x.y x.z n) (x.y + Pot.sg true 0 1 * n) from rfl, show Act.uK Act.chDo 4 x.x x.y x.z n = Pot.pick (Pot.eDo true x.x x.y x.z n) (x.z + Pot.sg true 1 0 * n) from rfl, show Act.oF 4 = false from rfl, h4', Pot.pick0, Pot.pick0, Pot.pick0]
      simp only [Pot.sg, if_true, Bool.false_eq_true, if_false, Acc.mk.injEq]
      refine ⟨trivial, ?_, ?_, ?_, ?_, ?_, ?_⟩ <;> first | trivial | omega
  · unfold accOk mvA
    simp only
    rw [u1, u2, u3, u4, u5, u6]
    exact hok

/- one pot: what is pending can be undone, and kept -/
theorem pot_un {out : Bool} {h i o a : Int} (hm : Pot.mayB h i o = true) (h1 : 1 ≤ a) (h2 : a ≤ 1000000000000000) (hp : a ≤ Pot.mostUn out i o) : Pot.eUn out h i o a = 0 := by
  unfold Pot.eUn
  refine Pot.err_ok ((Pot.arg_iff _ _ _ _).2 ⟨(Pot.may_iff _ _ _).1 hm, h1, h2⟩) (by omega)
/- an account: what is pending can be undone, and kept -/
theorem mv_end {x : Acc} {k : Int} {t : ByteArray} {n : Int} (hx : accOk x = true) (ha : Act.actB k t n = true) (ht : t = x.s)
    (hb : max (Act.dF k t n) 0 ≤ x.b) (hc : max (-Act.dF k t n) 0 ≤ x.c) (hy : max (Act.dK k t n) 0 ≤ x.y) (hz : max (-Act.dK k t n) 0 ≤ x.z) :
    (mvX Act.chUn x k t n = 0 ∧ mvA Act.chUn x k n = shift x (-1) (Act.dF k t n) (-max (Act.dF k t n) 0) (-max (-Act.dF k t n) 0) (Act.dK k t n) (-max (Act.dK k t n) 0) (-max (-Act.dK k t n) 0) ∧ accOk (mvA Act.chUn x k n) = true) ∧
    (mvX Act.chKe x k t n = 0 ∧ mvA Act.chKe x k n = shift x 0 (Act.dF k t n) (-max (Act.dF k t n) 0) (-max (-Act.dF k t n) 0) (Act.dK k t n) (-max (Act.dK k t n) 0) (-max (-Act.dK k t n) 0) ∧ accOk (mvA Act.chKe x k n) = true) := by
  obtain ⟨n1, n2, hw⟩ := ways ha
  obtain ⟨hn, hf, hk⟩ := (Act.acc_iff _ _ _ _ _ _ _).1 hx
  obtain ⟨f1, f2, f3, f4⟩ := (Pot.may_iff _ _ _).1 hf
  obtain ⟨k1, k2, k3, k4⟩ := (Pot.may_iff _ _ _).1 hk
  have fit : Act.fitE x.s x.a x.b x.c x.x x.y x.z k t n = 0 := by subst ht; exact Act.fit_yes hx ha
  have hE : Pot.eUn (Act.oF k) x.a x.b x.c n = 0 := by
    refine pot_un hf n1 n2 ?_
    rcases hw with ⟨rfl, w1, w2⟩ | ⟨rfl, w1, w2⟩ | ⟨rfl, w1, w2⟩ | ⟨rfl, w1, w2⟩ <;> rw [w1] at hb hc
    · show n ≤ x.c; omega
    · show n ≤ x.b; omega
    · show n ≤ x.c; omega
    · show n ≤ x.b; omega
  have q1 : ∀ C, (C = Act.chUn ∨ C = Act.chKe) → C.e (Act.oF k) x.a x.b x.c n = 0 := by
    rintro C (rfl | rfl) <;> exact hE
  have hU : ∀ C, (C = Act.chUn ∨ C = Act.chKe) → Act.eK C k x.x x.y x.z n = 0 := by
    intro C hC
    rcases hw with ⟨rfl, w1, w2⟩ | ⟨rfl, w1, w2⟩ | ⟨rfl, w1, w2⟩ | ⟨rfl, w1, w2⟩ <;> rw [w2] at hy hz
    · rfl
    · rfl
    · have : Pot.eUn false x.x x.y x.z n = 0 := pot_un hk n1 n2 (by show n ≤ x.y; omega)
      rcases hC with rfl | rfl <;> exact this
    · have : Pot.eUn true x.x x.y x.z n = 0 := pot_un hk n1 n2 (by show n ≤ x.z; omega)
      rcases hC with rfl | rfl <;> exact this
  have hX : ∀ C, (C = Act.chUn ∨ C = Act.chKe) → mvX C x k t n = 0 := by
    intro C hC
    unfold mvX Act.mvE
    rw [if_pos fit, if_pos (q1 C hC), hU C hC]
  have vals : mvA Act.chUn x k n = shift x (-1) (Act.dF k t n) (-max (Act.dF k t n) 0) (-max (-Act.dF k t n) 0) (Act.dK k t n) (-max (Act.dK k t n) 0) (-max (-Act.dK k t n) 0) ∧ mvA Act.chKe x k n = shift x 0 (Act.dF k t n) (-max (Act.dF k t n) 0) (-max (-Act.dF k t n) 0) (Act.dK k t n) (-max (Act.dK k t n) 0) (-max (-Act.dK k t n) 0) := by
    have p1 : Act.chUn.h (Act.oF k) x.a x.b x.c n = x.a + Pot.sg (Act.oF k) 1 (-1) * n := by show Pot.pick (Pot.eUn _ _ _ _ _) _ = _; rw [hE, Pot.pick0]
    have p2 : Act.chUn.i (Act.oF k) x.a x.b x.c n = x.b + Pot.sg (Act.oF k) 0 (-1) * n := by show Pot.pick (Pot.eUn _ _ _ _ _) _ = _; rw [hE, Pot.pick0]
    have p3 : Act.chUn.o (Act.oF k) x.a x.b x.c n = x.c + Pot.sg (Act.oF k) (-1) 0 * n := by show Pot.pick (Pot.eUn _ _ _ _ _) _ = _; rw [hE, Pot.pick0]
    have r1 : Act.chKe.h (Act.oF k) x.a x.b x.c n = x.a + Pot.sg (Act.oF k) 0 0 * n := by show Pot.pick (Pot.eUn _ _ _ _ _) _ = _; rw [hE, Pot.pick0]
    have r2 : Act.chKe.i (Act.oF k) x.a x.b x.c n = x.b + Pot.sg (Act.oF k) 0 (-1) * n := by show Pot.pick (Pot.eUn _ _ _ _ _) _ = _; rw [hE, Pot.pick0]
    have r3 : Act.chKe.o (Act.oF k) x.a x.b x.c n = x.c + Pot.sg (Act.oF k) (-1) 0 * n := by show Pot.pick (Pot.eUn _ _ _ _ _) _ = _; rw [hE, Pot.pick0]
    have hu := hU Act.chUn (Or.inl rfl)
    unfold mvA shift
    rw [p1, p2, p3, r1, r2, r3]
    rcases hw with ⟨rfl, w1, w2⟩ | ⟨rfl, w1, w2⟩ | ⟨rfl, w1, w2⟩ | ⟨rfl, w1, w2⟩
    · rw [w1, w2, show Act.oF 1 = true from rfl]
      refine ⟨?_, ?_⟩
      · rw [show Act.hK Act.chUn 1 x.x x.y x.z n = x.x from rfl, show Act.iK Act.chUn 1 x.x x.y x.z n = x.y from rfl, show Act.uK Act.chUn 1 x.x x.y x.z n = x.z from rfl]
        simp only [Pot.sg, if_true, Acc.mk.injEq]
        refine ⟨trivial, ?_, ?_, ?_, ?_, ?_, ?_⟩ <;> first | trivial | omega
      · rw [show Act.hK Act.chKe 1 x.x x.y x.z n = x.x from rfl, show Act.iK Act.chKe 1 x.x x.y x.z n = x.y from rfl, show Act.uK Act.chKe 1 x.x x.y x.z n = x.z from rfl]
        simp only [Pot.sg, if_true, Acc.mk.injEq]
        refine ⟨trivial, ?_, ?_, ?_, ?_, ?_, ?_⟩ <;> first | trivial | omega
    · rw [w1, w2, show Act.oF 2 = false from rfl]
      refine ⟨?_, ?_⟩
      · rw [show Act.hK Act.chUn 2 x.x x.y x.z n = x.x from rfl, show Act.iK Act.chUn 2 x.x x.y x.z n = x.y from rfl, show Act.uK Act.chUn 2 x.x x.y x.z n = x.z from rfl]
        simp only [Pot.sg, Bool.false_eq_true, if_false, Acc.mk.injEq]
        refine ⟨trivial, ?_, ?_, ?_, ?_, ?_, ?_⟩ <;> first | trivial | omega
      · rw [show Act.hK Act.chKe 2 x.x x.y x.z n = x.x from rfl, show Act.iK Act.chKe 2 x.x x.y x.z n = x.y from rfl, show Act.uK Act.chKe 2 x.x x.y x.z n = x.z from rfl]
        simp only [Pot.sg, Bool.false_eq_true, if_false, Acc.mk.injEq]
        refine ⟨trivial, ?_, ?_, ?_, ?_, ?_, ?_⟩ <;> first | trivial | omega
    · have h4 : Pot.eUn false x.x x.y x.z n = 0 := hu
      rw [w1, w2, show Act.oF 3 = true from rfl]
      refine ⟨?_, ?_⟩
      · rw [show Act.hK Act.chUn 3 x.x x.y x.z n = Pot.pick (Pot.eUn false x.x x.y x.z n) (x.x + Pot.sg false 1 (-1) * n) from rfl, show Act.iK Act.chUn 3 x.x x.y x.z n = Pot.pick (Pot.eUn false x.x x.y x.z n) (x.y + Pot.sg false 0 (-1) * n) from rfl, show Act.uK Act.chUn 3 x.x x.y x.z n = Pot.pick (Pot.eUn false x.x x.y x.z n) (x.z + Pot.sg false (-1) 0 * n) from rfl, h4, Pot.pick0, Pot.pick0, Pot.pick0]
        simp only [Pot.sg, if_true, Bool.false_eq_true, if_false, Acc.mk.injEq]
        refine ⟨trivial, ?_, ?_, ?_, ?_, ?_, ?_⟩ <;> first | trivial | omega
      · rw [show Act.hK Act.chKe 3 x.x x.y x.z n = Pot.pick (Pot.eUn false x.x x.y x.z n) (x.x + Pot.sg false 0 0 * n) from rfl, show Act.iK Act.chKe 3 x.x x.y x.z n = Pot.pick (Pot.eUn false x.x x.y x.z n) (x.y + Pot.sg false 0 (-1) * n) from rfl, show Act.uK Act.chKe 3 x.x x.y x.z n = Pot.pick (Pot.eUn false x.x x.y x.z n) (x.z + Pot.sg false (-1) 0 * n) from rfl, h4, Pot.pick0, Pot.pick0, Pot.pick0]
        simp only [Pot.sg, if_true, Bool.false_eq_true, if_false, Acc.mk.injEq]
        refine ⟨trivial, ?_, ?_, ?_, ?_, ?_, ?_⟩ <;> first | trivial | omega
    · have h4 : Pot.eUn true x.x x.y x.z n = 0 := hu
      rw [w1, w2, show Act.oF 4 = false from rfl]
      refine ⟨?_, ?_⟩
      · rw [show Act.hK Act.chUn 4 x.x x.y x.z n = Pot.pick (Pot.eUn true x.x x.y x.z n) (x.x + Pot.sg true 1 (-1) * n) from rfl, show Act.iK Act.chUn 4 x.x x.y x.z n = Pot.pick (Pot.eUn true x.x x.y x.z n) (x.y + Pot.sg true 0 (-1) * n) from rfl, show Act.uK Act.chUn 4 x.x x.y x.z n = Pot.pick (Pot.eUn true x.x x.y x.z n) (x.z + Pot.sg true (-1) 0 * n) from rfl, h4, Pot.pick0, Pot.pick0, Pot.pick0]
        simp only [Pot.sg, if_true, Bool.false_eq_true, if_false, Acc.mk.injEq]
        refine ⟨trivial, ?_, ?_, ?_, ?_, ?_, ?_⟩ <;> first | trivial | omega
      · rw [show Act.hK Act.chKe 4 x.x x.y x.z n = Pot.pick (Pot.eUn true x.x x.y x.z n) (x.x + Pot.sg true 0 0 * n) from rfl, show Act.iK Act.chKe 4 x.x x.y x.z n = Pot.pick (Pot.eUn true x.x x.y x.z n) (x.y + Pot.sg true 0 (-1) * n) from rfl, show Act.uK Act.chKe 4 x.x x.y x.z n = Pot.pick (Pot.eUn true x.x x.y x.z n) (x.z + Pot.sg true (-1) 0 * n) from rfl, h4, Pot.pick0, Pot.pick0, Pot.pick0]
        simp only [Pot.sg, if_true, Bool.false_eq_true, if_false, Acc.mk.injEq]
        refine ⟨trivial, ?_, ?_, ?_, ?_, ?_, ?_⟩ <;> first | trivial | omega
  refine ⟨⟨hX _ (Or.inl rfl), vals.1, ?_⟩, hX _ (Or.inr rfl), vals.2, ?_⟩
  · rw [vals.1]
    refine (Act.acc_iff _ _ _ _ _ _ _).2 ⟨hn, (Pot.may_iff _ _ _).2 ?_, (Pot.may_iff _ _ _).2 ?_⟩
    · unfold shift
      rcases hw with ⟨rfl, w1, w2⟩ | ⟨rfl, w1, w2⟩ | ⟨rfl, w1, w2⟩ | ⟨rfl, w1, w2⟩ <;> rw [w1] at hb hc ⊢ <;> simp only <;> omega
    · unfold shift
      rcases hw with ⟨rfl, w1, w2⟩ | ⟨rfl, w1, w2⟩ | ⟨rfl, w1, w2⟩ | ⟨rfl, w1, w2⟩ <;> rw [w2] at hy hz ⊢ <;> simp only <;> omega
  · rw [vals.2]
    refine (Act.acc_iff _ _ _ _ _ _ _).2 ⟨hn, (Pot.may_iff _ _ _).2 ?_, (Pot.may_iff _ _ _).2 ?_⟩
    · unfold shift
      rcases hw with ⟨rfl, w1, w2⟩ | ⟨rfl, w1, w2⟩ | ⟨rfl, w1, w2⟩ | ⟨rfl, w1, w2⟩ <;> rw [w1] at hb hc ⊢ <;> simp only <;> omega
    · unfold shift
      rcases hw with ⟨rfl, w1, w2⟩ | ⟨rfl, w1, w2⟩ | ⟨rfl, w1, w2⟩ | ⟨rfl, w1, w2⟩ <;> rw [w2] at hy hz ⊢ <;> simp only <;> omega
end Go.Proofs.Ytiakajheoajepaa.Led
