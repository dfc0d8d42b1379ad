/- What the proof is made of, part 19. -/
import Derived.Test.YtgidkmipecfjhaaTLLDoes18
namespace Go.Proofs.Ytgidkmipecfjhaa.Led
def mvX (C : Act.Ch) (x : Acc) (k : Int) (t : ByteArray) (n : Int) : Int := Act.mvE C x.s x.a x.b x.c x.x x.y x.z k t n
def mvA (C : Act.Ch) (x : Acc) (k n : Int) : Acc := ⟨x.s, C.h (Act.oF k) x.a x.b x.c n, C.i (Act.oF k) x.a x.b x.c n, C.o (Act.oF k) x.a x.b x.c n, Act.hK C k x.x x.y x.z n, Act.iK C k x.x x.y x.z n, Act.uK C k x.x x.y x.z n⟩
def shift (x : Acc) (h f i o g j u : Int) : Acc := ⟨x.s, x.a + h * f, x.b + i, x.c + o, x.x + h * g, x.y + j, x.z + u⟩
theorem ways {k : Int} {t : ByteArray} {n : Int} (h : Act.actB k t n = true) : 1 ≤ n ∧ n ≤ 1000000000000000 ∧
    ((k = 1 ∧ Act.dF k t n = -n ∧ Act.dK k t n = 0) ∨ (k = 2 ∧ Act.dF k t n = n ∧ Act.dK k t n = 0) ∨ (k = 3 ∧ Act.dF k t n = -n ∧ Act.dK k t n = n) ∨ (k = 4 ∧ Act.dF k t n = n ∧ Act.dK k t n = -n)) := by
  obtain ⟨⟨k1, k2⟩, _, n1, n2⟩ := (Act.act_iff k t n).1 h
  refine ⟨n1, n2, ?_⟩
  unfold Act.dF Act.dK
  rw [if_pos h, if_pos h]
  have : k = 1 ∨ k = 2 ∨ k = 3 ∨ k = 4 := by omega
  rcases this with rfl | rfl | rfl | rfl
  · exact Or.inl ⟨rfl, by simp [Act.wF], by simp [Act.wK]⟩
  · exact Or.inr (Or.inl ⟨rfl, by simp [Act.wF], by simp [Act.wK]⟩)
  · exact Or.inr (Or.inr (Or.inl ⟨rfl, by simp [Act.wF], by simp [Act.wK]⟩))
  · exact Or.inr (Or.inr (Or.inr ⟨rfl, by simp [Act.wF], by simp [Act.wK]⟩))
theorem mv_do {x : Acc} {k : Int} {t : ByteArray} {n : Int} (h : mvX Act.chDo x k t n = 0) :
    t = x.s ∧ accOk x = true ∧ Act.actB k t n = true ∧ mvA Act.chDo x k n = shift x 1 (Act.dF k t n) (max (Act.dF k t n) 0) (max (-Act.dF k t n) 0) (Act.dK k t n) (max (Act.dK k t n) 0) (max (-Act.dK k t n) 0) ∧ accOk (mvA Act.chDo x k n) = true := by
  obtain ⟨e1, hacc, hact, h3, h4⟩ := Act.done_parts h
  obtain ⟨_, _, _, b', c', y', z', ⟨u1, u2, u3, u4, u5, u6⟩, hok, _⟩ := Act.undone h
  refine ⟨e1, hacc, hact, ?_, ?_⟩
  · have h3' : Pot.eDo (Act.oF k) x.a x.b x.c n = 0 := h3
    obtain ⟨n1, n2, hw⟩ := ways hact
    have p1 : Act.chDo.h (Act.oF k) x.a x.b x.c n = x.a + Pot.sg (Act.oF k) (-1) 1 * n := by show Pot.pick (Pot.eDo _ _ _ _ _) _ = _; rw [h3', Pot.pick0]
    have p2 : Act.chDo.i (Act.oF k) x.a x.b x.c n = x.b + Pot.sg (Act.oF k) 0 1 * n := by show Pot.pick (Pot.eDo _ _ _ _ _) _ = _; rw [h3', Pot.pick0]
    have p3 : Act.chDo.o (Act.oF k) x.a x.b x.c n = x.c + Pot.sg (Act.oF k) 1 0 * n := by show Pot.pick (Pot.eDo _ _ _ _ _) _ = _; rw [h3', Pot.pick0]
    unfold mvA shift
    rw [p1, p2, p3]
    rcases hw with ⟨rfl, w1, w2⟩ | ⟨rfl, w1, w2⟩ | ⟨rfl, w1, w2⟩ | ⟨rfl, w1, w2⟩
    · rw [w1, w2, show Act.hK Act.chDo 1 x.x x.y x.z n = x.x from rfl, show Act.iK Act.chDo 1 x.x x.y x.z n = x.y from rfl, show Act.uK Act.chDo 1 x.x x.y x.z n = x.z from rfl, show Act.oF 1 = true from rfl]
      simp only [Pot.sg, if_true, Acc.mk.injEq]
      refine ⟨trivial, ?_, ?_, ?_, ?_, ?_, ?_⟩ <;> first | trivial | omega
    · rw [w1, w2, show Act.hK Act.chDo 2 x.x x.y x.z n = x.x from rfl, show Act.iK Act.chDo 2 x.x x.y x.z n = x.y from rfl, show Act.uK Act.chDo 2 x.x x.y x.z n = x.z from rfl, show Act.oF 2 = false from rfl]
      simp only [Pot.sg, Bool.false_eq_true, if_false, Acc.mk.injEq]
      refine ⟨trivial, ?_, ?_, ?_, ?_, ?_, ?_⟩ <;> first | trivial | omega
    · have h4' : Pot.eDo false x.x x.y x.z n = 0 := h4
      rw [w1, w2, show Act.hK Act.chDo 3 x.x x.y x.z n = Pot.pick (Pot.eDo false x.x x.y x.z n) (x.x + Pot.sg false (-1) 1 * n) from rfl, show Act.iK Act.chDo 3 x.x x.y x.z n = Pot.pick (Pot.eDo false x.x x.y x.z n) (x.y + Pot.sg false 0 1 * n) from rfl, show Act.uK Act.chDo 3 x.x x.y x.z n = Pot.pick (Pot.eDo false x.x x.y x.z n) (x.z + Pot.sg false 1 0 * n) from rfl, show Act.oF 3 = true from rfl, h4', Pot.pick0, Pot.pick0, Pot.pick0]
      simp only [Pot.sg, if_true, Bool.false_eq_true, if_false, Acc.mk.injEq]
      refine ⟨trivial, ?_, ?_, ?_, ?_, ?_, ?_⟩ <;> first | trivial | omega
    · have h4' : Pot.eDo true x.x x.y x.z n = 0 := h4
      rw [w1, w2, show Act.hK Act.chDo 4 x.x x.y x.z n = Pot.pick (Pot.eDo true x.x x.y x.z n) (x.x + Pot.sg true (-1) 1 * n) from rfl, show Act.iK Act.chDo 4 x.x x.y x.z n = Pot.pick (Pot.eDo true x.x x.y x.z n) (x.y + Pot.sg true 0 1 * n) from rfl, show Act.uK Act.chDo 4 x.x x.y x.z n = Pot.pick (Pot.eDo true x.x x.y x.z n) (x.z + Pot.sg true 1 0 * n) from rfl, show Act.oF 4 = false from rfl, h4', Pot.pick0, Pot.pick0, Pot.pick0]
      simp only [Pot.sg, if_true, Bool.false_eq_true, if_false, Acc.mk.injEq]
      refine ⟨trivial, ?_, ?_, ?_, ?_, ?_, ?_⟩ <;> first | trivial | omega
  · unfold accOk mvA
    simp only
    rw [u1, u2, u3, u4, u5, u6]
    exact hok
theorem pot_un {out : Bool} {h i o a : Int} (hm : Pot.mayB h i o = true) (h1 : 1 ≤ a) (h2 : a ≤ 1000000000000000) (hp : a ≤ Pot.mostUn out i o) : Pot.eUn out h i o a = 0 := by
  unfold Pot.eUn
  refine Pot.err_ok ((Pot.arg_iff _ _ _ _).2 ⟨(Pot.may_iff _ _ _).1 hm, h1, h2⟩) (by omega)
theorem mv_end {x : Acc} {k : Int} {t : ByteArray} {n : Int} (hx : accOk x = true) (ha : Act.actB k t n = true) (ht : t = x.s)
    (hb : max (Act.dF k t n) 0 ≤ x.b) (hc : max (-Act.dF k t n) 0 ≤ x.c) (hy : max (Act.dK k t n) 0 ≤ x.y) (hz : max (-Act.dK k t n) 0 ≤ x.z) :
    (mvX Act.chUn x k t n = 0 ∧ mvA Act.chUn x k n = shift x (-1) (Act.dF k t n) (-max (Act.dF k t n) 0) (-max (-Act.dF k t n) 0) (Act.dK k t n) (-max (Act.dK k t n) 0) (-max (-Act.dK k t n) 0) ∧ accOk (mvA Act.chUn x k n) = true) ∧
    (mvX Act.chKe x k t n = 0 ∧ mvA Act.chKe x k n = shift x 0 (Act.dF k t n) (-max (Act.dF k t n) 0) (-max (-Act.dF k t n) 0) (Act.dK k t n) (-max (Act.dK k t n) 0) (-max (-Act.dK k t n) 0) ∧ accOk (mvA Act.chKe x k n) = true) := by
  obtain ⟨n1, n2, hw⟩ := ways ha
  obtain ⟨hn, hf, hk⟩ := (Act.acc_iff _ _ _ _ _ _ _).1 hx
  obtain ⟨f1, f2, f3, f4⟩ := (Pot.may_iff _ _ _).1 hf
  obtain ⟨k1, k2, k3, k4⟩ := (Pot.may_iff _ _ _).1 hk
  have fit : Act.fitE x.s x.a x.b x.c x.x x.y x.z k t n = 0 := by subst ht; exact Act.fit_yes hx ha
  have hE : Pot.eUn (Act.oF k) x.a x.b x.c n = 0 := by
    refine pot_un hf n1 n2 ?_
    rcases hw with ⟨rfl, w1, w2⟩ | ⟨rfl, w1, w2⟩ | ⟨rfl, w1, w2⟩ | ⟨rfl, w1, w2⟩ <;> rw [w1] at hb hc
    · show n ≤ x.c; omega
    · show n ≤ x.b; omega
    · show n ≤ x.c; omega
    · show n ≤ x.b; omega
  have q1 : ∀ C, (C = Act.chUn ∨ C = Act.chKe) → C.e (Act.oF k) x.a x.b x.c n = 0 := by
    rintro C (rfl | rfl) <;> exact hE
  have hU : ∀ C, (C = Act.chUn ∨ C = Act.chKe) → Act.eK C k x.x x.y x.z n = 0 := by
    intro C hC
    rcases hw with ⟨rfl, w1, w2⟩ | ⟨rfl, w1, w2⟩ | ⟨rfl, w1, w2⟩ | ⟨rfl, w1, w2⟩ <;> rw [w2] at hy hz
    · rfl
    · rfl
    · have : Pot.eUn false x.x x.y x.z n = 0 := pot_un hk n1 n2 (by show n ≤ x.y; omega)
      rcases hC with rfl | rfl <;> exact this
    · have : Pot.eUn true x.x x.y x.z n = 0 := pot_un hk n1 n2 (by show n ≤ x.z; omega)
      rcases hC with rfl | rfl <;> exact this
  have hX : ∀ C, (C = Act.chUn ∨ C = Act.chKe) → mvX C x k t n = 0 := by
    intro C hC
    unfold mvX Act.mvE
    rw [if_pos fit, if_pos (q1 C hC), hU C hC]
  have vals : mvA Act.chUn x k n = shift x (-1) (Act.dF k t n) (-max (Act.dF k t n) 0) (-max (-Act.dF k t n) 0) (Act.dK k t n) (-max (Act.dK k t n) 0) (-max (-Act.dK k t n) 0) ∧ mvA Act.chKe x k n = shift x 0 (Act.dF k t n) (-max (Act.dF k t n) 0) (-max (-Act.dF k t n) 0) (Act.dK k t n) (-max (Act.dK k t n) 0) (-max (-Act.dK k t n) 0) := by
    have p1 : Act.chUn.h (Act.oF k) x.a x.b x.c n = x.a + Pot.sg (Act.oF k) 1 (-1) * n := by show Pot.pick (Pot.eUn _ _ _ _ _) _ = _; rw [hE, Pot.pick0]
    have p2 : Act.chUn.i (Act.oF k) x.a x.b x.c n = x.b + Pot.sg (Act.oF k) 0 (-1) * n := by show Pot.pick (Pot.eUn _ _ _ _ _) _ = _; rw [hE, Pot.pick0]
    have p3 : Act.chUn.o (Act.oF k) x.a x.b x.c n = x.c + Pot.sg (Act.oF k) (-1) 0 * n := by show Pot.pick (Pot.eUn _ _ _ _ _) _ = _; rw [hE, Pot.pick0]
    have r1 : Act.chKe.h (Act.oF k) x.a x.b x.c n = x.a + Pot.sg (Act.oF k) 0 0 * n := by show Pot.pick (Pot.eUn _ _ _ _ _) _ = _; rw [hE, Pot.pick0]
    have r2 : Act.chKe.i (Act.oF k) x.a x.b x.c n = x.b + Pot.sg (Act.oF k) 0 (-1) * n := by show Pot.pick (Pot.eUn _ _ _ _ _) _ = _; rw [hE, Pot.pick0]
    have r3 : Act.chKe.o (Act.oF k) x.a x.b x.c n = x.c + Pot.sg (Act.oF k) (-1) 0 * n := by show Pot.pick (Pot.eUn _ _ _ _ _) _ = _; rw [hE, Pot.pick0]
    have hu := hU Act.chUn (Or.inl rfl)
    unfold mvA shift
    rw [p1, p2, p3, r1, r2, r3]
    rcases hw with ⟨rfl, w1, w2⟩ | ⟨rfl, w1, w2⟩ | ⟨rfl, w1, w2⟩ | ⟨rfl, w1, w2⟩
    · rw [w1, w2, show Act.oF 1 = true from rfl]
      refine ⟨?_, ?_⟩
      · rw [show Act.hK Act.chUn 1 x.x x.y x.z n = x.x from rfl, show Act.iK Act.chUn 1 x.x x.y x.z n = x.y from rfl, show Act.uK Act.chUn 1 x.x x.y x.z n = x.z from rfl]
        simp only [Pot.sg, if_true, Acc.mk.injEq]
        refine ⟨trivial, ?_, ?_, ?_, ?_, ?_, ?_⟩ <;> first | trivial | omega
      · rw [show Act.hK Act.chKe 1 x.x x.y x.z n = x.x from rfl, show Act.iK Act.chKe 1 x.x x.y x.z n = x.y from rfl, show Act.uK Act.chKe 1 x.x x.y x.z n = x.z from rfl]
        simp only [Pot.sg, if_true, Acc.mk.injEq]
        refine ⟨trivial, ?_, ?_, ?_, ?_, ?_, ?_⟩ <;> first | trivial | omega
    · rw [w1, w2, show Act.oF 2 = false from rfl]
      refine ⟨?_, ?_⟩
      · rw [show Act.hK Act.chUn 2 x.x x.y x.z n = x.x from rfl, show Act.iK Act.chUn 2 x.x x.y x.z n = x.y from rfl, show Act.uK Act.chUn 2 x.x x.y x.z n = x.z from rfl]
        simp only [Pot.sg, Bool.false_eq_true, if_false, Acc.mk.injEq]
        refine ⟨trivial, ?_, ?_, ?_, ?_, ?_, ?_⟩ <;> first | trivial | omega
      · rw [show Act.hK Act.chKe 2 x.x x.y x.z n = x.x from rfl, show Act.iK Act.chKe 2 x.x x.y x.z n = x.y from rfl, show Act.uK Act.chKe 2 x.x x.y x.z n = x.z from rfl]
        simp only [Pot.sg, Bool.false_eq_true, if_false, Acc.mk.injEq]
        refine ⟨trivial, ?_, ?_, ?_, ?_, ?_, ?_⟩ <;> first | trivial | omega
    · have h4 : Pot.eUn false x.x x.y x.z n = 0 := hu
      rw [w1, w2, show Act.oF 3 = true from rfl]
      refine ⟨?_, ?_⟩
      · rw [show Act.hK Act.chUn 3 x.x x.y x.z n = Pot.pick (Pot.eUn false x.x x.y x.z n) (x.x + Pot.sg false 1 (-1) * n) from rfl, show Act.iK Act.chUn 3 x.x x.y x.z n = Pot.pick (Pot.eUn false x.x x.y x.z n) (x.y + Pot.sg false 0 (-1) * n) from rfl, show Act.uK Act.chUn 3 x.x x.y x.z n = Pot.pick (Pot.eUn false x.x x.y x.z n) (x.z + Pot.sg false (-1) 0 * n) from rfl, h4, Pot.pick0, Pot.pick0, Pot.pick0]
        simp only [Pot.sg, if_true, Bool.false_eq_true, if_false, Acc.mk.injEq]
        refine ⟨trivial, ?_, ?_, ?_, ?_, ?_, ?_⟩ <;> first | trivial | omega
      · rw [show Act.hK Act.chKe 3 x.x x.y x.z n = Pot.pick (Pot.eUn false x.x x.y x.z n) (x.x + Pot.sg false 0 0 * n) from rfl, show Act.iK Act.chKe 3 x.x x.y x.z n = Pot.pick (Pot.eUn false x.x x.y x.z n) (x.y + Pot.sg false 0 (-1) * n) from rfl, show Act.uK Act.chKe 3 x.x x.y x.z n = Pot.pick (Pot.eUn false x.x x.y x.z n) (x.z + Pot.sg false (-1) 0 * n) from rfl, h4, Pot.pick0, Pot.pick0, Pot.pick0]
        simp only [Pot.sg, if_true, Bool.false_eq_true, if_false, Acc.mk.injEq]
        refine ⟨trivial, ?_, ?_, ?_, ?_, ?_, ?_⟩ <;> first | trivial | omega
    · have h4 : Pot.eUn true x.x x.y x.z n = 0 := hu
      rw [w1, w2, show Act.oF 4 = false from rfl]
      refine ⟨?_, ?_⟩
      · rw [show Act.hK Act.chUn 4 x.x x.y x.z n = Pot.pick (Pot.eUn true x.x x.y x.z n) (x.x + Pot.sg true 1 (-1) * n) from rfl, show Act.iK Act.chUn 4 x.x x.y x.z n = Pot.pick (Pot.eUn true x.x x.y x.z n) (x.y + Pot.sg true 0 (-1) * n) from rfl, show Act.uK Act.chUn 4 x.x x.y x.z n = Pot.pick (Pot.eUn true x.x x.y x.z n) (x.z + Pot.sg true (-1) 0 * n) from rfl, h4, Pot.pick0, Pot.pick0, Pot.pick0]
        simp only [Pot.sg, if_true, Bool.false_eq_true, if_false, Acc.mk.injEq]
        refine ⟨trivial, ?_, ?_, ?_, ?_, ?_, ?_⟩ <;> first | trivial | omega
      · rw [show Act.hK Act.chKe 4 x.x x.y x.z n = Pot.pick (Pot.eUn true x.x x.y x.z n) (x.x + Pot.sg true 0 0 * n) from rfl, show Act.iK Act.chKe 4 x.x x.y x.z n = Pot.pick (Pot.eUn true x.x x.y x.z n) (x.y + Pot.sg true 0 (-1) * n) from rfl, show Act.uK Act.chKe 4 x.x x.y x.z n = Pot.pick (Pot.eUn true x.x x.y x.z n) (x.z + Pot.sg true (-1) 0 * n) from rfl, h4, Pot.pick0, Pot.pick0, Pot.pick0]
        simp only [Pot.sg, if_true, Bool.false_eq_true, if_false, Acc.mk.injEq]
        refine ⟨trivial, ?_, ?_, ?_, ?_, ?_, ?_⟩ <;> first | trivial | omega
  refine ⟨⟨hX _ (Or.inl rfl), vals.1, ?_⟩, hX _ (Or.inr rfl), vals.2, ?_⟩
  · rw [vals.1]
    refine (Act.acc_iff _ _ _ _ _ _ _).2 ⟨hn, (Pot.may_iff _ _ _).2 ?_, (Pot.may_iff _ _ _).2 ?_⟩
    · unfold shift
      rcases hw with ⟨rfl, w1, w2⟩ | ⟨rfl, w1, w2⟩ | ⟨rfl, w1, w2⟩ | ⟨rfl, w1, w2⟩ <;> rw [w1] at hb hc ⊢ <;> simp only <;> omega
    · unfold shift
      rcases hw with ⟨rfl, w1, w2⟩ | ⟨rfl, w1, w2⟩ | ⟨rfl, w1, w2⟩ | ⟨rfl, w1, w2⟩ <;> rw [w2] at hy hz ⊢ <;> simp only <;> omega
  · rw [vals.2]
    refine (Act.acc_iff _ _ _ _ _ _ _).2 ⟨hn, (Pot.may_iff _ _ _).2 ?_, (Pot.may_iff _ _ _).2 ?_⟩
    · unfold shift
      rcases hw with ⟨rfl, w1, w2⟩ | ⟨rfl, w1, w2⟩ | ⟨rfl, w1, w2⟩ | ⟨rfl, w1, w2⟩ <;> rw [w1] at hb hc ⊢ <;> simp only <;> omega
    · unfold shift
      rcases hw with ⟨rfl, w1, w2⟩ | ⟨rfl, w1, w2⟩ | ⟨rfl, w1, w2⟩ | ⟨rfl, w1, w2⟩ <;> rw [w2] at hy hz ⊢ <;> simp only <;> omega
end Go.Proofs.Ytgidkmipecfjhaa.Led
namespace Go.Proofs.Ytgidkmipecfjhaa
open Go.RowKit
open Led (Acc Mk)
set_option maxHeartbeats 8000000 in
set_option maxRecDepth 100000 in
theorem changedU_no (A : List Acc) (M : List Mk) (x y : Acc) (k n : Int) (t : ByteArray) (er : Int) (p b off : Nat) (capA : Nat) (adM : Option Addr) (capM : Nat) (w : World) (hp : p < A.length) (hpx : A[p] = x)
    (HL : Hid (AccsAt w (some ⟨b, off, none⟩) A)) (her : er ≠ 0)
    (HF : Hid (∀ w', Gr w w' → Calls Try.prog 30 #[.slice (some ⟨b, off, none⟩) A.length capA, .string t] w' fun e w2 => e = .returned (.tuple #[.int .i64 (p : Nat), .bool true]) ∧ Gr w' w2))
    (HC : Hid (∀ w', Calls Try.prog 61 #[.agg #[.string x.s, .int .i64 x.a, .int .i64 x.b, .int .i64 x.c, .int .i64 x.x, .int .i64 x.y, .int .i64 x.z], .agg #[.int .i64 k, .string t, .int .i64 n]] w' fun e w2 => e = .returned (.tuple #[.agg #[.string y.s, .int .i64 y.a, .int .i64 y.b, .int .i64 y.c, .int .i64 y.x, .int .i64 y.y, .int .i64 y.z], .int .i64 er]) ∧ Gr w' w2)) :
    Calls Try.prog 82 #[.agg #[.slice (some ⟨b, off, none⟩) A.length capA, .slice adM M.length capM], .func (.func 30) #[.slice (some ⟨b, off, none⟩) A.length capA] #[], .agg #[.int .i64 k, .string t, .int .i64 n], .func (.func 61) #[] #[]] w fun e w' => e = .returned (.tuple #[.agg #[.slice none 0 0, .slice none 0 0], .int .i64 er]) ∧ Gr w w' := by
  obtain ⟨b', off', had, hbw, d0, d1, d2, d3, d4, d5, d6⟩ := (AccsAt.at HL.out p hp)
  cases had
  rw [hpx] at d0 d1 d2 d3 d4 d5 d6
  have hpi : (p : Int) < (A.length : Int) := by omega
  have hne : (er != 0) = true := by simpa using her
  go_enter Try.func82, Try.ntmps82
  go_wp2_with fail
  refine (HF.out _ ((Gr.refl _).alloc.alloc.alloc)).mono ?_
  rintro e w1 ⟨rfl, hg1⟩
  have HB : Hid (TwoAt w1 w.heap.size (.slice (some ⟨b, off, none⟩) A.length capA) (.slice adM M.length capM)) := (((TwoAt.new w _ _ _ _ rfl).gr (Gr.refl _).alloc).gr (Gr.refl _).alloc).gr hg1
  have HX : Hid (BoxAt w1 (w.heap.size + 1) (.int .i64 k) (.string t) (.int .i64 n)) := ((BoxAt.new _ _ _ _ _ (w.heap.size + 1) (by simp)).gr (Gr.refl _).alloc).gr hg1
  have HR : Hid (TwoAt w1 (w.heap.size + 1 + 1) (.slice none 0 0) (.slice none 0 0)) := (TwoAt.new _ _ _ _ (w.heap.size + 1 + 1) (by simp)).gr hg1
  have g1 : Gr w w1 := (by repeat (first | exact Gr.refl _ | refine Gr.alloc ?_ | refine Gr.drew ?_ | refine Gr.trans ?_ (by assumption)))
  have e0 := g1.keep d0
  have e1 := g1.keep d1
  have e2 := g1.keep d2
  have e3 := g1.keep d3
  have e4 := g1.keep d4
  have e5 := g1.keep d5
  have e6 := g1.keep d6
  have hbw1 : b < w1.heap.size := Nat.lt_of_lt_of_le hbw g1.size
  obtain ⟨b0, b1, _, _, bl⟩ := HB.out
  obtain ⟨a0, a1, a2, _, _, _, al⟩ := HX.out
  have HG1 : Hid (Gr w w1) := g1
  clear hg1 g1 d0 d1 d2 d3 d4 d5 d6
  go_upto_region 2 with fail
  go_cut [12, 13] (fun sp se wx => ∃ Q, sp = .pointer (some ⟨Q, 0, none⟩) ∧ se = .int .i64 er ∧ w1.heap.size ≤ Q ∧ AccAt wx Q (.string y.s) (.int .i64 y.a) (.int .i64 y.b) (.int .i64 y.c) (.int .i64 y.x) (.int .i64 y.y) (.int .i64 y.z) ∧ Gr w1 wx)
  case first =>
    refine wp_region_held_drew (S := (fun w' => Gr w1 w' ∧ w'.cell? ⟨w.heap.size, 0, none⟩ = some (.slice (some ⟨b, off, none⟩) A.length capA) ∧ w'.cell? ⟨b, off + p * 7, none⟩ = some (.string x.s) ∧ w'.cell? ⟨b, off + p * 7 + 1, none⟩ = some (.int .i64 x.a) ∧ w'.cell? ⟨b, off + p * 7 + 2, none⟩ = some (.int .i64 x.b) ∧ w'.cell? ⟨b, off + p * 7 + 3, none⟩ = some (.int .i64 x.c) ∧ w'.cell? ⟨b, off + p * 7 + 4, none⟩ = some (.int .i64 x.x) ∧ w'.cell? ⟨b, off + p * 7 + 5, none⟩ = some (.int .i64 x.y) ∧ w'.cell? ⟨b, off + p * 7 + 6, none⟩ = some (.int .i64 x.z) ∧ w'.cell? ⟨w.heap.size + 1, 0, none⟩ = some (.int .i64 k) ∧ w'.cell? ⟨w.heap.size + 1, 1, none⟩ = some (.string t) ∧ w'.cell? ⟨w.heap.size + 1, 2, none⟩ = some (.int .i64 n))) (by kernel_rfl) (by exact hold11 (by (with_reducible repeat' (first | exact Gr.refl _ | refine Gr.set ?_ _ ?_ _ | refine Gr.alloc ?_ | refine Gr.drew ?_ | refine Gr.trans ?_ (by assumption))) <;> (first | (simp; done) | (simp; omega) | omega)) b0 e0 e1 e2 e3 e4 e5 e6 a0 a1 a2) (fun hHeld => ?_)
    refine ty 0 22 hHeld ?_
    refine ty 1 23 hHeld ?_
    refine ty 2 24 hHeld ?_
    refine ty 3 25 hHeld ?_
    refine ty 4 26 hHeld ?_
    refine ty 5 27 hHeld ?_
    refine ty 6 28 hHeld ?_
    refine wpAnyH_ready (rs := [7, 11]) (by kernel_rfl) (by simp) (AllReadyH.cons rfl (fun K hK => ?_) (AllReadyH.cons rfl (fun K hK => ?_) AllReadyH.nil))
    · skip
      go_simp
      (go_at_call 61; refine (HC.out _).mono ?_; rintro e wn ⟨rfl, hgn⟩; have hzn := hgn.size; simp at hzn)
      (try go_wp2_with fail)
      refine hK.out _ _ (by exact hold11 (by (with_reducible repeat' (first | exact Gr.refl _ | refine Gr.set ?_ _ ?_ _ | refine Gr.alloc ?_ | refine Gr.drew ?_ | refine Gr.trans ?_ (by assumption))) <;> (first | (simp; done) | (simp; omega) | omega)) b0 e0 e1 e2 e3 e4 e5 e6 a0 a1 a2) (fun hHeldN => ?_)
      clear hHeld hK K
      have hHeld := hHeldN
      clear hHeldN
      refine ty 8 21 hHeld ?_
      refine ty 9 30 hHeld ?_
      refine ty 10 31 hHeld ?_
      refine wpAnyH_ready (rs := [11]) (by kernel_rfl) (by simp) (AllReadyH.cons rfl (fun K hK => ?_) AllReadyH.nil)
      go_simp
      refine hK.out _ _ (by exact hold11 (by (with_reducible repeat' (first | exact Gr.refl _ | refine Gr.set ?_ _ ?_ _ | refine Gr.alloc ?_ | refine Gr.drew ?_ | refine Gr.trans ?_ (by assumption))) <;> (first | (simp; done) | (simp; omega) | omega)) b0 e0 e1 e2 e3 e4 e5 e6 a0 a1 a2) (fun hHeldN => ?_)
      clear hHeld hK K
      have hHeld := hHeldN
      clear hHeldN
      refine wpAnyH_ready (rs := [12]) (by kernel_rfl) (by simp) (AllReadyH.cons rfl (fun K hK => ?_) AllReadyH.nil)
      go_simp
      refine hK.out _ _ (by exact hold11 (by (with_reducible repeat' (first | exact Gr.refl _ | refine Gr.set ?_ _ ?_ _ | refine Gr.alloc ?_ | refine Gr.drew ?_ | refine Gr.trans ?_ (by assumption))) <;> (first | (simp; done) | (simp; omega) | omega)) b0 e0 e1 e2 e3 e4 e5 e6 a0 a1 a2) (fun hHeldN => ?_)
      clear hHeld hK K
      have hHeld := hHeldN
      clear hHeldN
      refine ty 13 13 hHeld ?_
      refine wpAnyH_done (by kernel_rfl) ?_ _
      go_wp2_with fail
      go_meet
      refine ⟨_, rfl, rfl, by omega, ?_, (by (with_reducible repeat' (first | exact Gr.refl _ | refine Gr.set ?_ _ ?_ _ | refine Gr.alloc ?_ | refine Gr.drew ?_ | refine Gr.trans ?_ (by assumption))) <;> (first | (simp; done) | (simp; omega) | omega))⟩
      first | with_reducible exact AccAt.new wn _ _ _ _ _ _ _ _ _ rfl | with_reducible exact HBZ.out.set7 _ _ _ _ _ _ _
    · skip
      go_simp
      refine hK.out _ _ (by exact hold11 (by (with_reducible repeat' (first | exact Gr.refl _ | refine Gr.set ?_ _ ?_ _ | refine Gr.alloc ?_ | refine Gr.drew ?_ | refine Gr.trans ?_ (by assumption))) <;> (first | (simp; done) | (simp; omega) | omega)) b0 e0 e1 e2 e3 e4 e5 e6 a0 a1 a2) (fun hHeldN => ?_)
      clear hHeld hK K
      have hHeld := hHeldN
      clear hHeldN
      refine wpAnyH_ready (rs := [7]) (by kernel_rfl) (by simp) (AllReadyH.cons rfl (fun K hK => ?_) AllReadyH.nil)
      go_simp
      (go_at_call 61; refine (HC.out _).mono ?_; rintro e wn ⟨rfl, hgn⟩; have hzn := hgn.size; simp at hzn; have hbz := ((AccAt.new w1 _ _ _ _ _ _ _ _ _ rfl).gr (Gr.refl _).drew).gr hgn; have HBZ : Hid (AccAt wn w1.heap.size _ _ _ _ _ _ _) := hbz; obtain ⟨z0, z1, z2, z3, z4, z5, z6⟩ := hbz.cells; obtain ⟨zf0, zf1, zf2, zf3, zf4, zf5, zf6⟩ := hbz.frozens; have zl := hbz.lt)
      (try go_wp2_with fail)
      refine hK.out _ _ (by exact hold11 (by (with_reducible repeat' (first | exact Gr.refl _ | refine Gr.set ?_ _ ?_ _ | refine Gr.alloc ?_ | refine Gr.drew ?_ | refine Gr.trans ?_ (by assumption))) <;> (first | (simp; done) | (simp; omega) | omega)) b0 e0 e1 e2 e3 e4 e5 e6 a0 a1 a2) (fun hHeldN => ?_)
      clear hHeld hK K
      have hHeld := hHeldN
      clear hHeldN
      refine ty 8 21 hHeld ?_
      refine ty 9 30 hHeld ?_
      refine ty 10 31 hHeld ?_
      refine wpAnyH_ready (rs := [12]) (by kernel_rfl) (by simp) (AllReadyH.cons rfl (fun K hK => ?_) AllReadyH.nil)
      go_simp
      refine hK.out _ _ (by exact hold11 (by (with_reducible repeat' (first | exact Gr.refl _ | refine Gr.set ?_ _ ?_ _ | refine Gr.alloc ?_ | refine Gr.drew ?_ | refine Gr.trans ?_ (by assumption))) <;> (first | (simp; done) | (simp; omega) | omega)) b0 e0 e1 e2 e3 e4 e5 e6 a0 a1 a2) (fun hHeldN => ?_)
      clear hHeld hK K
      have hHeld := hHeldN
      clear hHeldN
      refine ty 13 13 hHeld ?_
      refine wpAnyH_done (by kernel_rfl) ?_ _
      go_wp2_with fail
      go_meet
      refine ⟨_, rfl, rfl, by omega, ?_, (by (with_reducible repeat' (first | exact Gr.refl _ | refine Gr.set ?_ _ ?_ _ | refine Gr.alloc ?_ | refine Gr.drew ?_ | refine Gr.trans ?_ (by assumption))) <;> (first | (simp; done) | (simp; omega) | omega))⟩
      first | with_reducible exact AccAt.new wn _ _ _ _ _ _ _ _ _ rfl | with_reducible exact HBZ.out.set7 _ _ _ _ _ _ _
  case rest =>
  obtain ⟨wp, rfl⟩ : ∃ x, x = wc := ⟨_, rfl⟩
  obtain ⟨Q, rfl, rfl, hQ, hZ, hgc⟩ := hcut
  have HGP : Hid (Gr w wp) := HG1.out.trans hgc
  have HBP : Hid (TwoAt wp w.heap.size (.slice (some ⟨b, off, none⟩) A.length capA) (.slice adM M.length capM)) := HB.out.gr hgc
  have HRP : Hid (TwoAt wp (w.heap.size + 1 + 1) (.slice none 0 0) (.slice none 0 0)) := HR.out.gr hgc
  have HZP : Hid (AccAt wp Q (.string y.s) (.int .i64 y.a) (.int .i64 y.b) (.int .i64 y.c) (.int .i64 y.x) (.int .i64 y.y) (.int .i64 y.z)) := hZ
  have hrl : w.heap.size + 1 + 1 < w1.heap.size := HR.out.lt
  clear hZ hgc HB HX HR HG1 b0 b1 bl a0 a1 a2 al e0 e1 e2 e3 e4 e5 e6
  obtain ⟨r0, r1, f0, f1, rl⟩ := HRP.out
  go_wp2
  exact bodyPost_ret (v := .tuple #[.agg #[.slice none 0 0, .slice none 0 0], .int .i64 er]) (by simp [results, Try.results82, go_sem, *]) rfl ⟨rfl, (HGP.out.set _ (by simp; omega) _).set _ (by simp; omega) _⟩
set_option maxHeartbeats 8000000 in
set_option maxRecDepth 100000 in
theorem changedU_yes (A : List Acc) (M : List Mk) (x y : Acc) (k n : Int) (t : ByteArray) (p b off : Nat) (capA : Nat) (adM : Option Addr) (capM : Nat) (w : World) (hp : p < A.length) (hpx : A[p] = x) (hA12 : A.length ≤ 12)
    (HL : Hid (AccsAt w (some ⟨b, off, none⟩) A))
    (HF : Hid (∀ w', Gr w w' → Calls Try.prog 30 #[.slice (some ⟨b, off, none⟩) A.length capA, .string t] w' fun e w2 => e = .returned (.tuple #[.int .i64 (p : Nat), .bool true]) ∧ Gr w' w2))
    (HC : Hid (∀ w', Calls Try.prog 61 #[.agg #[.string x.s, .int .i64 x.a, .int .i64 x.b, .int .i64 x.c, .int .i64 x.x, .int .i64 x.y, .int .i64 x.z], .agg #[.int .i64 k, .string t, .int .i64 n]] w' fun e w2 => e = .returned (.tuple #[.agg #[.string y.s, .int .i64 y.a, .int .i64 y.b, .int .i64 y.c, .int .i64 y.x, .int .i64 y.y, .int .i64 y.z], .int .i64 0]) ∧ Gr w' w2))
    (HCP : Hid (∀ w', Gr w w' → Calls Try.prog 51 #[.agg #[.slice (some ⟨b, off, none⟩) A.length capA, .slice adM M.length capM]] w' fun e w2 => ∃ v1 v2, e = .returned (.agg #[v1, v2]) ∧ w2.ownsRow w'.heap.size 31 7 v1 A.length (A.flatMap accC) ∧ w2.ownsRow w'.heap.size 64 5 v2 M.length (M.flatMap mkC) ∧ Gr w' w2)) :
    Calls Try.prog 82 #[.agg #[.slice (some ⟨b, off, none⟩) A.length capA, .slice adM M.length capM], .func (.func 30) #[.slice (some ⟨b, off, none⟩) A.length capA] #[], .agg #[.int .i64 k, .string t, .int .i64 n], .func (.func 61) #[] #[]] w fun e w' => ∃ v1 v2, e = .returned (.tuple #[.agg #[v1, v2], .int .i64 0]) ∧ w'.ownsRow w.heap.size 31 7 v1 A.length ((A.set p y).flatMap accC) ∧ w'.ownsRow w.heap.size 64 5 v2 M.length (M.flatMap mkC) ∧ Gr w w' := by
  obtain ⟨b', off', had, hbw, d0, d1, d2, d3, d4, d5, d6⟩ := (AccsAt.at HL.out p hp)
  cases had
  rw [hpx] at d0 d1 d2 d3 d4 d5 d6
  have hpi : (p : Int) < (A.length : Int) := by omega
  go_enter Try.func82, Try.ntmps82
  go_wp2_with fail
  refine (HF.out _ ((Gr.refl _).alloc.alloc.alloc)).mono ?_
  rintro e w1 ⟨rfl, hg1⟩
  have HB : Hid (TwoAt w1 w.heap.size (.slice (some ⟨b, off, none⟩) A.length capA) (.slice adM M.length capM)) := (((TwoAt.new w _ _ _ _ rfl).gr (Gr.refl _).alloc).gr (Gr.refl _).alloc).gr hg1
  have HX : Hid (BoxAt w1 (w.heap.size + 1) (.int .i64 k) (.string t) (.int .i64 n)) := ((BoxAt.new _ _ _ _ _ (w.heap.size + 1) (by simp)).gr (Gr.refl _).alloc).gr hg1
  have HR : Hid (TwoAt w1 (w.heap.size + 1 + 1) (.slice none 0 0) (.slice none 0 0)) := (TwoAt.new _ _ _ _ (w.heap.size + 1 + 1) (by simp)).gr hg1
  have g1 : Gr w w1 := (by repeat (first | exact Gr.refl _ | refine Gr.alloc ?_ | refine Gr.drew ?_ | refine Gr.trans ?_ (by assumption)))
  have e0 := g1.keep d0
  have e1 := g1.keep d1
  have e2 := g1.keep d2
  have e3 := g1.keep d3
  have e4 := g1.keep d4
  have e5 := g1.keep d5
  have e6 := g1.keep d6
  have hbw1 : b < w1.heap.size := Nat.lt_of_lt_of_le hbw g1.size
  obtain ⟨b0, b1, _, _, bl⟩ := HB.out
  obtain ⟨a0, a1, a2, _, _, _, al⟩ := HX.out
  have HG1 : Hid (Gr w w1) := g1
  clear hg1 g1 d0 d1 d2 d3 d4 d5 d6
  go_upto_region 2 with fail
  go_cut [12, 13] (fun sp se wx => ∃ Q, sp = .pointer (some ⟨Q, 0, none⟩) ∧ se = .int .i64 0 ∧ w1.heap.size ≤ Q ∧ AccAt wx Q (.string y.s) (.int .i64 y.a) (.int .i64 y.b) (.int .i64 y.c) (.int .i64 y.x) (.int .i64 y.y) (.int .i64 y.z) ∧ Gr w1 wx)
  case first =>
    refine wp_region_held_drew (S := (fun w' => Gr w1 w' ∧ w'.cell? ⟨w.heap.size, 0, none⟩ = some (.slice (some ⟨b, off, none⟩) A.length capA) ∧ w'.cell? ⟨b, off + p * 7, none⟩ = some (.string x.s) ∧ w'.cell? ⟨b, off + p * 7 + 1, none⟩ = some (.int .i64 x.a) ∧ w'.cell? ⟨b, off + p * 7 + 2, none⟩ = some (.int .i64 x.b) ∧ w'.cell? ⟨b, off + p * 7 + 3, none⟩ = some (.int .i64 x.c) ∧ w'.cell? ⟨b, off + p * 7 + 4, none⟩ = some (.int .i64 x.x) ∧ w'.cell? ⟨b, off + p * 7 + 5, none⟩ = some (.int .i64 x.y) ∧ w'.cell? ⟨b, off + p * 7 + 6, none⟩ = some (.int .i64 x.z) ∧ w'.cell? ⟨w.heap.size + 1, 0, none⟩ = some (.int .i64 k) ∧ w'.cell? ⟨w.heap.size + 1, 1, none⟩ = some (.string t) ∧ w'.cell? ⟨w.heap.size + 1, 2, none⟩ = some (.int .i64 n))) (by kernel_rfl) (by exact hold11 (by (with_reducible repeat' (first | exact Gr.refl _ | refine Gr.set ?_ _ ?_ _ | refine Gr.alloc ?_ | refine Gr.drew ?_ | refine Gr.trans ?_ (by assumption))) <;> (first | (simp; done) | (simp; omega) | omega)) b0 e0 e1 e2 e3 e4 e5 e6 a0 a1 a2) (fun hHeld => ?_)
    refine ty 0 22 hHeld ?_
    refine ty 1 23 hHeld ?_
    refine ty 2 24 hHeld ?_
    refine ty 3 25 hHeld ?_
    refine ty 4 26 hHeld ?_
    refine ty 5 27 hHeld ?_
    refine ty 6 28 hHeld ?_
    refine wpAnyH_ready (rs := [7, 11]) (by kernel_rfl) (by simp) (AllReadyH.cons rfl (fun K hK => ?_) (AllReadyH.cons rfl (fun K hK => ?_) AllReadyH.nil))
    · skip
      go_simp
      (go_at_call 61; refine (HC.out _).mono ?_; rintro e wn ⟨rfl, hgn⟩; have hzn := hgn.size; simp at hzn)
      (try go_wp2_with fail)
      refine hK.out _ _ (by exact hold11 (by (with_reducible repeat' (first | exact Gr.refl _ | refine Gr.set ?_ _ ?_ _ | refine Gr.alloc ?_ | refine Gr.drew ?_ | refine Gr.trans ?_ (by assumption))) <;> (first | (simp; done) | (simp; omega) | omega)) b0 e0 e1 e2 e3 e4 e5 e6 a0 a1 a2) (fun hHeldN => ?_)
      clear hHeld hK K
      have hHeld := hHeldN
      clear hHeldN
      refine ty 8 21 hHeld ?_
      refine ty 9 30 hHeld ?_
      refine ty 10 31 hHeld ?_
      refine wpAnyH_ready (rs := [11]) (by kernel_rfl) (by simp) (AllReadyH.cons rfl (fun K hK => ?_) AllReadyH.nil)
      go_simp
      refine hK.out _ _ (by exact hold11 (by (with_reducible repeat' (first | exact Gr.refl _ | refine Gr.set ?_ _ ?_ _ | refine Gr.alloc ?_ | refine Gr.drew ?_ | refine Gr.trans ?_ (by assumption))) <;> (first | (simp; done) | (simp; omega) | omega)) b0 e0 e1 e2 e3 e4 e5 e6 a0 a1 a2) (fun hHeldN => ?_)
      clear hHeld hK K
      have hHeld := hHeldN
      clear hHeldN
      refine wpAnyH_ready (rs := [12]) (by kernel_rfl) (by simp) (AllReadyH.cons rfl (fun K hK => ?_) AllReadyH.nil)
      go_simp
      refine hK.out _ _ (by exact hold11 (by (with_reducible repeat' (first | exact Gr.refl _ | refine Gr.set ?_ _ ?_ _ | refine Gr.alloc ?_ | refine Gr.drew ?_ | refine Gr.trans ?_ (by assumption))) <;> (first | (simp; done) | (simp; omega) | omega)) b0 e0 e1 e2 e3 e4 e5 e6 a0 a1 a2) (fun hHeldN => ?_)
      clear hHeld hK K
      have hHeld := hHeldN
      clear hHeldN
      refine ty 13 13 hHeld ?_
      refine wpAnyH_done (by kernel_rfl) ?_ _
      go_wp2_with fail
      go_meet
      refine ⟨_, rfl, rfl, by omega, ?_, (by (with_reducible repeat' (first | exact Gr.refl _ | refine Gr.set ?_ _ ?_ _ | refine Gr.alloc ?_ | refine Gr.drew ?_ | refine Gr.trans ?_ (by assumption))) <;> (first | (simp; done) | (simp; omega) | omega))⟩
      first | with_reducible exact AccAt.new wn _ _ _ _ _ _ _ _ _ rfl | with_reducible exact HBZ.out.set7 _ _ _ _ _ _ _
    · skip
      go_simp
      refine hK.out _ _ (by exact hold11 (by (with_reducible repeat' (first | exact Gr.refl _ | refine Gr.set ?_ _ ?_ _ | refine Gr.alloc ?_ | refine Gr.drew ?_ | refine Gr.trans ?_ (by assumption))) <;> (first | (simp; done) | (simp; omega) | omega)) b0 e0 e1 e2 e3 e4 e5 e6 a0 a1 a2) (fun hHeldN => ?_)
      clear hHeld hK K
      have hHeld := hHeldN
      clear hHeldN
      refine wpAnyH_ready (rs := [7]) (by kernel_rfl) (by simp) (AllReadyH.cons rfl (fun K hK => ?_) AllReadyH.nil)
      go_simp
      (go_at_call 61; refine (HC.out _).mono ?_; rintro e wn ⟨rfl, hgn⟩; have hzn := hgn.size; simp at hzn; have hbz := ((AccAt.new w1 _ _ _ _ _ _ _ _ _ rfl).gr (Gr.refl _).drew).gr hgn; have HBZ : Hid (AccAt wn w1.heap.size _ _ _ _ _ _ _) := hbz; obtain ⟨z0, z1, z2, z3, z4, z5, z6⟩ := hbz.cells; obtain ⟨zf0, zf1, zf2, zf3, zf4, zf5, zf6⟩ := hbz.frozens; have zl := hbz.lt)
      (try go_wp2_with fail)
      refine hK.out _ _ (by exact hold11 (by (with_reducible repeat' (first | exact Gr.refl _ | refine Gr.set ?_ _ ?_ _ | refine Gr.alloc ?_ | refine Gr.drew ?_ | refine Gr.trans ?_ (by assumption))) <;> (first | (simp; done) | (simp; omega) | omega)) b0 e0 e1 e2 e3 e4 e5 e6 a0 a1 a2) (fun hHeldN => ?_)
      clear hHeld hK K
      have hHeld := hHeldN
      clear hHeldN
      refine ty 8 21 hHeld ?_
      refine ty 9 30 hHeld ?_
      refine ty 10 31 hHeld ?_
      refine wpAnyH_ready (rs := [12]) (by kernel_rfl) (by simp) (AllReadyH.cons rfl (fun K hK => ?_) AllReadyH.nil)
      go_simp
      refine hK.out _ _ (by exact hold11 (by (with_reducible repeat' (first | exact Gr.refl _ | refine Gr.set ?_ _ ?_ _ | refine Gr.alloc ?_ | refine Gr.drew ?_ | refine Gr.trans ?_ (by assumption))) <;> (first | (simp; done) | (simp; omega) | omega)) b0 e0 e1 e2 e3 e4 e5 e6 a0 a1 a2) (fun hHeldN => ?_)
      clear hHeld hK K
      have hHeld := hHeldN
      clear hHeldN
      refine ty 13 13 hHeld ?_
      refine wpAnyH_done (by kernel_rfl) ?_ _
      go_wp2_with fail
      go_meet
      refine ⟨_, rfl, rfl, by omega, ?_, (by (with_reducible repeat' (first | exact Gr.refl _ | refine Gr.set ?_ _ ?_ _ | refine Gr.alloc ?_ | refine Gr.drew ?_ | refine Gr.trans ?_ (by assumption))) <;> (first | (simp; done) | (simp; omega) | omega))⟩
      first | with_reducible exact AccAt.new wn _ _ _ _ _ _ _ _ _ rfl | with_reducible exact HBZ.out.set7 _ _ _ _ _ _ _
  case rest =>
  obtain ⟨wp, rfl⟩ : ∃ x, x = wc := ⟨_, rfl⟩
  obtain ⟨Q, rfl, rfl, hQ, hZ, hgc⟩ := hcut
  have HGP : Hid (Gr w wp) := HG1.out.trans hgc
  have HBP : Hid (TwoAt wp w.heap.size (.slice (some ⟨b, off, none⟩) A.length capA) (.slice adM M.length capM)) := HB.out.gr hgc
  have HRP : Hid (TwoAt wp (w.heap.size + 1 + 1) (.slice none 0 0) (.slice none 0 0)) := HR.out.gr hgc
  have HZP : Hid (AccAt wp Q (.string y.s) (.int .i64 y.a) (.int .i64 y.b) (.int .i64 y.c) (.int .i64 y.x) (.int .i64 y.y) (.int .i64 y.z)) := hZ
  have hrl : w.heap.size + 1 + 1 < w1.heap.size := HR.out.lt
  clear hZ hgc HB HX HR HG1 b0 b1 bl a0 a1 a2 al e0 e1 e2 e3 e4 e5 e6
  obtain ⟨b0, b1, bf0, bf1, bl⟩ := HBP.out
  go_wp2_with fail
  refine (HCP.out _ HGP.out).mono ?_
  rintro e w3 ⟨v1, v2, rfl, ho1, ho2, hg3⟩
  obtain ⟨g, cap, rfl, hgb, hgl, hgn, hgm⟩ := own_form ho1 (by omega)
  obtain ⟨ad2, cap2, rfl, _⟩ := own_row ho2
  have hps := hg3.size
  have hpw := HGP.out.size
  have HO1 : Hid (w3.ownsRow wp.heap.size 31 7 (.slice (some ⟨g, 0, none⟩) A.length cap) A.length (A.flatMap accC)) := ho1
  have HO2 : Hid (w3.ownsRow wp.heap.size 64 5 (.slice ad2 M.length cap2) M.length (M.flatMap mkC)) := ho2
  have HG3 : Hid (Gr w w3) := HGP.out.trans hg3
  have HB3 : Hid (TwoAt w3 w.heap.size (.slice (some ⟨b, off, none⟩) A.length capA) (.slice adM M.length capM)) := HBP.out.gr hg3
  have HR3 : Hid (TwoAt w3 (w.heap.size + 1 + 1) (.slice none 0 0) (.slice none 0 0)) := HRP.out.gr hg3
  have HZ3 : Hid (AccAt w3 Q (.string y.s) (.int .i64 y.a) (.int .i64 y.b) (.int .i64 y.c) (.int .i64 y.x) (.int .i64 y.y) (.int .i64 y.z)) := HZP.out.gr hg3
  have hQl : Q < wp.heap.size := HZP.out.lt
  have hrl2 : w.heap.size + 1 + 1 < wp.heap.size := HRP.out.lt
  obtain ⟨b0, b1, bf0, bf1, bl⟩ := HB3.out
  obtain ⟨r0, r1, f0, f1, rl⟩ := HR3.out
  obtain ⟨z0, z1, z2, z3, z4, z5, z6⟩ := HZ3.out.cells
  have zl := HZ3.out.lt
  have hm7 : p * 7 + 7 ≤ A.length * 7 := by have := Nat.mul_le_mul_right 7 (show p + 1 ≤ A.length by omega); omega
  have hfl : (A.flatMap accC).length = A.length * 7 := flat_len accC_len A
  have q : ∀ i, i < 7 → ∃ u, w3.cell? ⟨g, p * 7 + i, none⟩ = some u := fun i hi => by
    rw [HO1.out.cellAt (p * 7 + i) (by omega)]
    exact ⟨_, List.getElem?_eq_getElem (by omega)⟩
  obtain ⟨q0, hq0⟩ := q 0 (by omega)
  obtain ⟨q1, hq1⟩ := q 1 (by omega)
  obtain ⟨q2, hq2⟩ := q 2 (by omega)
  obtain ⟨q3, hq3⟩ := q 3 (by omega)
  obtain ⟨q4, hq4⟩ := q 4 (by omega)
  obtain ⟨q5, hq5⟩ := q 5 (by omega)
  obtain ⟨q6, hq6⟩ := q 6 (by omega)
  rw [Nat.add_zero] at hq0
  have t0 := HO1.out.frozenAt (p * 7)
  have t1 := HO1.out.frozenAt (p * 7 + 1)
  have t2 := HO1.out.frozenAt (p * 7 + 2)
  have t3 := HO1.out.frozenAt (p * 7 + 3)
  have t4 := HO1.out.frozenAt (p * 7 + 4)
  have t5 := HO1.out.frozenAt (p * 7 + 5)
  have t6 := HO1.out.frozenAt (p * 7 + 6)
  have n1 : g ≠ w.heap.size := by omega
  have n2 : g ≠ w.heap.size + 1 + 1 := by omega
  have n3 : g ≠ Q := by omega
  have n4 : Q ≠ w.heap.size := by omega
  have n5 : Q ≠ w.heap.size + 1 + 1 := by omega
  have HFin : Hid (∀ W, W = (((((((((((w3.setCell ⟨w.heap.size, 0, none⟩ (.slice (some ⟨g, 0, none⟩) A.length cap)).setCell ⟨w.heap.size, 1, none⟩ (.slice ad2 M.length cap2)).setCell ⟨g, p * 7, none⟩ (.string y.s)).setCell ⟨g, p * 7 + 1, none⟩ (.int .i64 y.a)).setCell ⟨g, p * 7 + 2, none⟩ (.int .i64 y.b)).setCell ⟨g, p * 7 + 3, none⟩ (.int .i64 y.c)).setCell ⟨g, p * 7 + 4, none⟩ (.int .i64 y.x)).setCell ⟨g, p * 7 + 5, none⟩ (.int .i64 y.y)).setCell ⟨g, p * 7 + 6, none⟩ (.int .i64 y.z)).setCell ⟨w.heap.size + 1 + 1, 0, none⟩ (.slice (some ⟨g, 0, none⟩) A.length cap)).setCell ⟨w.heap.size + 1 + 1, 1, none⟩ (.slice ad2 M.length cap2)) →
      W.ownsRow w.heap.size 31 7 (.slice (some ⟨g, 0, none⟩) A.length cap) A.length ((A.set p y).flatMap accC) ∧ W.ownsRow w.heap.size 64 5 (.slice ad2 M.length cap2) M.length (M.flatMap mkC) ∧ Gr w W) := by
    intro W hW
    subst hW
    have m2 : ∀ i, i < wp.heap.size → (Value.slice ad2 M.length cap2).ownBlock ≠ some i := fun i hi h => by have := (HO2.out.lt i h).1; omega
    have mg : (Value.slice ad2 M.length cap2).ownBlock ≠ some g := own_apart HO1.out HO2.out (by decide) rfl
    have k1 := own_far (own_far (own_low HO1.out (by omega : w.heap.size ≤ wp.heap.size)) ⟨w.heap.size, 0, none⟩ (.slice (some ⟨g, 0, none⟩) A.length cap) (by simp [Value.ownBlock]; omega)) ⟨w.heap.size, 1, none⟩ (.slice ad2 M.length cap2) (by simp [Value.ownBlock]; omega)
    have k2 := own_far (own_far (own_low HO2.out (by omega : w.heap.size ≤ wp.heap.size)) ⟨w.heap.size, 0, none⟩ (.slice (some ⟨g, 0, none⟩) A.length cap) (m2 _ (by omega))) ⟨w.heap.size, 1, none⟩ (.slice ad2 M.length cap2) (m2 _ (by omega))
    refine ⟨own_far (own_far (own_put7 k1 p hp y) _ _ (by simp [Value.ownBlock]; omega)) _ _ (by simp [Value.ownBlock]; omega), ?_, ?_⟩
    · exact own_far (own_far (own_far (own_far (own_far (own_far (own_far (own_far (own_far k2 _ _ mg) _ _ mg) _ _ mg) _ _ mg) _ _ mg) _ _ mg) _ _ mg) _ _ (m2 _ (by omega))) _ _ (m2 _ (by omega))
    · exact ((((((((((HG3.out.set _ (by simp) _).set _ (by simp) _).set _ (by simp; omega) _).set _ (by simp; omega) _).set _ (by simp; omega) _).set _ (by simp; omega) _).set _ (by simp; omega) _).set _ (by simp; omega) _).set _ (by simp; omega) _).set _ (by simp; omega) _).set _ (by simp; omega) _
  clear ho1 ho2 hg3 HO1 HO2 HG3 HB3 HR3 HZ3 HBP HRP HZP HGP hm7 hfl
  go_wp2
  exact bodyPost_ret (v := .tuple #[.agg #[.slice (some ⟨g, 0, none⟩) A.length cap, .slice ad2 M.length cap2], .int .i64 0]) (by simp [results, Try.results82, go_sem, *]) rfl ⟨_, _, rfl, HFin.out _ rfl⟩
end Go.Proofs.Ytgidkmipecfjhaa
