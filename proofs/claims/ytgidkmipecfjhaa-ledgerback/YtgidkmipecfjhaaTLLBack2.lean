/- What the proof is made of, part 2. -/
import Derived.Test.YtgidkmipecfjhaaTLLBack1
import Derived.Test.YtgidkmipecfjhaaProg
import Derived.WalkKit
import Derived.WalkSpells
import Derived.WalkLawsBesides
import Derived.Laws.IdiomStrings
import Derived.Lib.UnsafeStr
import Derived.KernelRfl
import Derived.Deep.RegionWith
import Derived.Deep.DrawnRows
import Derived.Laws.OwnMore
import Derived.Maps.AppendAt
import Derived.Deep.RegionHeld3
import Derived.WalkSmall
namespace Go.Proofs.Ytgidkmipecfjhaa.Led
def mvX (C : Act.Ch) (x : Acc) (k : Int) (t : ByteArray) (n : Int) : Int := Act.mvE C x.s x.a x.b x.c x.x x.y x.z k t n
def mvA (C : Act.Ch) (x : Acc) (k n : Int) : Acc := ⟨x.s, C.h (Act.oF k) x.a x.b x.c n, C.i (Act.oF k) x.a x.b x.c n, C.o (Act.oF k) x.a x.b x.c n, Act.hK C k x.x x.y x.z n, Act.iK C k x.x x.y x.z n, Act.uK C k x.x x.y x.z n⟩
def shift (x : Acc) (h f i o g j u : Int) : Acc := ⟨x.s, x.a + h * f, x.b + i, x.c + o, x.x + h * g, x.y + j, x.z + u⟩
theorem ways {k : Int} {t : ByteArray} {n : Int} (h : Act.actB k t n = true) : 1 ≤ n ∧ n ≤ 1000000000000000 ∧
    ((k = 1 ∧ Act.dF k t n = -n ∧ Act.dK k t n = 0) ∨ (k = 2 ∧ Act.dF k t n = n ∧ Act.dK k t n = 0) ∨ (k = 3 ∧ Act.dF k t n = -n ∧ Act.dK k t n = n) ∨ (k = 4 ∧ Act.dF k t n = n ∧ Act.dK k t n = -n)) := by
  obtain ⟨⟨k1, k2⟩, _, n1, n2⟩ := (Act.act_iff k t n).1 h
  refine ⟨n1, n2, ?_⟩
  unfold Act.dF Act.dK
  rw [if_pos h, if_pos h]
  have : k = 1 ∨ k = 2 ∨ k = 3 ∨ k = 4 := by omega
  rcases this with rfl | rfl | rfl | rfl
  · exact Or.inl ⟨rfl, by simp [Act.wF], by simp [Act.wK]⟩
  · exact Or.inr (Or.inl ⟨rfl, by simp [Act.wF], by simp [Act.wK]⟩)
  · exact Or.inr (Or.inr (Or.inl ⟨rfl, by simp [Act.wF], by simp [Act.wK]⟩))
  · exact Or.inr (Or.inr (Or.inr ⟨rfl, by simp [Act.wF], by simp [Act.wK]⟩))
theorem mv_do {x : Acc} {k : Int} {t : ByteArray} {n : Int} (h : mvX Act.chDo x k t n = 0) :
    t = x.s ∧ accOk x = true ∧ Act.actB k t n = true ∧ mvA Act.chDo x k n = shift x 1 (Act.dF k t n) (max (Act.dF k t n) 0) (max (-Act.dF k t n) 0) (Act.dK k t n) (max (Act.dK k t n) 0) (max (-Act.dK k t n) 0) ∧ accOk (mvA Act.chDo x k n) = true := by
  obtain ⟨e1, hacc, hact, h3, h4⟩ := Act.done_parts h
  obtain ⟨_, _, _, b', c', y', z', ⟨u1, u2, u3, u4, u5, u6⟩, hok, _⟩ := Act.undone h
  refine ⟨e1, hacc, hact, ?_, ?_⟩
  · have h3' : Pot.eDo (Act.oF k) x.a x.b x.c n = 0 := h3
    obtain ⟨n1, n2, hw⟩ := ways hact
    have p1 : Act.chDo.h (Act.oF k) x.a x.b x.c n = x.a + Pot.sg (Act.oF k) (-1) 1 * n := by show Pot.pick (Pot.eDo _ _ _ _ _) _ = _; rw [h3', Pot.pick0]
    have p2 : Act.chDo.i (Act.oF k) x.a x.b x.c n = x.b + Pot.sg (Act.oF k) 0 1 * n := by show Pot.pick (Pot.eDo _ _ _ _ _) _ = _; rw [h3', Pot.pick0]
    have p3 : Act.chDo.o (Act.oF k) x.a x.b x.c n = x.c + Pot.sg (Act.oF k) 1 0 * n := by show Pot.pick (Pot.eDo _ _ _ _ _) _ = _; rw [h3', Pot.pick0]
    unfold mvA shift
    rw [p1, p2, p3]
    rcases hw with ⟨rfl, w1, w2⟩ | ⟨rfl, w1, w2⟩ | ⟨rfl, w1, w2⟩ | ⟨rfl, w1, w2⟩
    · rw [w1, w2, show Act.hK Act.chDo 1 x.x x.y x.z n = x.x from rfl, show Act.iK Act.chDo 1 x.x x.y x.z n = x.y from rfl, show Act.uK Act.chDo 1 x.x x.y x.z n = x.z from rfl, show Act.oF 1 = true from rfl]
      simp only [Pot.sg, if_true, Acc.mk.injEq]
      refine ⟨trivial, ?_, ?_, ?_, ?_, ?_, ?_⟩ <;> first | trivial | omega
    · rw [w1, w2, show Act.hK Act.chDo 2 x.x x.y x.z n = x.x from rfl, show Act.iK Act.chDo 2 x.x x.y x.z n = x.y from rfl, show Act.uK Act.chDo 2 x.x x.y x.z n = x.z from rfl, show Act.oF 2 = false from rfl]
      simp only [Pot.sg, Bool.false_eq_true, if_false, Acc.mk.injEq]
      refine ⟨trivial, ?_, ?_, ?_, ?_, ?_, ?_⟩ <;> first | trivial | omega
    · have h4' : Pot.eDo false x.x x.y x.z n = 0 := h4
      rw [w1, w2, show Act.hK Act.chDo 3 x.x x.y x.z n = Pot.pick (Pot.eDo false x.x x.y x.z n) (x.x + Pot.sg false (-1) 1 * n) from rfl, show Act.iK Act.chDo 3 x.x x.y x.z n = Pot.pick (Pot.eDo false x.x x.y x.z n) (x.y + Pot.sg false 0 1 * n) from rfl, show Act.uK Act.chDo 3 x.x x.y x.z n = Pot.pick (Pot.eDo false x.x x.y x.z n) (x.z + Pot.sg false 1 0 * n) from rfl, show Act.oF 3 = true from rfl, h4', Pot.pick0, Pot.pick0, Pot.pick0]
      simp only [Pot.sg, if_true, Bool.false_eq_true, if_false, Acc.mk.injEq]
      refine ⟨trivial, ?_, ?_, ?_, ?_, ?_, ?_⟩ <;> first | trivial | omega
    · have h4' : Pot.eDo true x.x x.y x.z n = 0 := h4
      rw [w1, w2, show Act.hK Act.chDo 4 x.x x.y x.z n = Pot.pick (Pot.eDo true x.x x.y x.z n) (x.x + Pot.sg true (-1) 1 * n) from rfl, show Act.iK Act.chDo 4 x.x x.y x.z n = Pot.pick (Pot.eDo true x.x x.y x.z n) (x.y + Pot.sg true 0 1 * n) from rfl, show Act.uK Act.chDo 4 x.x x.y x.z n = Pot.pick (Pot.eDo true x.x x.y x.z n) (x.z + Pot.sg true 1 0 * n) from rfl, show Act.oF 4 = false from rfl, h4', Pot.pick0, Pot.pick0, Pot.pick0]
      simp only [Pot.sg, if_true, Bool.false_eq_true, if_false, Acc.mk.injEq]
      refine ⟨trivial, ?_, ?_, ?_, ?_, ?_, ?_⟩ <;> first | trivial | omega
  · unfold accOk mvA
    simp only
    rw [u1, u2, u3, u4, u5, u6]
    exact hok
theorem pot_un {out : Bool} {h i o a : Int} (hm : Pot.mayB h i o = true) (h1 : 1 ≤ a) (h2 : a ≤ 1000000000000000) (hp : a ≤ Pot.mostUn out i o) : Pot.eUn out h i o a = 0 := by
  unfold Pot.eUn
  refine Pot.err_ok ((Pot.arg_iff _ _ _ _).2 ⟨(Pot.may_iff _ _ _).1 hm, h1, h2⟩) (by omega)
theorem mv_end {x : Acc} {k : Int} {t : ByteArray} {n : Int} (hx : accOk x = true) (ha : Act.actB k t n = true) (ht : t = x.s)
    (hb : max (Act.dF k t n) 0 ≤ x.b) (hc : max (-Act.dF k t n) 0 ≤ x.c) (hy : max (Act.dK k t n) 0 ≤ x.y) (hz : max (-Act.dK k t n) 0 ≤ x.z) :
    (mvX Act.chUn x k t n = 0 ∧ mvA Act.chUn x k n = shift x (-1) (Act.dF k t n) (-max (Act.dF k t n) 0) (-max (-Act.dF k t n) 0) (Act.dK k t n) (-max (Act.dK k t n) 0) (-max (-Act.dK k t n) 0) ∧ accOk (mvA Act.chUn x k n) = true) ∧
    (mvX Act.chKe x k t n = 0 ∧ mvA Act.chKe x k n = shift x 0 (Act.dF k t n) (-max (Act.dF k t n) 0) (-max (-Act.dF k t n) 0) (Act.dK k t n) (-max (Act.dK k t n) 0) (-max (-Act.dK k t n) 0) ∧ accOk (mvA Act.chKe x k n) = true) := by
  obtain ⟨n1, n2, hw⟩ := ways ha
  obtain ⟨hn, hf, hk⟩ := (Act.acc_iff _ _ _ _ _ _ _).1 hx
  obtain ⟨f1, f2, f3, f4⟩ := (Pot.may_iff _ _ _).1 hf
  obtain ⟨k1, k2, k3, k4⟩ := (Pot.may_iff _ _ _).1 hk
  have fit : Act.fitE x.s x.a x.b x.c x.x x.y x.z k t n = 0 := by subst ht; exact Act.fit_yes hx ha
  have hE : Pot.eUn (Act.oF k) x.a x.b x.c n = 0 := by
    refine pot_un hf n1 n2 ?_
    rcases hw with ⟨rfl, w1, w2⟩ | ⟨rfl, w1, w2⟩ | ⟨rfl, w1, w2⟩ | ⟨rfl, w1, w2⟩ <;> rw [w1] at hb hc
    · show n ≤ x.c; omega
    · show n ≤ x.b; omega
    · show n ≤ x.c; omega
    · show n ≤ x.b; omega
  have q1 : ∀ C, (C = Act.chUn ∨ C = Act.chKe) → C.e (Act.oF k) x.a x.b x.c n = 0 := by
    rintro C (rfl | rfl) <;> exact hE
  have hU : ∀ C, (C = Act.chUn ∨ C = Act.chKe) → Act.eK C k x.x x.y x.z n = 0 := by
    intro C hC
    rcases hw with ⟨rfl, w1, w2⟩ | ⟨rfl, w1, w2⟩ | ⟨rfl, w1, w2⟩ | ⟨rfl, w1, w2⟩ <;> rw [w2] at hy hz
    · rfl
    · rfl
    · have : Pot.eUn false x.x x.y x.z n = 0 := pot_un hk n1 n2 (by show n ≤ x.y; omega)
      rcases hC with rfl | rfl <;> exact this
    · have : Pot.eUn true x.x x.y x.z n = 0 := pot_un hk n1 n2 (by show n ≤ x.z; omega)
      rcases hC with rfl | rfl <;> exact this
  have hX : ∀ C, (C = Act.chUn ∨ C = Act.chKe) → mvX C x k t n = 0 := by
    intro C hC
    unfold mvX Act.mvE
    rw [if_pos fit, if_pos (q1 C hC), hU C hC]
  have vals : mvA Act.chUn x k n = shift x (-1) (Act.dF k t n) (-max (Act.dF k t n) 0) (-max (-Act.dF k t n) 0) (Act.dK k t n) (-max (Act.dK k t n) 0) (-max (-Act.dK k t n) 0) ∧ mvA Act.chKe x k n = shift x 0 (Act.dF k t n) (-max (Act.dF k t n) 0) (-max (-Act.dF k t n) 0) (Act.dK k t n) (-max (Act.dK k t n) 0) (-max (-Act.dK k t n) 0) := by
    have p1 : Act.chUn.h (Act.oF k) x.a x.b x.c n = x.a + Pot.sg (Act.oF k) 1 (-1) * n := by show Pot.pick (Pot.eUn _ _ _ _ _) _ = _; rw [hE, Pot.pick0]
    have p2 : Act.chUn.i (Act.oF k) x.a x.b x.c n = x.b + Pot.sg (Act.oF k) 0 (-1) * n := by show Pot.pick (Pot.eUn _ _ _ _ _) _ = _; rw [hE, Pot.pick0]
    have p3 : Act.chUn.o (Act.oF k) x.a x.b x.c n = x.c + Pot.sg (Act.oF k) (-1) 0 * n := by show Pot.pick (Pot.eUn _ _ _ _ _) _ = _; rw [hE, Pot.pick0]
    have r1 : Act.chKe.h (Act.oF k) x.a x.b x.c n = x.a + Pot.sg (Act.oF k) 0 0 * n := by show Pot.pick (Pot.eUn _ _ _ _ _) _ = _; rw [hE, Pot.pick0]
    have r2 : Act.chKe.i (Act.oF k) x.a x.b x.c n = x.b + Pot.sg (Act.oF k) 0 (-1) * n := by show Pot.pick (Pot.eUn _ _ _ _ _) _ = _; rw [hE, Pot.pick0]
    have r3 : Act.chKe.o (Act.oF k) x.a x.b x.c n = x.c + Pot.sg (Act.oF k) (-1) 0 * n := by show Pot.pick (Pot.eUn _ _ _ _ _) _ = _; rw [hE, Pot.pick0]
    have hu := hU Act.chUn (Or.inl rfl)
    unfold mvA shift
    rw [p1, p2, p3, r1, r2, r3]
    rcases hw with ⟨rfl, w1, w2⟩ | ⟨rfl, w1, w2⟩ | ⟨rfl, w1, w2⟩ | ⟨rfl, w1, w2⟩
    · rw [w1, w2, show Act.oF 1 = true from rfl]
      refine ⟨?_, ?_⟩
      · rw [show Act.hK Act.chUn 1 x.x x.y x.z n = x.x from rfl, show Act.iK Act.chUn 1 x.x x.y x.z n = x.y from rfl, show Act.uK Act.chUn 1 x.x x.y x.z n = x.z from rfl]
        simp only [Pot.sg, if_true, Acc.mk.injEq]
        refine ⟨trivial, ?_, ?_, ?_, ?_, ?_, ?_⟩ <;> first | trivial | omega
      · rw [show Act.hK Act.chKe 1 x.x x.y x.z n = x.x from rfl, show Act.iK Act.chKe 1 x.x x.y x.z n = x.y from rfl, show Act.uK Act.chKe 1 x.x x.y x.z n = x.z from rfl]
        simp only [Pot.sg, if_true, Acc.mk.injEq]
        refine ⟨trivial, ?_, ?_, ?_, ?_, ?_, ?_⟩ <;> first | trivial | omega
    · rw [w1, w2, show Act.oF 2 = false from rfl]
      refine ⟨?_, ?_⟩
      · rw [show Act.hK Act.chUn 2 x.x x.y x.z n = x.x from rfl, show Act.iK Act.chUn 2 x.x x.y x.z n = x.y from rfl, show Act.uK Act.chUn 2 x.x x.y x.z n = x.z from rfl]
        simp only [Pot.sg, Bool.false_eq_true, if_false, Acc.mk.injEq]
        refine ⟨trivial, ?_, ?_, ?_, ?_, ?_, ?_⟩ <;> first | trivial | omega
      · rw [show Act.hK Act.chKe 2 x.x x.y x.z n = x.x from rfl, show Act.iK Act.chKe 2 x.x x.y x.z n = x.y from rfl, show Act.uK Act.chKe 2 x.x x.y x.z n = x.z from rfl]
        simp only [Pot.sg, Bool.false_eq_true, if_false, Acc.mk.injEq]
        refine ⟨trivial, ?_, ?_, ?_, ?_, ?_, ?_⟩ <;> first | trivial | omega
    · have h4 : Pot.eUn false x.x x.y x.z n = 0 := hu
      rw [w1, w2, show Act.oF 3 = true from rfl]
      refine ⟨?_, ?_⟩
      · rw [show Act.hK Act.chUn 3 x.x x.y x.z n = Pot.pick (Pot.eUn false x.x x.y x.z n) (x.x + Pot.sg false 1 (-1) * n) from rfl, show Act.iK Act.chUn 3 x.x x.y x.z n = Pot.pick (Pot.eUn false x.x x.y x.z n) (x.y + Pot.sg false 0 (-1) * n) from rfl, show Act.uK Act.chUn 3 x.x x.y x.z n = Pot.pick (Pot.eUn false x.x x.y x.z n) (x.z + Pot.sg false (-1) 0 * n) from rfl, h4, Pot.pick0, Pot.pick0, Pot.pick0]
        simp only [Pot.sg, if_true, Bool.false_eq_true, if_false, Acc.mk.injEq]
        refine ⟨trivial, ?_, ?_, ?_, ?_, ?_, ?_⟩ <;> first | trivial | omega
      · rw [show Act.hK Act.chKe 3 x.x x.y x.z n = Pot.pick (Pot.eUn false x.x x.y x.z n) (x.x + Pot.sg false 0 0 * n) from rfl, show Act.iK Act.chKe 3 x.x x.y x.z n = Pot.pick (Pot.eUn false x.x x.y x.z n) (x.y + Pot.sg false 0 (-1) * n) from rfl, show Act.uK Act.chKe 3 x.x x.y x.z n = Pot.pick (Pot.eUn false x.x x.y x.z n) (x.z + Pot.sg false (-1) 0 * n) from rfl, h4, Pot.pick0, Pot.pick0, Pot.pick0]
        simp only [Pot.sg, if_true, Bool.false_eq_true, if_false, Acc.mk.injEq]
        refine ⟨trivial, ?_, ?_, ?_, ?_, ?_, ?_⟩ <;> first | trivial | omega
    · have h4 : Pot.eUn true x.x x.y x.z n = 0 := hu
      rw [w1, w2, show Act.oF 4 = false from rfl]
      refine ⟨?_, ?_⟩
      · rw [show Act.hK Act.chUn 4 x.x x.y x.z n = Pot.pick (Pot.eUn true x.x x.y x.z n) (x.x + Pot.sg true 1 (-1) * n) from rfl, show Act.iK Act.chUn 4 x.x x.y x.z n = Pot.pick (Pot.eUn true x.x x.y x.z n) (x.y + Pot.sg true 0 (-1) * n) from rfl, show Act.uK Act.chUn 4 x.x x.y x.z n = Pot.pick (Pot.eUn true x.x x.y x.z n) (x.z + Pot.sg true (-1) 0 * n) from rfl, h4, Pot.pick0, Pot.pick0, Pot.pick0]
        simp only [Pot.sg, if_true, Bool.false_eq_true, if_false, Acc.mk.injEq]
        refine ⟨trivial, ?_, ?_, ?_, ?_, ?_, ?_⟩ <;> first | trivial | omega
      · rw [show Act.hK Act.chKe 4 x.x x.y x.z n = Pot.pick (Pot.eUn true x.x x.y x.z n) (x.x + Pot.sg true 0 0 * n) from rfl, show Act.iK Act.chKe 4 x.x x.y x.z n = Pot.pick (Pot.eUn true x.x x.y x.z n) (x.y + Pot.sg true 0 (-1) * n) from rfl, show Act.uK Act.chKe 4 x.x x.y x.z n = Pot.pick (Pot.eUn true x.x x.y x.z n) (x.z + Pot.sg true (-1) 0 * n) from rfl, h4, Pot.pick0, Pot.pick0, Pot.pick0]
        simp only [Pot.sg, if_true, Bool.false_eq_true, if_false, Acc.mk.injEq]
        refine ⟨trivial, ?_, ?_, ?_, ?_, ?_, ?_⟩ <;> first | trivial | omega
  refine ⟨⟨hX _ (Or.inl rfl), vals.1, ?_⟩, hX _ (Or.inr rfl), vals.2, ?_⟩
  · rw [vals.1]
    refine (Act.acc_iff _ _ _ _ _ _ _).2 ⟨hn, (Pot.may_iff _ _ _).2 ?_, (Pot.may_iff _ _ _).2 ?_⟩
    · unfold shift
      rcases hw with ⟨rfl, w1, w2⟩ | ⟨rfl, w1, w2⟩ | ⟨rfl, w1, w2⟩ | ⟨rfl, w1, w2⟩ <;> rw [w1] at hb hc ⊢ <;> simp only <;> omega
    · unfold shift
      rcases hw with ⟨rfl, w1, w2⟩ | ⟨rfl, w1, w2⟩ | ⟨rfl, w1, w2⟩ | ⟨rfl, w1, w2⟩ <;> rw [w2] at hy hz ⊢ <;> simp only <;> omega
  · rw [vals.2]
    refine (Act.acc_iff _ _ _ _ _ _ _).2 ⟨hn, (Pot.may_iff _ _ _).2 ?_, (Pot.may_iff _ _ _).2 ?_⟩
    · unfold shift
      rcases hw with ⟨rfl, w1, w2⟩ | ⟨rfl, w1, w2⟩ | ⟨rfl, w1, w2⟩ | ⟨rfl, w1, w2⟩ <;> rw [w1] at hb hc ⊢ <;> simp only <;> omega
    · unfold shift
      rcases hw with ⟨rfl, w1, w2⟩ | ⟨rfl, w1, w2⟩ | ⟨rfl, w1, w2⟩ | ⟨rfl, w1, w2⟩ <;> rw [w2] at hy hz ⊢ <;> simp only <;> omega
end Go.Proofs.Ytgidkmipecfjhaa.Led
namespace Pk
def sgn (m : Int) : Nat := if 0 ≤ m then 2 * m.toNat else 2 * (-(m + 1)).toNat + 1
def takeF : Nat → Nat → Nat → List UInt8 → Nat × Nat × Nat
  | 0, _, _, _ => (0, 0, 11)
  | _ + 1, _, _, [] => (0, 0, 10)
  | f + 1, i, a, b :: r =>
    if 128 ≤ b.toNat then takeF f (i + 1) (a + b.toNat % 128 * 128 ^ i) r
    else if (i = 9 ∧ 1 < b.toNat) ∨ (i ≠ 0 ∧ b.toNat = 0) then (0, 0, 11)
    else (a + b.toNat * 128 ^ i, i + 1, 0)
def take (l : List UInt8) : Nat × Nat × Nat := takeF 10 0 0 l
end Pk
namespace Go.Proofs.Ytgidkmipecfjhaa
open Go.RowKit
structure Gr (w w' : World) : Prop where
  below : Below w.heap.size w w'
theorem Gr.refl (w : World) : Gr w w := ⟨Below.refl _ _⟩
theorem Gr.trans {a b c : World} (h : Gr a b) (k : Gr b c) : Gr a c := ⟨h.below.trans (k.below.mono h.below.size)⟩
theorem Gr.alloc {a b : World} (h : Gr a b) {o : Obj} : Gr a (b.alloc o) := ⟨h.below.alloc h.below.size _⟩
theorem Gr.drew {a b : World} (h : Gr a b) : Gr a b.drew := ⟨h.below.drew⟩
theorem Gr.size {a b : World} (h : Gr a b) : a.heap.size ≤ b.heap.size := h.below.size
theorem Gr.cells {W w1 : World} (h : Gr W w1) : (∀ b o, b < W.heap.size → w1.cell? ⟨b, o, none⟩ = W.cell? ⟨b, o, none⟩) ∧ (∀ b o, b < W.heap.size → w1.frozen? ⟨b, o, none⟩ = W.frozen? ⟨b, o, none⟩) :=
  ⟨fun b o hb => h.below.cell (p := ⟨b, o, none⟩) hb, fun b o hb => h.below.frozen (p := ⟨b, o, none⟩) hb⟩
theorem Gr.of {w w' : World} (h : Below w.heap.size w w') : Gr w w' := ⟨h⟩
theorem w8 (n : Int) (h0 : 0 ≤ n) (h1 : n < 256) : IntKind.u8.wrap n = n := by rw [IntKind.wrap_u8]; omega
end Go.Proofs.Ytgidkmipecfjhaa
namespace Go.Proofs.Ytgidkmipecfjhaa
open Go.RowKit
theorem Gr.grownBy {w w' : World} (h : Gr w w') : w.grownBy w' none := ⟨h.below.os, h.below.tape, h.below.output, h.below.size, fun k hk _ => h.below.block k hk⟩
theorem Gr.keep {W w1 : World} (g : Gr W w1) {p : Addr} {v : Value} (h : W.cell? p = some v) : w1.cell? p = some v :=
  (g.below.cell (World.block_lt_of_cell? W p h)).trans h
def IntsAt (w : World) (ad : Option Addr) (l : List Int) : Prop :=
  ∀ j (h : j < l.length), ∃ b off, ad = some ⟨b, off, none⟩ ∧ b < w.heap.size ∧ w.cell? ⟨b, off + j, none⟩ = some (.int .i64 l[j])
theorem IntsAt.gr {w w' : World} {ad : Option Addr} {l : List Int} (h : IntsAt w ad l) (g : Gr w w') : IntsAt w' ad l := by
  intro j hj
  obtain ⟨b, off, e, hb, hc⟩ := h j hj
  exact ⟨b, off, e, Nat.lt_of_lt_of_le hb g.size, g.keep hc⟩
theorem IntsAt.take {w : World} {ad : Option Addr} {l : List Int} (h : IntsAt w ad l) (k : Nat) : IntsAt w ad (l.take k) := by
  intro j hj
  have hj' : j < l.length := by rw [List.length_take] at hj; omega
  obtain ⟨b, off, e, hb, hc⟩ := h j hj'
  exact ⟨b, off, e, hb, by rw [List.getElem_take]; exact hc⟩
theorem IntsAt.drop {w : World} {b off : Nat} {l : List Int} (h : IntsAt w (some ⟨b, off, none⟩) l) (k : Nat) : IntsAt w (some ⟨b, off + k, none⟩) (l.drop k) := by
  intro j hj
  rw [List.length_drop] at hj
  obtain ⟨b', off', e, hb, hc⟩ := h (k + j) (by omega)
  cases e
  exact ⟨b, off + k, rfl, hb, by rw [List.getElem_drop, Nat.add_assoc]; exact hc⟩
theorem IntsAt.nil {w : World} {ad : Option Addr} : IntsAt w ad [] := fun j h => absurd h (by simp)
def intV (l : List Int) : List Value := l.map fun n => Value.int .i64 n
theorem own_or (v : Value) : v.ownBlock = none ∨ v.ownBlock ≠ none := by
  cases v.ownBlock with
  | none => exact Or.inl rfl
  | some q => exact Or.inr (by simp)
theorem own_ints {base : Nat} {v : Value} {l : List Int} {w : World} (h : w.ownsRow base 2 1 v l.length (intV l)) : ∃ ad cap, v = .slice ad l.length cap ∧ l.length ≤ cap ∧ IntsAt w ad l := by
  have hcell := fun g (hg : v.ownBlock = some g) => h.cells hg
  have hlt := h.lt
  obtain ⟨_, ⟨rfl, h0⟩ | ⟨g, cap, cur, rfl, hx⟩⟩ := h
  · have : l = [] := List.length_eq_zero_iff.1 h0
    subst this
    exact ⟨none, 0, rfl, by simp, fun j hj => absurd hj (by simp)⟩
  · refine ⟨some ⟨g, 0, none⟩, cap, rfl, hx.2.2.1, ?_⟩
    intro j hj
    refine ⟨g, 0, rfl, (hlt g rfl).2, ?_⟩
    have := hcell g rfl j (.int .i64 l[j]) (by simp [intV, hj])
    rw [Addr.add_lit] at this
    simpa using this
end Go.Proofs.Ytgidkmipecfjhaa
namespace Go.Proofs.Ytgidkmipecfjhaa
open Go.RowKit
theorem Gr.set {a b : World} (h : Gr a b) (p : Addr) (hp : a.heap.size ≤ p.block) (v : Value) : Gr a (b.setCell p v) := ⟨h.below.setCell hp v⟩
theorem Gr.keepF {W w1 : World} (g : Gr W w1) {p : Addr} (hb : p.block < W.heap.size) (h : W.frozen? p = false) : w1.frozen? p = false := (g.below.frozen hb).trans h
structure BoxAt (w : World) (g : Nat) (a b c : Value) : Prop where
  c0 : w.cell? ⟨g, 0, none⟩ = some a
  c1 : w.cell? ⟨g, 1, none⟩ = some b
  c2 : w.cell? ⟨g, 2, none⟩ = some c
  f0 : w.frozen? ⟨g, 0, none⟩ = false
  f1 : w.frozen? ⟨g, 1, none⟩ = false
  f2 : w.frozen? ⟨g, 2, none⟩ = false
  lt : g < w.heap.size
theorem BoxAt.gr {w w' : World} {g : Nat} {a b c : Value} (h : BoxAt w g a b c) (k : Gr w w') : BoxAt w' g a b c :=
  ⟨k.keep h.c0, k.keep h.c1, k.keep h.c2, k.keepF h.lt h.f0, k.keepF h.lt h.f1, k.keepF h.lt h.f2, Nat.lt_of_lt_of_le h.lt k.size⟩
theorem BoxAt.new (w : World) (a b c : Value) (t : TypeId) (g : Nat) (hg : g = w.heap.size) : BoxAt (w.alloc (.cells #[a, b, c] t)) g a b c := by
  subst hg
  exact ⟨by simp, by simp, by simp, by simp [go_sem], by simp [go_sem], by simp [go_sem], by simp⟩
theorem BoxAt.set3 {w : World} {g : Nat} {a b c : Value} (h : BoxAt w g a b c) (x y z : Value) :
    BoxAt (((w.setCell ⟨g, 0, none⟩ x).setCell ⟨g, 1, none⟩ y).setCell ⟨g, 2, none⟩ z) g x y z := by
  obtain ⟨h0, h1, h2, f0, f1, f2, hl⟩ := h
  exact ⟨by simp [go_sem, *], by simp [go_sem, *], by simp [go_sem, *], by simp [go_sem, *], by simp [go_sem, *], by simp [go_sem, *], by simpa using hl⟩
def RoomAt (w : World) (g : Nat) : Prop := ∃ a b c, BoxAt w g a b c
theorem RoomAt.gr {w w' : World} {g : Nat} (h : RoomAt w g) (k : Gr w w') : RoomAt w' g := by
  obtain ⟨a, b, c, h⟩ := h
  exact ⟨a, b, c, h.gr k⟩
theorem RoomAt.drew {w : World} {g : Nat} (h : RoomAt w g) : RoomAt w.drew g := h.gr (Gr.refl _).drew
theorem RoomAt.new (w : World) (a b c : Value) (t : TypeId) (g : Nat) (hg : g = w.heap.size) : RoomAt (w.alloc (.cells #[a, b, c] t)) g := ⟨a, b, c, BoxAt.new w a b c t g hg⟩
theorem RoomAt.set3 {w : World} {g : Nat} (h : RoomAt w g) (x y z : Value) : RoomAt (((w.setCell ⟨g, 0, none⟩ x).setCell ⟨g, 1, none⟩ y).setCell ⟨g, 2, none⟩ z) g := by
  obtain ⟨a, b, c, h⟩ := h
  exact ⟨x, y, z, h.set3 x y z⟩
end Go.Proofs.Ytgidkmipecfjhaa
namespace Go.Proofs.Ytgidkmipecfjhaa
open Go.RowKit
open Led (Acc Mk)
def RowAt {α : Type} (f : α → List Value) (w : World) (ad : Option Addr) (L : List α) : Prop :=
  ∀ j u, (L.flatMap f)[j]? = some u → ∃ b off, ad = some ⟨b, off, none⟩ ∧ b < w.heap.size ∧ w.cell? ⟨b, off + j, none⟩ = some u
theorem flat_len {α : Type} {f : α → List Value} {c : Nat} (hc : ∀ x, (f x).length = c) (L : List α) : (L.flatMap f).length = L.length * c := by
  induction L with
  | nil => simp
  | cons x t ih => rw [List.flatMap_cons, List.length_append, ih, hc, List.length_cons, Nat.add_mul]; omega
theorem flat_get {α : Type} {f : α → List Value} {c : Nat} (hc : ∀ x, (f x).length = c) (L : List α) : ∀ j (h : j < L.length) i, i < c → (L.flatMap f)[j * c + i]? = (f L[j])[i]? := by
  induction L with
  | nil => intro j h; simp at h
  | cons x t ih =>
    intro j h i hi
    rw [List.flatMap_cons]
    cases j with
    | zero => rw [Nat.zero_mul, Nat.zero_add, List.getElem?_append_left (by rw [hc]; exact hi)]; rfl
    | succ j =>
      rw [Nat.add_mul, Nat.one_mul, List.getElem?_append_right (by rw [hc]; omega), hc, show j * c + c + i - c = j * c + i by omega, ih j (by simpa using h) i hi]; rfl
theorem RowAt.gr {α : Type} {f : α → List Value} {w w' : World} {ad : Option Addr} {L : List α} (h : RowAt f w ad L) (g : Gr w w') : RowAt f w' ad L := by
  intro j u hu
  obtain ⟨b, off, e, hb, h1⟩ := h j u hu
  exact ⟨b, off, e, Nat.lt_of_lt_of_le hb g.size, g.keep h1⟩
theorem RowAt.alloc {α : Type} {f : α → List Value} {w : World} {ad : Option Addr} {L : List α} (h : RowAt f w ad L) {o : Obj} : RowAt f (w.alloc o) ad L := h.gr (Gr.refl _).alloc
theorem RowAt.drew {α : Type} {f : α → List Value} {w : World} {ad : Option Addr} {L : List α} (h : RowAt f w ad L) : RowAt f w.drew ad L := h.gr (Gr.refl _).drew
theorem RowAt.nil {α : Type} {f : α → List Value} {w : World} {ad : Option Addr} : RowAt f w ad [] := fun j u h => by simp at h
theorem RowAt.setFar {α : Type} {f : α → List Value} {w : World} {ad : Option Addr} {L : List α} (h : RowAt f w ad L) (p : Addr) (v : Value) (hp : ∀ a, ad = some a → p.block ≠ a.block) : RowAt f (w.setCell p v) ad L := by
  intro j u hu
  obtain ⟨b, off, e, hb, h1⟩ := h j u hu
  exact ⟨b, off, e, by simpa using hb, by rw [World.cell?_setCell_far _ _ _ _ (by simpa using hp _ e)]; exact h1⟩
theorem RowAt.news {α : Type} {f : α → List Value} {w : World} {a : Addr} {L : List α} (h : RowAt f w (some a) L) : ∀ j u, (L.flatMap f)[j]? = some u → w.cell? (a.add j) = some u := by
  intro j u hu
  obtain ⟨b, off, e, _, h1⟩ := h j u hu
  cases e
  rw [Addr.add_lit]; exact h1
theorem RowAt.none {α : Type} {f : α → List Value} {c : Nat} (hc : ∀ x, (f x).length = c) (h0 : 0 < c) {w : World} {L : List α} (h : RowAt f w none L) : L = [] := by
  cases L with
  | nil => rfl
  | cons x t =>
    have hl := flat_len hc (x :: t)
    have : 0 < ((x :: t).flatMap f).length := by rw [hl, List.length_cons]; exact Nat.mul_pos (by omega) h0
    obtain ⟨b, off, e, _⟩ := h 0 _ (List.getElem?_eq_getElem this)
    cases e
theorem own_row {α : Type} {f : α → List Value} {c : Nat} {base : Nat} {t : TypeId} {v : Value} {L : List α} {w : World} (h : w.ownsRow base t c v L.length (L.flatMap f)) :
    ∃ ad cap, v = .slice ad L.length cap ∧ L.length ≤ cap ∧ cap ≤ 9223372036854775807 ∧ RowAt f w ad L ∧ (∀ a, ad = some a → base ≤ a.block) ∧ (ad = none → cap = 0) := by
  have hcell := fun g (hg : v.ownBlock = some g) => h.cells hg
  have hlt := h.lt
  obtain ⟨_, ⟨rfl, h0⟩ | ⟨g, cap, cur, rfl, hx⟩⟩ := h
  · have : L = [] := List.length_eq_zero_iff.1 h0
    subst this
    exact ⟨none, 0, rfl, by simp, by omega, RowAt.nil, (fun a e => by cases e), fun _ => rfl⟩
  · have hm : cap ≤ 9223372036854775807 := by have := hx.2.2.2.1; unfold maxLen at this; omega
    refine ⟨some ⟨g, 0, none⟩, cap, rfl, hx.2.2.1, hm, ?_, (fun a e => by cases e; exact (hlt g rfl).1), fun e => by cases e⟩
    intro j u hu
    have c1 := hcell g rfl _ _ hu
    rw [Addr.add_lit] at c1
    exact ⟨g, 0, rfl, (hlt g rfl).2, c1⟩
def accC (x : Acc) : List Value := [.string x.s, .int .i64 x.a, .int .i64 x.b, .int .i64 x.c, .int .i64 x.x, .int .i64 x.y, .int .i64 x.z]
def mkC (m : Mk) : List Value := [.string m.key, .int .i64 m.k, .string m.t, .int .i64 m.n, .int .i64 m.st]
theorem accC_len (x : Acc) : (accC x).length = 7 := rfl
theorem mkC_len (m : Mk) : (mkC m).length = 5 := rfl
abbrev AccsAt := RowAt accC
abbrev MksAt := RowAt mkC
theorem acc_one (L : List Acc) : ∀ u ∈ L.flatMap accC, u.oneCell' = true := by
  intro u hu
  rw [List.mem_flatMap] at hu
  obtain ⟨h, _, hu⟩ := hu
  simp [accC] at hu
  rcases hu with rfl | rfl | rfl | rfl | rfl | rfl | rfl <;> rfl
theorem mk_one (L : List Mk) : ∀ u ∈ L.flatMap mkC, u.oneCell' = true := by
  intro u hu
  rw [List.mem_flatMap] at hu
  obtain ⟨h, _, hu⟩ := hu
  simp [mkC] at hu
  rcases hu with rfl | rfl | rfl | rfl | rfl <;> rfl
theorem AccsAt.at {w : World} {ad : Option Addr} {A : List Acc} (h : AccsAt w ad A) (k : Nat) (hk : k < A.length) : ∃ b off, ad = some ⟨b, off, none⟩ ∧ b < w.heap.size ∧
    w.cell? ⟨b, off + k * 7, none⟩ = some (.string A[k].s) ∧ w.cell? ⟨b, off + k * 7 + 1, none⟩ = some (.int .i64 A[k].a) ∧ w.cell? ⟨b, off + k * 7 + 2, none⟩ = some (.int .i64 A[k].b) ∧ w.cell? ⟨b, off + k * 7 + 3, none⟩ = some (.int .i64 A[k].c) ∧
    w.cell? ⟨b, off + k * 7 + 4, none⟩ = some (.int .i64 A[k].x) ∧ w.cell? ⟨b, off + k * 7 + 5, none⟩ = some (.int .i64 A[k].y) ∧ w.cell? ⟨b, off + k * 7 + 6, none⟩ = some (.int .i64 A[k].z) := by
  have g := fun i hi => flat_get accC_len A k hk i hi
  obtain ⟨b, off, rfl, hb, c0⟩ := h _ _ (g 0 (by omega))
  obtain ⟨_, _, e, _, c1⟩ := h _ _ (g 1 (by omega)); cases e
  obtain ⟨_, _, e, _, c2⟩ := h _ _ (g 2 (by omega)); cases e
  obtain ⟨_, _, e, _, c3⟩ := h _ _ (g 3 (by omega)); cases e
  obtain ⟨_, _, e, _, c4⟩ := h _ _ (g 4 (by omega)); cases e
  obtain ⟨_, _, e, _, c5⟩ := h _ _ (g 5 (by omega)); cases e
  obtain ⟨_, _, e, _, c6⟩ := h _ _ (g 6 (by omega)); cases e
  rw [← Nat.add_assoc] at c1 c2 c3 c4 c5 c6
  exact ⟨b, off, rfl, hb, c0, c1, c2, c3, c4, c5, c6⟩
theorem MksAt.at {w : World} {ad : Option Addr} {M : List Mk} (h : MksAt w ad M) (k : Nat) (hk : k < M.length) : ∃ b off, ad = some ⟨b, off, none⟩ ∧ b < w.heap.size ∧
    w.cell? ⟨b, off + k * 5, none⟩ = some (.string M[k].key) ∧ w.cell? ⟨b, off + k * 5 + 1, none⟩ = some (.int .i64 M[k].k) ∧ w.cell? ⟨b, off + k * 5 + 2, none⟩ = some (.string M[k].t) ∧ w.cell? ⟨b, off + k * 5 + 3, none⟩ = some (.int .i64 M[k].n) ∧
    w.cell? ⟨b, off + k * 5 + 4, none⟩ = some (.int .i64 M[k].st) := by
  have g := fun i hi => flat_get mkC_len M k hk i hi
  obtain ⟨b, off, rfl, hb, c0⟩ := h _ _ (g 0 (by omega))
  obtain ⟨_, _, e, _, c1⟩ := h _ _ (g 1 (by omega)); cases e
  obtain ⟨_, _, e, _, c2⟩ := h _ _ (g 2 (by omega)); cases e
  obtain ⟨_, _, e, _, c3⟩ := h _ _ (g 3 (by omega)); cases e
  obtain ⟨_, _, e, _, c4⟩ := h _ _ (g 4 (by omega)); cases e
  rw [← Nat.add_assoc] at c1 c2 c3 c4
  exact ⟨b, off, rfl, hb, c0, c1, c2, c3, c4⟩
theorem infoAcc : (Try.prog.info? 31).map (fun i => (i.zero, i.size, i.bytes)) = some (some (.agg #[.string ⟨#[]⟩, .int .i64 0, .int .i64 0, .int .i64 0, .int .i64 0, .int .i64 0, .int .i64 0]), 7, 64) := by kernel_rfl
theorem infoMk : (Try.prog.info? 64).map (fun i => (i.zero, i.size, i.bytes)) = some (some (.agg #[.string ⟨#[]⟩, .int .i64 0, .string ⟨#[]⟩, .int .i64 0, .int .i64 0]), 5, 56) := by kernel_rfl
def inI (n : Int) : Prop := -9223372036854775808 ≤ n ∧ n ≤ 9223372036854775807
def inA (x : Acc) : Prop := x.s.size ≤ 9223372036854775807 ∧ (inI x.a ∧ inI x.b ∧ inI x.c) ∧ inI x.x ∧ inI x.y ∧ inI x.z
def inM (m : Mk) : Prop := m.key.size ≤ 9223372036854775807 ∧ inI m.k ∧ m.t.size ≤ 9223372036854775807 ∧ inI m.n ∧ inI m.st
end Go.Proofs.Ytgidkmipecfjhaa
