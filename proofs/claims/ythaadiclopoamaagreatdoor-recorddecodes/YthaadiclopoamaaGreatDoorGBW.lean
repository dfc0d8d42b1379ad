/- Parts of these proofs, laid together. -/
import Derived.Test.YthaadiclopoamaaGreatDoorGQ
import Derived.Test.YthaadiclopoamaaGreatDoorGBV
import Derived.Test.YthaadiclopoamaaGreatDoorGU
/- the document's record: SameMove, Same. -/
set_option maxRecDepth 100000
set_option maxHeartbeats 8000000
namespace Go.Proofs.YthaadiclopoamaaGreatDoor
open Go.RowKit
open Df (Stp)

def eqM (x y : Mv) : Bool := decide (x.k = y.k) && sameB x.r x.n x.L y.r y.n y.L && decide (x.s = y.s) && decide (x.y = y.y) && eqD x.d x.S y.d y.S
def eqR (x y : Rc) : Bool := decide (x.k = y.k) && eqM x.m y.m && decide (x.a = y.a) && decide (x.v = y.v) && eqD x.d x.S y.d y.S && decide (x.t = y.t)
theorem eqD_iff (n1 : ByteArray) (L : List Stp) (n2 : ByteArray) (K : List Stp) : eqD n1 L n2 K = true ↔ n1 = n2 /\ L = K := by
 unfold eqD
 rw [Bool.and_eq_true, decide_eq_true_eq, eqL_iff]
theorem eqM_iff (x y : Mv) : eqM x y = true ↔ x = y := by
 unfold eqM sameB
 simp only [Bool.and_eq_true, decide_eq_true_eq, eqD_iff]
 obtain ⟨k1, r1, n1, L1, s1, y1, d1, S1⟩ := x
 obtain ⟨k2, r2, n2, L2, s2, y2, d2, S2⟩ := y
 simp only [Mv.mk.injEq]
 constructor
 ·rintro h; simp_all
 ·rintro h; simp_all
theorem eqR_iff (x y : Rc) : eqR x y = true ↔ x = y := by
 unfold eqR
 simp only [Bool.and_eq_true, decide_eq_true_eq, eqD_iff, eqM_iff]
 obtain ⟨k1, m1, a1, v1, d1, S1, t1⟩ := x
 obtain ⟨k2, m2, a2, v2, d2, S2, t2⟩ := y
 simp only [Rc.mk.injEq]
 constructor
 ·rintro ⟨⟨⟨⟨⟨h1, h2⟩, h3⟩, h4⟩, h5, h6⟩, h7⟩; exact ⟨h1, h2, h3, h4, h5, h6, h7⟩
 ·rintro ⟨h1, h2, h3, h4, h5, h6, h7⟩; exact ⟨⟨⟨⟨⟨h1, h2⟩, h3⟩, h4⟩, h5, h6⟩, h7⟩
theorem beq_dec (x y : Int) : (x == y) = decide (x = y) := by by_cases e : x = y <;> simp [e]
theorem teq_dec (x y : ByteArray) : (x.toList == y.toList) = decide (x = y) := by
 by_cases e : x = y
 ·subst e; simp
 ·rw [decide_eq_false e, beq_eq_false_iff_ne]
  exact fun q => e ((toL_eq x y).1 q)

theorem sameMove_any (k1 r1 n1 : Int) (L1 : List (Int × Int)) (s1 y1 : Int) (d1 : ByteArray) (S1 : List Stp) (k2 r2 n2 : Int) (L2 : List (Int × Int)) (s2 y2 : Int) (d2 : ByteArray) (S2 : List Stp) (p1 : Option Addr) (f1 : Nat) (q1 : Option Addr) (g1 : Nat) (p2 : Option Addr) (f2 : Nat) (q2 : Option Addr) (g2 : Nat) (w : World) (h1 : HopsAt w p1 L1) (h2 : HopsAt w p2 L2) (m1 : L1.length <= 9223372036854775807) (m2 : L2.length <= 9223372036854775807) (u1 : StpsAt w q1 S1) (u2 : StpsAt w q2 S2) (l1 : S1.length <= 9223372036854775807) :
  Calls Tryz.prog 51 #[.agg #[.int .i64 k1, .int .i64 r1, .int .i64 n1, .slice p1 L1.length f1, .int .i64 s1, .int .i64 y1, .string d1, .slice q1 S1.length g1], .agg #[.int .i64 k2, .int .i64 r2, .int .i64 n2, .slice p2 L2.length f2, .int .i64 s2, .int .i64 y2, .string d2, .slice q2 S2.length g2]] w fun e w' => e = .returned (.bool (eqM (⟨k1, r1, n1, L1, s1, y1, d1, S1⟩ : Mv) (⟨k2, r2, n2, L2, s2, y2, d2, S2⟩ : Mv))) /\ Gr w w' := by
 have H1 : Hid (∀ w', Gr w w' -> Calls Tryz.prog 79 #[.agg #[.int .i64 r1, .int .i64 n1, .slice p1 L1.length f1], .agg #[.int .i64 r2, .int .i64 n2, .slice p2 L2.length f2]] w' fun e w2 => e = .returned (.bool (sameB r1 n1 L1 r2 n2 L2)) /\ Gr w' w2) := fun w' g => same_any r1 n1 L1 p1 f1 r2 n2 L2 p2 f2 w' (h1.gr g) (h2.gr g) m1 m2
 have H2 : Hid (∀ w', Gr w w' -> Calls Tryz.prog 52 #[.agg #[.string d1, .slice q1 S1.length g1], .agg #[.string d2, .slice q2 S2.length g2]] w' fun e w2 => e = .returned (.bool (eqD d1 S1 d2 S2)) /\ Gr w' w2) := fun w' g => refEqual_any d1 S1 q1 g1 d2 S2 q2 g2 w' (u1.gr g) (u2.gr g) l1
 have ek := beq_dec k1 k2
 have es := beq_dec s1 s2
 have ey := beq_dec y1 y2
 unfold eqM
 simp only
 generalize decide (k1 = k2) = bk at *
 generalize decide (s1 = s2) = bs at *
 generalize decide (y1 = y2) = bY at *
 generalize sameB r1 n1 L1 r2 n2 L2 = bi at *
 generalize eqD d1 S1 d2 S2 = bd at *
 clear h1 h2 m1 m2 u1 u2 l1
 cases bk with
 | false =>
  go_enter Tryz.func51, Tryz.ntmps51
  go_wp2
  go_ret
  exact ⟨rfl, (by repeat(first|exact Gr.r _|refine Gr.a ?_|refine Gr.d ?_|refine Gr.t ?_ (by assumption)))⟩
 | true =>
  cases bi with
  | false =>
   go_enter Tryz.func51, Tryz.ntmps51
   go_wp2_with fail
   refine (H1.out _ ?_).mono ?_
   ·exact (Gr.refl _).alloc.alloc
   rintro e1 w1 ⟨rfl, hg1⟩
   have G1 := (Gr.refl w).alloc.alloc.trans hg1
   have A1 := (Cs.new w _ _ _ rfl).alloc.gr hg1
   have B1 : Cs w1 (w.heap.size + 1) _ := (Cs.new _ _ _ _ (by simp)).gr hg1
   clear hg1
   obtain ⟨x0', x1', x2', x3', x4', x5', x6', x7', xlt⟩ := A1.c8
   obtain ⟨y0', y1', y2', y3', y4', y5', y6', y7', ylt⟩ := B1.c8
   go_wp2
   go_ret
   exact ⟨rfl, G1⟩
  | true =>
   cases bs with
   | false =>
    go_enter Tryz.func51, Tryz.ntmps51
    go_wp2_with fail
    refine (H1.out _ ?_).mono ?_
    ·exact (Gr.refl _).alloc.alloc
    rintro e1 w1 ⟨rfl, hg1⟩
    have G1 := (Gr.refl w).alloc.alloc.trans hg1
    have A1 := (Cs.new w _ _ _ rfl).alloc.gr hg1
    have B1 : Cs w1 (w.heap.size + 1) _ := (Cs.new _ _ _ _ (by simp)).gr hg1
    clear hg1
    obtain ⟨x0', x1', x2', x3', x4', x5', x6', x7', xlt⟩ := A1.c8
    obtain ⟨y0', y1', y2', y3', y4', y5', y6', y7', ylt⟩ := B1.c8
    go_wp2
    go_ret
    exact ⟨rfl, G1⟩
   | true =>
    cases bY with
    | false =>
     go_enter Tryz.func51, Tryz.ntmps51
     go_wp2_with fail
     refine (H1.out _ ?_).mono ?_
     ·exact (Gr.refl _).alloc.alloc
     rintro e1 w1 ⟨rfl, hg1⟩
     have G1 := (Gr.refl w).alloc.alloc.trans hg1
     have A1 := (Cs.new w _ _ _ rfl).alloc.gr hg1
     have B1 : Cs w1 (w.heap.size + 1) _ := (Cs.new _ _ _ _ (by simp)).gr hg1
     clear hg1
     obtain ⟨x0', x1', x2', x3', x4', x5', x6', x7', xlt⟩ := A1.c8
     obtain ⟨y0', y1', y2', y3', y4', y5', y6', y7', ylt⟩ := B1.c8
     go_wp2
     go_ret
     exact ⟨rfl, G1⟩
    | true =>
     go_enter Tryz.func51, Tryz.ntmps51
     go_wp2_with fail
     refine (H1.out _ ?_).mono ?_
     ·exact (Gr.refl _).alloc.alloc
     rintro e1 w1 ⟨rfl, hg1⟩
     have G1 := (Gr.refl w).alloc.alloc.trans hg1
     have A1 := (Cs.new w _ _ _ rfl).alloc.gr hg1
     have B1 : Cs w1 (w.heap.size + 1) _ := (Cs.new _ _ _ _ (by simp)).gr hg1
     clear hg1
     obtain ⟨x0', x1', x2', x3', x4', x5', x6', x7', xlt⟩ := A1.c8
     obtain ⟨y0', y1', y2', y3', y4', y5', y6', y7', ylt⟩ := B1.c8
     go_wp2_with fail
     refine (H2.out _ G1).mono ?_
     rintro e2 w2 ⟨rfl, hg2⟩
     have G2 : Gr w w2 := G1.trans hg2
     have A2 := A1.gr hg2
     have B2 := B1.gr hg2
     clear hg2 A1 B1 xlt ylt x0' y0' x1' y1' x2' y2' x3' y3' x4' y4' x5' y5' x6' y6' x7' y7'
     obtain ⟨x0', x1', x2', x3', x4', x5', x6', x7', xlt⟩ := A2.c8
     obtain ⟨y0', y1', y2', y3', y4', y5', y6', y7', ylt⟩ := B2.c8
     go_wp2
     go_ret
     exact ⟨rfl, G2⟩

theorem sameR_any (c1 : Int) (k1 r1 n1 : Int) (L1 : List (Int × Int)) (s1 y1 : Int) (d1 : ByteArray) (S1 : List Stp) (a1 : ByteArray) (v1 : Int) (b1 : ByteArray) (T1 : List Stp) (t1 : ByteArray) (c2 : Int) (k2 r2 n2 : Int) (L2 : List (Int × Int)) (s2 y2 : Int) (d2 : ByteArray) (S2 : List Stp) (a2 : ByteArray) (v2 : Int) (b2 : ByteArray) (T2 : List Stp) (t2 : ByteArray) (p1 : Option Addr) (f1 : Nat) (q1 : Option Addr) (g1 : Nat) (z1 : Option Addr) (h1 : Nat) (p2 : Option Addr) (f2 : Nat) (q2 : Option Addr) (g2 : Nat) (z2 : Option Addr) (h2 : Nat) (w : World) (i1 : RcIn w (⟨c1, ⟨k1, r1, n1, L1, s1, y1, d1, S1⟩, a1, v1, b1, T1, t1⟩ : Rc) p1 f1 q1 g1 z1 h1) (i2 : RcIn w (⟨c2, ⟨k2, r2, n2, L2, s2, y2, d2, S2⟩, a2, v2, b2, T2, t2⟩ : Rc) p2 f2 q2 g2 z2 h2) :
  Calls Tryz.prog 20 #[.agg #[.int .i64 c1, .int .i64 k1, .int .i64 r1, .int .i64 n1, .slice p1 L1.length f1, .int .i64 s1, .int .i64 y1, .string d1, .slice q1 S1.length g1, .string a1, .int .i64 v1, .string b1, .slice z1 T1.length h1, .string t1], .agg #[.int .i64 c2, .int .i64 k2, .int .i64 r2, .int .i64 n2, .slice p2 L2.length f2, .int .i64 s2, .int .i64 y2, .string d2, .slice q2 S2.length g2, .string a2, .int .i64 v2, .string b2, .slice z2 T2.length h2, .string t2]] w fun e w' => e = .returned (.bool (eqR (⟨c1, ⟨k1, r1, n1, L1, s1, y1, d1, S1⟩, a1, v1, b1, T1, t1⟩ : Rc) (⟨c2, ⟨k2, r2, n2, L2, s2, y2, d2, S2⟩, a2, v2, b2, T2, t2⟩ : Rc))) /\ Gr w w' := by
 have H1 : Hid (∀ w', Gr w w' -> Calls Tryz.prog 51 #[.agg #[.int .i64 k1, .int .i64 r1, .int .i64 n1, .slice p1 L1.length f1, .int .i64 s1, .int .i64 y1, .string d1, .slice q1 S1.length g1], .agg #[.int .i64 k2, .int .i64 r2, .int .i64 n2, .slice p2 L2.length f2, .int .i64 s2, .int .i64 y2, .string d2, .slice q2 S2.length g2]] w' fun e w2 => e = .returned (.bool (eqM (⟨k1, r1, n1, L1, s1, y1, d1, S1⟩ : Mv) (⟨k2, r2, n2, L2, s2, y2, d2, S2⟩ : Mv))) /\ Gr w' w2) := fun w' g => sameMove_any k1 r1 n1 L1 s1 y1 d1 S1 k2 r2 n2 L2 s2 y2 d2 S2 p1 f1 q1 g1 p2 f2 q2 g2 w' (i1.mv.hops.gr g) (i2.mv.hops.gr g) i1.mv.nL i2.mv.nL (i1.mv.stps.gr g) (i2.mv.stps.gr g) i1.mv.nS
 have H2 : Hid (∀ w', Gr w w' -> Calls Tryz.prog 52 #[.agg #[.string b1, .slice z1 T1.length h1], .agg #[.string b2, .slice z2 T2.length h2]] w' fun e w2 => e = .returned (.bool (eqD b1 T1 b2 T2)) /\ Gr w' w2) := fun w' g => refEqual_any b1 T1 z1 h1 b2 T2 z2 h2 w' (i1.stps.gr g) (i2.stps.gr g) i1.nS
 have ek := beq_dec c1 c2
 have ea := teq_dec a1 a2
 have ev := beq_dec v1 v2
 have et := teq_dec t1 t2
 unfold eqR
 simp only
 generalize decide (c1 = c2) = bk at *
 generalize decide (a1 = a2) = ba at *
 generalize decide (v1 = v2) = bv at *
 generalize decide (t1 = t2) = bt at *
 generalize eqM (⟨k1, r1, n1, L1, s1, y1, d1, S1⟩ : Mv) (⟨k2, r2, n2, L2, s2, y2, d2, S2⟩ : Mv) = bm at *
 generalize eqD b1 T1 b2 T2 = bd at *
 clear i1 i2
 cases bk with
 | false =>
  go_enter Tryz.func20, Tryz.ntmps20
  go_wp2
  go_ret
  exact ⟨rfl, (by repeat(first|exact Gr.r _|refine Gr.a ?_|refine Gr.d ?_|refine Gr.t ?_ (by assumption)))⟩
 | true =>
  cases bm with
  | false =>
   go_enter Tryz.func20, Tryz.ntmps20
   go_wp2_with fail
   refine (H1.out _ ?_).mono ?_
   ·exact (Gr.refl _).alloc.alloc
   rintro e1 w1 ⟨rfl, hg1⟩
   have G1 := (Gr.refl w).alloc.alloc.trans hg1
   have A1 := (Cs.new w _ _ _ rfl).alloc.gr hg1
   have B1 : Cs w1 (w.heap.size + 1) _ := (Cs.new _ _ _ _ (by simp)).gr hg1
   clear hg1
   obtain ⟨x0', x1', x2', x3', x4', x5', x6', x7', x8', x9', x10', x11', x12', x13', xlt⟩ := A1.c14
   obtain ⟨y0', y1', y2', y3', y4', y5', y6', y7', y8', y9', y10', y11', y12', y13', ylt⟩ := B1.c14
   go_wp2
   go_ret
   exact ⟨rfl, G1⟩
  | true =>
   cases ba with
   | false =>
    go_enter Tryz.func20, Tryz.ntmps20
    go_wp2_with fail
    refine (H1.out _ ?_).mono ?_
    ·exact (Gr.refl _).alloc.alloc
    rintro e1 w1 ⟨rfl, hg1⟩
    have G1 := (Gr.refl w).alloc.alloc.trans hg1
    have A1 := (Cs.new w _ _ _ rfl).alloc.gr hg1
    have B1 : Cs w1 (w.heap.size + 1) _ := (Cs.new _ _ _ _ (by simp)).gr hg1
    clear hg1
    obtain ⟨x0', x1', x2', x3', x4', x5', x6', x7', x8', x9', x10', x11', x12', x13', xlt⟩ := A1.c14
    obtain ⟨y0', y1', y2', y3', y4', y5', y6', y7', y8', y9', y10', y11', y12', y13', ylt⟩ := B1.c14
    go_wp2
    go_ret
    exact ⟨rfl, G1⟩
   | true =>
    cases bv with
    | false =>
     go_enter Tryz.func20, Tryz.ntmps20
     go_wp2_with fail
     refine (H1.out _ ?_).mono ?_
     ·exact (Gr.refl _).alloc.alloc
     rintro e1 w1 ⟨rfl, hg1⟩
     have G1 := (Gr.refl w).alloc.alloc.trans hg1
     have A1 := (Cs.new w _ _ _ rfl).alloc.gr hg1
     have B1 : Cs w1 (w.heap.size + 1) _ := (Cs.new _ _ _ _ (by simp)).gr hg1
     clear hg1
     obtain ⟨x0', x1', x2', x3', x4', x5', x6', x7', x8', x9', x10', x11', x12', x13', xlt⟩ := A1.c14
     obtain ⟨y0', y1', y2', y3', y4', y5', y6', y7', y8', y9', y10', y11', y12', y13', ylt⟩ := B1.c14
     go_wp2
     go_ret
     exact ⟨rfl, G1⟩
    | true =>
     cases bd with
     | false =>
      go_enter Tryz.func20, Tryz.ntmps20
      go_wp2_with fail
      refine (H1.out _ ?_).mono ?_
      ·exact (Gr.refl _).alloc.alloc
      rintro e1 w1 ⟨rfl, hg1⟩
      have G1 := (Gr.refl w).alloc.alloc.trans hg1
      have A1 := (Cs.new w _ _ _ rfl).alloc.gr hg1
      have B1 : Cs w1 (w.heap.size + 1) _ := (Cs.new _ _ _ _ (by simp)).gr hg1
      clear hg1
      obtain ⟨x0', x1', x2', x3', x4', x5', x6', x7', x8', x9', x10', x11', x12', x13', xlt⟩ := A1.c14
      obtain ⟨y0', y1', y2', y3', y4', y5', y6', y7', y8', y9', y10', y11', y12', y13', ylt⟩ := B1.c14
      go_wp2_with fail
      refine (H2.out _ G1).mono ?_
      rintro e2 w2 ⟨rfl, hg2⟩
      have G2 : Gr w w2 := G1.trans hg2
      have A2 := A1.gr hg2
      have B2 := B1.gr hg2
      clear hg2 A1 B1 xlt ylt x0' y0' x1' y1' x2' y2' x3' y3' x4' y4' x5' y5' x6' y6' x7' y7' x8' y8' x9' y9' x10' y10' x11' y11' x12' y12' x13' y13'
      obtain ⟨x0', x1', x2', x3', x4', x5', x6', x7', x8', x9', x10', x11', x12', x13', xlt⟩ := A2.c14
      obtain ⟨y0', y1', y2', y3', y4', y5', y6', y7', y8', y9', y10', y11', y12', y13', ylt⟩ := B2.c14
      go_wp2
      go_ret
      exact ⟨rfl, G2⟩
     | true =>
      go_enter Tryz.func20, Tryz.ntmps20
      go_wp2_with fail
      refine (H1.out _ ?_).mono ?_
      ·exact (Gr.refl _).alloc.alloc
      rintro e1 w1 ⟨rfl, hg1⟩
      have G1 := (Gr.refl w).alloc.alloc.trans hg1
      have A1 := (Cs.new w _ _ _ rfl).alloc.gr hg1
      have B1 : Cs w1 (w.heap.size + 1) _ := (Cs.new _ _ _ _ (by simp)).gr hg1
      clear hg1
      obtain ⟨x0', x1', x2', x3', x4', x5', x6', x7', x8', x9', x10', x11', x12', x13', xlt⟩ := A1.c14
      obtain ⟨y0', y1', y2', y3', y4', y5', y6', y7', y8', y9', y10', y11', y12', y13', ylt⟩ := B1.c14
      go_wp2_with fail
      refine (H2.out _ G1).mono ?_
      rintro e2 w2 ⟨rfl, hg2⟩
      have G2 : Gr w w2 := G1.trans hg2
      have A2 := A1.gr hg2
      have B2 := B1.gr hg2
      clear hg2 A1 B1 xlt ylt x0' y0' x1' y1' x2' y2' x3' y3' x4' y4' x5' y5' x6' y6' x7' y7' x8' y8' x9' y9' x10' y10' x11' y11' x12' y12' x13' y13'
      obtain ⟨x0', x1', x2', x3', x4', x5', x6', x7', x8', x9', x10', x11', x12', x13', xlt⟩ := A2.c14
      obtain ⟨y0', y1', y2', y3', y4', y5', y6', y7', y8', y9', y10', y11', y12', y13', ylt⟩ := B2.c14
      go_wp2
      go_ret
      exact ⟨rfl, G2⟩
end Go.Proofs.YthaadiclopoamaaGreatDoor
