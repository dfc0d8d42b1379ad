/- Parts of these proofs, laid together. -/
import Derived.Test.YthaadiclopoamaaGreatDoorGBL
import Derived.Test.YthaadiclopoamaaGreatDoorGI
import Derived.Deep.DeepCutAuto
/- The document's reading of definitions: one step. -/
set_option maxRecDepth 100000
set_option maxHeartbeats 8000000
namespace Go.Proofs.YthaadiclopoamaaGreatDoor
open Go.RowKit
open Lex (Tok valE valB)
open Df (Stp tk isT kw wk sm opt fin one Gd)

def OnR (w : World) (q : Nat × Option Stp) (e : Ending) (w' : World) : Prop :=
 ∃ s : Stp, e = .returned (.tuple #[.agg #[.int .i64 s.k, .string s.a, .int .i64 s.n, .int .i64 s.o, .string s.u, .int .i64 s.y, .int .i64 s.v], .int .i64 (q.1 : Int), .bool q.2.isSome]) /\ (∀ s', q.2 = some s' -> s = s') /\ Gr w w'
theorem keep2 {a b : World} {p q : Addr} {x y : Value} (h : a.cell? p = some x /\ a.cell? q = some y) (g : Gr a b) : b.cell? p = some x /\ b.cell? q = some y := ⟨g.keep h.1, g.keep h.2⟩
theorem keep2s {a : World} {p q : Addr} {x y : Value} (h : a.cell? p = some x /\ a.cell? q = some y) (r : Nat) (h1 : r ≠ p.block) (h2 : r ≠ q.block) (u v z : Value) : (((a.setCell ⟨r, 0, none⟩ u).setCell ⟨r, 1, none⟩ v).setCell ⟨r, 2, none⟩ z).cell? p = some x /\ (((a.setCell ⟨r, 0, none⟩ u).setCell ⟨r, 1, none⟩ v).setCell ⟨r, 2, none⟩ z).cell? q = some y := by
 constructor
 ·rw [World.cell?_setCell_far _ _ _ _ (by simpa using h1), World.cell?_setCell_far _ _ _ _ (by simpa using h1), World.cell?_setCell_far _ _ _ _ (by simpa using h1)]; exact h.1
 ·rw [World.cell?_setCell_far _ _ _ _ (by simpa using h2), World.cell?_setCell_far _ _ _ _ (by simpa using h2), World.cell?_setCell_far _ _ _ _ (by simpa using h2)]; exact h.2


theorem refOne0 (T : List Tok) (ad : Option Addr) (cap : Nat) (i : Nat) (w : World) (hT : ToksAt w ad T) (_hG : Gd T) (hi : i < T.length) (_hn : T.length <= 5000) (h0 : ¬ (tk T i).k = 1) :
  Calls Tryz.prog 144 #[.slice ad T.length cap, .int .i64 (i : Int)] w fun e w' => OnR w (one T i) e w' := by
 have HA0 : Hid (AccAt ((w.alloc (.cells #[.int .i64 0, .string ⟨#[]⟩, .int .i64 0, .int .i64 0, .string ⟨#[]⟩, .int .i64 0, .int .i64 0] 94)).alloc (.cells #[.int .i64 0, .string ⟨#[]⟩, .int .i64 0, .int .i64 0, .string ⟨#[]⟩, .int .i64 0, .int .i64 0] 94)) w.heap.size (.int .i64 0) (.string ⟨#[]⟩) (.int .i64 0) (.int .i64 0) (.string ⟨#[]⟩) (.int .i64 0) (.int .i64 0)) := (AccAt.new w (.int .i64 0) (.string ⟨#[]⟩) (.int .i64 0) (.int .i64 0) (.string ⟨#[]⟩) (.int .i64 0) (.int .i64 0) 94 _ rfl).gr (Gr.refl _).alloc
 have HB0 : Hid (AccAt ((w.alloc (.cells #[.int .i64 0, .string ⟨#[]⟩, .int .i64 0, .int .i64 0, .string ⟨#[]⟩, .int .i64 0, .int .i64 0] 94)).alloc (.cells #[.int .i64 0, .string ⟨#[]⟩, .int .i64 0, .int .i64 0, .string ⟨#[]⟩, .int .i64 0, .int .i64 0] 94)) (w.heap.size + 1) (.int .i64 0) (.string ⟨#[]⟩) (.int .i64 0) (.int .i64 0) (.string ⟨#[]⟩) (.int .i64 0) (.int .i64 0)) := AccAt.new _ (.int .i64 0) (.string ⟨#[]⟩) (.int .i64 0) (.int .i64 0) (.string ⟨#[]⟩) (.int .i64 0) (.int .i64 0) 94 _ (by simp)
 have HK : Hid (∀ w', Calls Tryz.prog 162 #[.string (tk T i).t] w' fun e w2 => e = .returned (.int .i64 (kw (tk T i).t)) /\ Gr w' w2) := fun w' => refKind_any _ w'
 obtain ⟨b, off, rfl, hb, c0, c1, c2⟩ := hT i hi
 rw [<- Df.tk_get T i hi] at c0 c1 c2
 have HO : Hid (one T i = (i, none)) := by
  show _ = _
  unfold Df.one
  rw [if_neg (fun e => h0 ((Df.isT_iff _ _ _).1 e).1), if_neg (fun e => h0 e.1)]
 have e1 : ((tk T i).k != 1) = true := by simpa using h0
 generalize one T i = OO at *
 generalize tk T i = x at *
 obtain ⟨xk, xt, xp⟩ := x
 simp only at *
 clear h0 hT HK
 go_enter Tryz.func144, Tryz.ntmps144
 obtain ⟨a0, a1, a2, a3, a4, a5, a6⟩ := HA0.out.cells
 go_wp2
 refine bodyPost_ret (v := .tuple #[.agg #[.int .i64 0, .string ⟨#[]⟩, .int .i64 0, .int .i64 0, .string ⟨#[]⟩, .int .i64 0, .int .i64 0], .int .i64 (i : Int), .bool false]) (by simp [results, Tryz.results144, go_sem, *]) rfl ?_
 rw [HO.out]
 exact ⟨⟨0, ⟨#[]⟩, 0, 0, ⟨#[]⟩, 0, 0⟩, rfl, fun s h => (by cases h), (by (with_reducible repeat' (first | exact Gr.refl _ | refine Gr.set ?_ _ ?_ _ | refine Gr.alloc ?_ | refine Gr.drew ?_ | refine Gr.trans ?_ (by assumption))) <;> (first | (simp; done) | (simp; omega) | omega))⟩

theorem refOne1 (T : List Tok) (ad : Option Addr) (cap : Nat) (i : Nat) (w : World) (hT : ToksAt w ad T) (_hG : Gd T) (hi : i < T.length) (_hn : T.length <= 5000) (h0 : (tk T i).k = 1) (h1 : kw (tk T i).t = 0) (h2 : (tk T i).t ≠ Df.wAsk) :
  Calls Tryz.prog 144 #[.slice ad T.length cap, .int .i64 (i : Int)] w fun e w' => OnR w (one T i) e w' := by
 have HA0 : Hid (AccAt ((w.alloc (.cells #[.int .i64 0, .string ⟨#[]⟩, .int .i64 0, .int .i64 0, .string ⟨#[]⟩, .int .i64 0, .int .i64 0] 94)).alloc (.cells #[.int .i64 0, .string ⟨#[]⟩, .int .i64 0, .int .i64 0, .string ⟨#[]⟩, .int .i64 0, .int .i64 0] 94)) w.heap.size (.int .i64 0) (.string ⟨#[]⟩) (.int .i64 0) (.int .i64 0) (.string ⟨#[]⟩) (.int .i64 0) (.int .i64 0)) := (AccAt.new w (.int .i64 0) (.string ⟨#[]⟩) (.int .i64 0) (.int .i64 0) (.string ⟨#[]⟩) (.int .i64 0) (.int .i64 0) 94 _ rfl).gr (Gr.refl _).alloc
 have HB0 : Hid (AccAt ((w.alloc (.cells #[.int .i64 0, .string ⟨#[]⟩, .int .i64 0, .int .i64 0, .string ⟨#[]⟩, .int .i64 0, .int .i64 0] 94)).alloc (.cells #[.int .i64 0, .string ⟨#[]⟩, .int .i64 0, .int .i64 0, .string ⟨#[]⟩, .int .i64 0, .int .i64 0] 94)) (w.heap.size + 1) (.int .i64 0) (.string ⟨#[]⟩) (.int .i64 0) (.int .i64 0) (.string ⟨#[]⟩) (.int .i64 0) (.int .i64 0)) := AccAt.new _ (.int .i64 0) (.string ⟨#[]⟩) (.int .i64 0) (.int .i64 0) (.string ⟨#[]⟩) (.int .i64 0) (.int .i64 0) 94 _ (by simp)
 have HK : Hid (∀ w', Calls Tryz.prog 162 #[.string (tk T i).t] w' fun e w2 => e = .returned (.int .i64 (kw (tk T i).t)) /\ Gr w' w2) := fun w' => refKind_any _ w'
 obtain ⟨b, off, rfl, hb, c0, c1, c2⟩ := hT i hi
 rw [<- Df.tk_get T i hi] at c0 c1 c2
 have HO : Hid (one T i = (i, none)) := by
  show _ = _
  unfold Df.one
  rw [if_neg (fun e => h2 ((Df.isT_iff _ _ _).1 e).2), if_neg (fun e => e.2 h1)]
 have e1 : ((tk T i).k != 1) = false := by simpa using h0
 have ht := text_eq (tk T i).t [97, 115, 107]
 rw [decide_eq_false (show ¬ (tk T i).t = ⟨[97, 115, 107].toArray⟩ from h2)] at ht
 rw [h1] at HK
 generalize one T i = OO at *
 generalize tk T i = x at *
 obtain ⟨xk, xt, xp⟩ := x
 simp only at *
 clear h0 hT h1 h2
 go_enter Tryz.func144, Tryz.ntmps144
 go_wp2_with fail
 refine (HK.out _).mono ?_
 rintro e w1 ⟨rfl, hg⟩
 have HA1 := Lib.hid (HA0.out.gr hg)
 have HB1 := Lib.hid (HB0.out.gr hg)
 have hg1 : Gr w w1 := (Gr.refl _).alloc.alloc.trans hg
 have hb1 : b < w1.heap.size := Nat.lt_of_lt_of_le hb hg1.size
 replace c0 := hg1.keep c0
 replace c1 := hg1.keep c1
 replace c2 := hg1.keep c2
 obtain ⟨a0, a1, a2, a3, a4, a5, a6⟩ := HA1.out.cells
 obtain ⟨af0, af1, af2, af3, af4, af5, af6⟩ := HA1.out.frozens
 have al := HA1.out.lt
 obtain ⟨q0, q1, q2, q3, q4, q5, q6⟩ := HB1.out.cells
 have ql := HB1.out.lt
 clear hg
 go_wp2
 refine bodyPost_ret (v := .tuple #[.agg #[.int .i64 0, .string ⟨#[]⟩, .int .i64 0, .int .i64 0, .string ⟨#[]⟩, .int .i64 0, .int .i64 0], .int .i64 (i : Int), .bool false]) (by simp [results, Tryz.results144, go_sem, *]) rfl ?_
 rw [HO.out]
 exact ⟨⟨0, ⟨#[]⟩, 0, 0, ⟨#[]⟩, 0, 0⟩, rfl, fun s h => (by cases h), (by (with_reducible repeat' (first | exact Gr.refl _ | refine Gr.set ?_ _ ?_ _ | refine Gr.alloc ?_ | refine Gr.drew ?_ | refine Gr.trans ?_ (by assumption))) <;> (first | (simp; done) | (simp; omega) | omega))⟩

theorem refOneA1 (T : List Tok) (ad : Option Addr) (cap : Nat) (i : Nat) (w : World) (hT : ToksAt w ad T) (hG : Gd T) (hi : i < T.length) (hn : T.length <= 5000) (h0 : (tk T i).k = 1) (h2 : (tk T i).t = Df.wAsk) (h3 : ¬ (tk T (i + 1)).k = 2) :
  Calls Tryz.prog 144 #[.slice ad T.length cap, .int .i64 (i : Int)] w fun e w' => OnR w (one T i) e w' := by
 have HA0 : Hid (AccAt ((w.alloc (.cells #[.int .i64 0, .string ⟨#[]⟩, .int .i64 0, .int .i64 0, .string ⟨#[]⟩, .int .i64 0, .int .i64 0] 94)).alloc (.cells #[.int .i64 0, .string ⟨#[]⟩, .int .i64 0, .int .i64 0, .string ⟨#[]⟩, .int .i64 0, .int .i64 0] 94)) w.heap.size (.int .i64 0) (.string ⟨#[]⟩) (.int .i64 0) (.int .i64 0) (.string ⟨#[]⟩) (.int .i64 0) (.int .i64 0)) := (AccAt.new w (.int .i64 0) (.string ⟨#[]⟩) (.int .i64 0) (.int .i64 0) (.string ⟨#[]⟩) (.int .i64 0) (.int .i64 0) 94 _ rfl).gr (Gr.refl _).alloc
 have HB0 : Hid (AccAt ((w.alloc (.cells #[.int .i64 0, .string ⟨#[]⟩, .int .i64 0, .int .i64 0, .string ⟨#[]⟩, .int .i64 0, .int .i64 0] 94)).alloc (.cells #[.int .i64 0, .string ⟨#[]⟩, .int .i64 0, .int .i64 0, .string ⟨#[]⟩, .int .i64 0, .int .i64 0] 94)) (w.heap.size + 1) (.int .i64 0) (.string ⟨#[]⟩) (.int .i64 0) (.int .i64 0) (.string ⟨#[]⟩) (.int .i64 0) (.int .i64 0)) := AccAt.new _ (.int .i64 0) (.string ⟨#[]⟩) (.int .i64 0) (.int .i64 0) (.string ⟨#[]⟩) (.int .i64 0) (.int .i64 0) 94 _ (by simp)
 have HK : Hid (∀ w', Calls Tryz.prog 162 #[.string (tk T i).t] w' fun e w2 => e = .returned (.int .i64 (kw (tk T i).t)) /\ Gr w' w2) := fun w' => refKind_any _ w'
 obtain ⟨b, off, rfl, hb, c0, c1, c2⟩ := hT i hi
 rw [<- Df.tk_get T i hi] at c0 c1 c2
 have hn1 := hG.next (i := i) (by rw [h0]; decide)
 obtain ⟨b1', off1', e1', _, d0, d1, d2⟩ := hT (i + 1) hn1
 cases e1'
 rw [<- Df.tk_get T (i + 1) hn1] at d0 d1 d2
 have HO : Hid (one T i = (i + 1, none)) := by
  show _ = _
  unfold Df.one
  rw [if_pos ((Df.isT_iff _ _ _).2 ⟨h0, h2⟩), if_neg h3]
 have e1 : ((tk T i).k != 1) = false := by simpa using h0
 rw [h2] at c1 HK
 rw [show kw Df.wAsk = 0 from Df.kw_ask] at HK
 unfold Df.wAsk at c1 HK
 have e3 : ((tk T (i + 1)).k != 2) = true := by simpa using h3
 generalize one T i = OO at *
 generalize tk T i = x at *
 obtain ⟨xk, xt, xp⟩ := x
 generalize tk T (i + 1) = y at *
 obtain ⟨yk, yt, yp⟩ := y
 simp only at *
 clear h0 hT hG h2 h3
 go_enter Tryz.func144, Tryz.ntmps144
 go_wp2_with fail
 refine (HK.out _).mono ?_
 rintro e w1 ⟨rfl, hg⟩
 have HA1 := Lib.hid (HA0.out.gr hg)
 have HB1 := Lib.hid (HB0.out.gr hg)
 have hg1 : Gr w w1 := (Gr.refl _).alloc.alloc.trans hg
 have hb1 : b < w1.heap.size := Nat.lt_of_lt_of_le hb hg1.size
 replace c0 := hg1.keep c0
 replace c1 := hg1.keep c1
 replace c2 := hg1.keep c2
 replace d0 := hg1.keep d0
 replace d1 := hg1.keep d1
 replace d2 := hg1.keep d2
 obtain ⟨a0, a1, a2, a3, a4, a5, a6⟩ := HA1.out.cells
 obtain ⟨af0, af1, af2, af3, af4, af5, af6⟩ := HA1.out.frozens
 have al := HA1.out.lt
 obtain ⟨q0, q1, q2, q3, q4, q5, q6⟩ := HB1.out.cells
 have ql := HB1.out.lt
 clear hg
 go_wp2
 refine bodyPost_ret (v := .tuple #[.agg #[.int .i64 0, .string ⟨#[]⟩, .int .i64 0, .int .i64 0, .string ⟨#[]⟩, .int .i64 0, .int .i64 0], .int .i64 ((i : Int) + 1), .bool false]) (by simp [results, Tryz.results144, go_sem, *]) rfl ?_
 rw [HO.out]
 exact ⟨⟨0, ⟨#[]⟩, 0, 0, ⟨#[]⟩, 0, 0⟩, rfl, fun s h => (by cases h), (by (with_reducible repeat' (first | exact Gr.refl _ | refine Gr.set ?_ _ ?_ _ | refine Gr.alloc ?_ | refine Gr.drew ?_ | refine Gr.trans ?_ (by assumption))) <;> (first | (simp; done) | (simp; omega) | omega))⟩

theorem refOneA2 (T : List Tok) (ad : Option Addr) (cap : Nat) (i : Nat) (w : World) (hT : ToksAt w ad T) (hG : Gd T) (hi : i < T.length) (hn : T.length <= 5000) (h0 : (tk T i).k = 1) (h2 : (tk T i).t = Df.wAsk) (h3 : (tk T (i + 1)).k = 2) (h4 : ¬ (tk T (i + 2)).k = 1) :
  Calls Tryz.prog 144 #[.slice ad T.length cap, .int .i64 (i : Int)] w fun e w' => OnR w (one T i) e w' := by
 have HA0 : Hid (AccAt ((w.alloc (.cells #[.int .i64 0, .string ⟨#[]⟩, .int .i64 0, .int .i64 0, .string ⟨#[]⟩, .int .i64 0, .int .i64 0] 94)).alloc (.cells #[.int .i64 0, .string ⟨#[]⟩, .int .i64 0, .int .i64 0, .string ⟨#[]⟩, .int .i64 0, .int .i64 0] 94)) w.heap.size (.int .i64 0) (.string ⟨#[]⟩) (.int .i64 0) (.int .i64 0) (.string ⟨#[]⟩) (.int .i64 0) (.int .i64 0)) := (AccAt.new w (.int .i64 0) (.string ⟨#[]⟩) (.int .i64 0) (.int .i64 0) (.string ⟨#[]⟩) (.int .i64 0) (.int .i64 0) 94 _ rfl).gr (Gr.refl _).alloc
 have HB0 : Hid (AccAt ((w.alloc (.cells #[.int .i64 0, .string ⟨#[]⟩, .int .i64 0, .int .i64 0, .string ⟨#[]⟩, .int .i64 0, .int .i64 0] 94)).alloc (.cells #[.int .i64 0, .string ⟨#[]⟩, .int .i64 0, .int .i64 0, .string ⟨#[]⟩, .int .i64 0, .int .i64 0] 94)) (w.heap.size + 1) (.int .i64 0) (.string ⟨#[]⟩) (.int .i64 0) (.int .i64 0) (.string ⟨#[]⟩) (.int .i64 0) (.int .i64 0)) := AccAt.new _ (.int .i64 0) (.string ⟨#[]⟩) (.int .i64 0) (.int .i64 0) (.string ⟨#[]⟩) (.int .i64 0) (.int .i64 0) 94 _ (by simp)
 have HK : Hid (∀ w', Calls Tryz.prog 162 #[.string (tk T i).t] w' fun e w2 => e = .returned (.int .i64 (kw (tk T i).t)) /\ Gr w' w2) := fun w' => refKind_any _ w'
 obtain ⟨b, off, rfl, hb, c0, c1, c2⟩ := hT i hi
 rw [<- Df.tk_get T i hi] at c0 c1 c2
 have hn1 := hG.next (i := i) (by rw [h0]; decide)
 have hn2 := hG.next (i := i + 1) (by rw [h3]; decide)
 obtain ⟨b1', off1', e1', _, d0, d1, d2⟩ := hT (i + 1) hn1
 cases e1'
 rw [<- Df.tk_get T (i + 1) hn1] at d0 d1 d2
 obtain ⟨b2', off2', e2', _, f0, f1, f2⟩ := hT (i + 2) hn2
 cases e2'
 rw [<- Df.tk_get T (i + 2) hn2] at f0 f1 f2
 have HO : Hid (one T i = (i + 2, none)) := by
  show _ = _
  unfold Df.one
  rw [if_pos ((Df.isT_iff _ _ _).2 ⟨h0, h2⟩), if_pos h3, if_neg h4]
 have e1 : ((tk T i).k != 1) = false := by simpa using h0
 rw [h2] at c1 HK
 rw [show kw Df.wAsk = 0 from Df.kw_ask] at HK
 unfold Df.wAsk at c1 HK
 have e3 : ((tk T (i + 1)).k != 2) = false := by simpa using h3
 have e4 : ((tk T (i + 2)).k != 1) = true := by simpa using h4
 generalize one T i = OO at *
 generalize tk T i = x at *
 obtain ⟨xk, xt, xp⟩ := x
 generalize tk T (i + 1) = y at *
 obtain ⟨yk, yt, yp⟩ := y
 generalize tk T (i + 2) = z at *
 obtain ⟨zk, zt, zp⟩ := z
 simp only at *
 clear h0 hT hG h2 h3 h4
 go_enter Tryz.func144, Tryz.ntmps144
 go_wp2_with fail
 refine (HK.out _).mono ?_
 rintro e w1 ⟨rfl, hg⟩
 have HA1 := Lib.hid (HA0.out.gr hg)
 have HB1 := Lib.hid (HB0.out.gr hg)
 have hg1 : Gr w w1 := (Gr.refl _).alloc.alloc.trans hg
 have hb1 : b < w1.heap.size := Nat.lt_of_lt_of_le hb hg1.size
 replace c0 := hg1.keep c0
 replace c1 := hg1.keep c1
 replace c2 := hg1.keep c2
 replace d0 := hg1.keep d0
 replace d1 := hg1.keep d1
 replace d2 := hg1.keep d2
 replace f0 := hg1.keep f0
 replace f1 := hg1.keep f1
 replace f2 := hg1.keep f2
 obtain ⟨a0, a1, a2, a3, a4, a5, a6⟩ := HA1.out.cells
 obtain ⟨af0, af1, af2, af3, af4, af5, af6⟩ := HA1.out.frozens
 have al := HA1.out.lt
 obtain ⟨q0, q1, q2, q3, q4, q5, q6⟩ := HB1.out.cells
 have ql := HB1.out.lt
 clear hg
 go_wp2
 refine bodyPost_ret (v := .tuple #[.agg #[.int .i64 0, .string ⟨#[]⟩, .int .i64 0, .int .i64 0, .string ⟨#[]⟩, .int .i64 0, .int .i64 0], .int .i64 ((i : Int) + 2), .bool false]) (by simp [results, Tryz.results144, go_sem, *]) rfl ?_
 rw [HO.out]
 exact ⟨⟨0, ⟨#[]⟩, 0, 0, ⟨#[]⟩, 0, 0⟩, rfl, fun s h => (by cases h), (by (with_reducible repeat' (first | exact Gr.refl _ | refine Gr.set ?_ _ ?_ _ | refine Gr.alloc ?_ | refine Gr.drew ?_ | refine Gr.trans ?_ (by assumption))) <;> (first | (simp; done) | (simp; omega) | omega))⟩

theorem refOneD1 (T : List Tok) (ad : Option Addr) (cap : Nat) (i : Nat) (w : World) (hT : ToksAt w ad T) (hG : Gd T) (hi : i < T.length) (hn : T.length <= 5000) (h0 : (tk T i).k = 1) (h1 : kw (tk T i).t ≠ 0) (h3 : ¬ (tk T (i + 1)).k = 1) :
  Calls Tryz.prog 144 #[.slice ad T.length cap, .int .i64 (i : Int)] w fun e w' => OnR w (one T i) e w' := by
 have HA0 : Hid (AccAt ((w.alloc (.cells #[.int .i64 0, .string ⟨#[]⟩, .int .i64 0, .int .i64 0, .string ⟨#[]⟩, .int .i64 0, .int .i64 0] 94)).alloc (.cells #[.int .i64 0, .string ⟨#[]⟩, .int .i64 0, .int .i64 0, .string ⟨#[]⟩, .int .i64 0, .int .i64 0] 94)) w.heap.size (.int .i64 0) (.string ⟨#[]⟩) (.int .i64 0) (.int .i64 0) (.string ⟨#[]⟩) (.int .i64 0) (.int .i64 0)) := (AccAt.new w (.int .i64 0) (.string ⟨#[]⟩) (.int .i64 0) (.int .i64 0) (.string ⟨#[]⟩) (.int .i64 0) (.int .i64 0) 94 _ rfl).gr (Gr.refl _).alloc
 have HB0 : Hid (AccAt ((w.alloc (.cells #[.int .i64 0, .string ⟨#[]⟩, .int .i64 0, .int .i64 0, .string ⟨#[]⟩, .int .i64 0, .int .i64 0] 94)).alloc (.cells #[.int .i64 0, .string ⟨#[]⟩, .int .i64 0, .int .i64 0, .string ⟨#[]⟩, .int .i64 0, .int .i64 0] 94)) (w.heap.size + 1) (.int .i64 0) (.string ⟨#[]⟩) (.int .i64 0) (.int .i64 0) (.string ⟨#[]⟩) (.int .i64 0) (.int .i64 0)) := AccAt.new _ (.int .i64 0) (.string ⟨#[]⟩) (.int .i64 0) (.int .i64 0) (.string ⟨#[]⟩) (.int .i64 0) (.int .i64 0) 94 _ (by simp)
 have HK : Hid (∀ w', Calls Tryz.prog 162 #[.string (tk T i).t] w' fun e w2 => e = .returned (.int .i64 (kw (tk T i).t)) /\ Gr w' w2) := fun w' => refKind_any _ w'
 obtain ⟨b, off, rfl, hb, c0, c1, c2⟩ := hT i hi
 rw [<- Df.tk_get T i hi] at c0 c1 c2
 have hn1 := hG.next (i := i) (by rw [h0]; decide)
 obtain ⟨b1', off1', e1', _, d0, d1, d2⟩ := hT (i + 1) hn1
 cases e1'
 rw [<- Df.tk_get T (i + 1) hn1] at d0 d1 d2
 have HO : Hid (one T i = (i + 1, none)) := by
  show _ = _
  unfold Df.one
  rw [if_neg (fun e => h1 (by rw [((Df.isT_iff _ _ _).1 e).2]; exact Df.kw_ask)), if_pos ⟨h0, h1⟩, if_neg h3]
 have e1 : ((tk T i).k != 1) = false := by simpa using h0
 have ht := text_eq (tk T i).t [97, 115, 107]
 have hna : ¬ (tk T i).t = Df.wAsk := fun e => h1 (by rw [e]; exact Df.kw_ask)
 rw [decide_eq_false (show ¬ (tk T i).t = ⟨[97, 115, 107].toArray⟩ from hna)] at ht
 have e2 : (kw (tk T i).t == 0) = false := by simpa using h1
 have e3 : ((tk T (i + 1)).k != 1) = true := by simpa using h3
 generalize one T i = OO at *
 generalize kw (tk T i).t = KW at *
 generalize tk T i = x at *
 obtain ⟨xk, xt, xp⟩ := x
 generalize tk T (i + 1) = y at *
 obtain ⟨yk, yt, yp⟩ := y
 simp only at *
 clear h0 hT hG h1 h3 hna
 go_enter Tryz.func144, Tryz.ntmps144
 go_wp2_with fail
 refine (HK.out _).mono ?_
 rintro e w1 ⟨rfl, hg⟩
 have HA1 := Lib.hid (HA0.out.gr hg)
 have HB1 := Lib.hid (HB0.out.gr hg)
 have hg1 : Gr w w1 := (Gr.refl _).alloc.alloc.trans hg
 have hb1 : b < w1.heap.size := Nat.lt_of_lt_of_le hb hg1.size
 replace c0 := hg1.keep c0
 replace c1 := hg1.keep c1
 replace c2 := hg1.keep c2
 replace d0 := hg1.keep d0
 replace d1 := hg1.keep d1
 replace d2 := hg1.keep d2
 obtain ⟨a0, a1, a2, a3, a4, a5, a6⟩ := HA1.out.cells
 obtain ⟨af0, af1, af2, af3, af4, af5, af6⟩ := HA1.out.frozens
 have al := HA1.out.lt
 obtain ⟨q0, q1, q2, q3, q4, q5, q6⟩ := HB1.out.cells
 have ql := HB1.out.lt
 clear hg
 go_wp2
 refine bodyPost_ret (v := .tuple #[.agg #[.int .i64 0, .string ⟨#[]⟩, .int .i64 0, .int .i64 0, .string ⟨#[]⟩, .int .i64 0, .int .i64 0], .int .i64 ((i : Int) + 1), .bool false]) (by simp [results, Tryz.results144, go_sem, *]) rfl ?_
 rw [HO.out]
 exact ⟨⟨0, ⟨#[]⟩, 0, 0, ⟨#[]⟩, 0, 0⟩, rfl, fun s h => (by cases h), (by (with_reducible repeat' (first | exact Gr.refl _ | refine Gr.set ?_ _ ?_ _ | refine Gr.alloc ?_ | refine Gr.drew ?_ | refine Gr.trans ?_ (by assumption))) <;> (first | (simp; done) | (simp; omega) | omega))⟩

theorem refOneD2 (T : List Tok) (ad : Option Addr) (cap : Nat) (i : Nat) (w : World) (hT : ToksAt w ad T) (hG : Gd T) (hi : i < T.length) (hn : T.length <= 5000) (h0 : (tk T i).k = 1) (h1 : kw (tk T i).t ≠ 0) (h3 : (tk T (i + 1)).k = 1) (h4 : ¬ (tk T (i + 2)).k = 2) :
  Calls Tryz.prog 144 #[.slice ad T.length cap, .int .i64 (i : Int)] w fun e w' => OnR w (one T i) e w' := by
 have HA0 : Hid (AccAt ((w.alloc (.cells #[.int .i64 0, .string ⟨#[]⟩, .int .i64 0, .int .i64 0, .string ⟨#[]⟩, .int .i64 0, .int .i64 0] 94)).alloc (.cells #[.int .i64 0, .string ⟨#[]⟩, .int .i64 0, .int .i64 0, .string ⟨#[]⟩, .int .i64 0, .int .i64 0] 94)) w.heap.size (.int .i64 0) (.string ⟨#[]⟩) (.int .i64 0) (.int .i64 0) (.string ⟨#[]⟩) (.int .i64 0) (.int .i64 0)) := (AccAt.new w (.int .i64 0) (.string ⟨#[]⟩) (.int .i64 0) (.int .i64 0) (.string ⟨#[]⟩) (.int .i64 0) (.int .i64 0) 94 _ rfl).gr (Gr.refl _).alloc
 have HB0 : Hid (AccAt ((w.alloc (.cells #[.int .i64 0, .string ⟨#[]⟩, .int .i64 0, .int .i64 0, .string ⟨#[]⟩, .int .i64 0, .int .i64 0] 94)).alloc (.cells #[.int .i64 0, .string ⟨#[]⟩, .int .i64 0, .int .i64 0, .string ⟨#[]⟩, .int .i64 0, .int .i64 0] 94)) (w.heap.size + 1) (.int .i64 0) (.string ⟨#[]⟩) (.int .i64 0) (.int .i64 0) (.string ⟨#[]⟩) (.int .i64 0) (.int .i64 0)) := AccAt.new _ (.int .i64 0) (.string ⟨#[]⟩) (.int .i64 0) (.int .i64 0) (.string ⟨#[]⟩) (.int .i64 0) (.int .i64 0) 94 _ (by simp)
 have HK : Hid (∀ w', Calls Tryz.prog 162 #[.string (tk T i).t] w' fun e w2 => e = .returned (.int .i64 (kw (tk T i).t)) /\ Gr w' w2) := fun w' => refKind_any _ w'
 obtain ⟨b, off, rfl, hb, c0, c1, c2⟩ := hT i hi
 rw [<- Df.tk_get T i hi] at c0 c1 c2
 have hn1 := hG.next (i := i) (by rw [h0]; decide)
 have hn2 := hG.next (i := i + 1) (by rw [h3]; decide)
 obtain ⟨b1', off1', e1', _, d0, d1, d2⟩ := hT (i + 1) hn1
 cases e1'
 rw [<- Df.tk_get T (i + 1) hn1] at d0 d1 d2
 obtain ⟨b2', off2', e2', _, f0, f1, f2⟩ := hT (i + 2) hn2
 cases e2'
 rw [<- Df.tk_get T (i + 2) hn2] at f0 f1 f2
 have HO : Hid (one T i = (i + 2, none)) := by
  show _ = _
  unfold Df.one
  rw [if_neg (fun e => h1 (by rw [((Df.isT_iff _ _ _).1 e).2]; exact Df.kw_ask)), if_pos ⟨h0, h1⟩, if_pos h3, if_neg h4]
 have e1 : ((tk T i).k != 1) = false := by simpa using h0
 have ht := text_eq (tk T i).t [97, 115, 107]
 have hna : ¬ (tk T i).t = Df.wAsk := fun e => h1 (by rw [e]; exact Df.kw_ask)
 rw [decide_eq_false (show ¬ (tk T i).t = ⟨[97, 115, 107].toArray⟩ from hna)] at ht
 have e2 : (kw (tk T i).t == 0) = false := by simpa using h1
 have e3 : ((tk T (i + 1)).k != 1) = false := by simpa using h3
 have e4 : ((tk T (i + 2)).k != 2) = true := by simpa using h4
 generalize one T i = OO at *
 generalize kw (tk T i).t = KW at *
 generalize tk T i = x at *
 obtain ⟨xk, xt, xp⟩ := x
 generalize tk T (i + 1) = y at *
 obtain ⟨yk, yt, yp⟩ := y
 generalize tk T (i + 2) = z at *
 obtain ⟨zk, zt, zp⟩ := z
 simp only at *
 clear h0 hT hG h1 h3 h4 hna
 go_enter Tryz.func144, Tryz.ntmps144
 go_wp2_with fail
 refine (HK.out _).mono ?_
 rintro e w1 ⟨rfl, hg⟩
 have HA1 := Lib.hid (HA0.out.gr hg)
 have HB1 := Lib.hid (HB0.out.gr hg)
 have hg1 : Gr w w1 := (Gr.refl _).alloc.alloc.trans hg
 have hb1 : b < w1.heap.size := Nat.lt_of_lt_of_le hb hg1.size
 replace c0 := hg1.keep c0
 replace c1 := hg1.keep c1
 replace c2 := hg1.keep c2
 replace d0 := hg1.keep d0
 replace d1 := hg1.keep d1
 replace d2 := hg1.keep d2
 replace f0 := hg1.keep f0
 replace f1 := hg1.keep f1
 replace f2 := hg1.keep f2
 obtain ⟨a0, a1, a2, a3, a4, a5, a6⟩ := HA1.out.cells
 obtain ⟨af0, af1, af2, af3, af4, af5, af6⟩ := HA1.out.frozens
 have al := HA1.out.lt
 obtain ⟨q0, q1, q2, q3, q4, q5, q6⟩ := HB1.out.cells
 have ql := HB1.out.lt
 clear hg
 go_wp2
 refine bodyPost_ret (v := .tuple #[.agg #[.int .i64 0, .string ⟨#[]⟩, .int .i64 0, .int .i64 0, .string ⟨#[]⟩, .int .i64 0, .int .i64 0], .int .i64 ((i : Int) + 2), .bool false]) (by simp [results, Tryz.results144, go_sem, *]) rfl ?_
 rw [HO.out]
 exact ⟨⟨0, ⟨#[]⟩, 0, 0, ⟨#[]⟩, 0, 0⟩, rfl, fun s h => (by cases h), (by (with_reducible repeat' (first | exact Gr.refl _ | refine Gr.set ?_ _ ?_ _ | refine Gr.alloc ?_ | refine Gr.drew ?_ | refine Gr.trans ?_ (by assumption))) <;> (first | (simp; done) | (simp; omega) | omega))⟩

theorem refOneA3 (T : List Tok) (ad : Option Addr) (cap : Nat) (i : Nat) (w : World) (hT : ToksAt w ad T) (hG : Gd T) (hi : i < T.length) (hn : T.length <= 5000) (h0 : (tk T i).k = 1) (h2 : (tk T i).t = Df.wAsk) (h3 : (tk T (i + 1)).k = 2) (h4 : (tk T (i + 2)).k = 1) :
  Calls Tryz.prog 144 #[.slice ad T.length cap, .int .i64 (i : Int)] w fun e w' => OnR w (one T i) e w' := by
 have HA0 : Hid (AccAt ((w.alloc (.cells #[.int .i64 0, .string ⟨#[]⟩, .int .i64 0, .int .i64 0, .string ⟨#[]⟩, .int .i64 0, .int .i64 0] 94)).alloc (.cells #[.int .i64 0, .string ⟨#[]⟩, .int .i64 0, .int .i64 0, .string ⟨#[]⟩, .int .i64 0, .int .i64 0] 94)) w.heap.size (.int .i64 0) (.string ⟨#[]⟩) (.int .i64 0) (.int .i64 0) (.string ⟨#[]⟩) (.int .i64 0) (.int .i64 0)) := (AccAt.new w (.int .i64 0) (.string ⟨#[]⟩) (.int .i64 0) (.int .i64 0) (.string ⟨#[]⟩) (.int .i64 0) (.int .i64 0) 94 _ rfl).gr (Gr.refl _).alloc
 have HB0 : Hid (AccAt ((w.alloc (.cells #[.int .i64 0, .string ⟨#[]⟩, .int .i64 0, .int .i64 0, .string ⟨#[]⟩, .int .i64 0, .int .i64 0] 94)).alloc (.cells #[.int .i64 0, .string ⟨#[]⟩, .int .i64 0, .int .i64 0, .string ⟨#[]⟩, .int .i64 0, .int .i64 0] 94)) (w.heap.size + 1) (.int .i64 0) (.string ⟨#[]⟩) (.int .i64 0) (.int .i64 0) (.string ⟨#[]⟩) (.int .i64 0) (.int .i64 0)) := AccAt.new _ (.int .i64 0) (.string ⟨#[]⟩) (.int .i64 0) (.int .i64 0) (.string ⟨#[]⟩) (.int .i64 0) (.int .i64 0) 94 _ (by simp)
 have HK : Hid (∀ w', Calls Tryz.prog 162 #[.string (tk T i).t] w' fun e w2 => e = .returned (.int .i64 (kw (tk T i).t)) /\ Gr w' w2) := fun w' => refKind_any _ w'
 obtain ⟨b, off, rfl, hb, c0, c1, c2⟩ := hT i hi
 rw [<- Df.tk_get T i hi] at c0 c1 c2
 have hn1 := hG.next (i := i) (by rw [h0]; decide)
 have hn2 := hG.next (i := i + 1) (by rw [h3]; decide)
 have hn3 := hG.next (i := i + 2) (by rw [h4]; decide)
 obtain ⟨b1', off1', e1', _, d0, d1, d2⟩ := hT (i + 1) hn1
 cases e1'
 rw [<- Df.tk_get T (i + 1) hn1] at d0 d1 d2
 obtain ⟨b2', off2', e2', _, f0, f1, f2⟩ := hT (i + 2) hn2
 cases e2'
 rw [<- Df.tk_get T (i + 2) hn2] at f0 f1 f2
 have HO0 : one T i = fin T (opt T (i + 3) Df.wWait 20) (fun n => ⟨0, ⟨#[]⟩, 0, sm (tk T (i + 1)).t, (tk T (i + 2)).t, 0, n⟩) := by
  unfold Df.one
  rw [if_pos ((Df.isT_iff _ _ _).2 ⟨h0, h2⟩), if_pos h3, if_pos h4]
 have hol := Df.opt_le hG (i + 3) Df.wWait 20 hn3
 have HM : Hid (∀ w', Gr w w' -> Calls Tryz.prog 164 #[.slice (some ⟨b, off, none⟩) T.length cap, .int .i64 ((i : Int) + 3), .string ⟨#[119, 97, 105, 116]⟩, .int .i64 20] w' fun e w2 => e = .returned (.tuple #[.int .i64 (optI (opt T (i + 3) Df.wWait 20).2), .int .i64 ((opt T (i + 3) Df.wWait 20).1 : Int), .bool (opt T (i + 3) Df.wWait 20).2.isSome]) /\ Gr w' w2) := fun w' g => refMaybe_any T (some ⟨b, off, none⟩) cap (i + 3) Df.wWait 20 w' (hT.gr g) hG hn3 hn
 have HI : Hid (∀ w', Calls Tryz.prog 142 #[.agg #[.int .i64 (tk T (opt T (i + 3) Df.wWait 20).1).k, .string (tk T (opt T (i + 3) Df.wWait 20).1).t, .int .i64 (tk T (opt T (i + 3) Df.wWait 20).1).p], .int .i64 3, .string ⟨#[59]⟩] w' fun e w2 => e = .returned (.bool (isT (tk T (opt T (i + 3) Df.wWait 20).1) 3 Df.gSemi)) /\ Gr w' w2) := fun w' => refIs_any _ 3 Df.gSemi w'
 have HFI : Hid (fin T (opt T (i + 3) Df.wWait 20) (fun n => ⟨0, ⟨#[]⟩, 0, sm (tk T (i + 1)).t, (tk T (i + 2)).t, 0, n⟩) = match (opt T (i + 3) Df.wWait 20).2 with
  | none => ((opt T (i + 3) Df.wWait 20).1, none)
  | some n => if isT (tk T (opt T (i + 3) Df.wWait 20).1) 3 Df.gSemi = true then ((opt T (i + 3) Df.wWait 20).1 + 1, some ((fun n => ⟨0, ⟨#[]⟩, 0, sm (tk T (i + 1)).t, (tk T (i + 2)).t, 0, n⟩) n)) else ((opt T (i + 3) Df.wWait 20).1, none)) := rfl
 rw [<- HO0] at HFI
 obtain ⟨bm', offm', em', _, g0, g1, g2⟩ := hT (opt T (i + 3) Df.wWait 20).1 hol.2
 cases em'
 rw [<- Df.tk_get T _ hol.2] at g0 g1 g2
 have hjl := hol.2
 generalize opt T (i + 3) Df.wWait 20 = OP at *
 obtain ⟨jm, om⟩ := OP
 simp only at *
 generalize isT (tk T jm) 3 Df.gSemi = SB at *
 generalize tk T jm = v at *
 obtain ⟨vk, vt, vp⟩ := v
 have e1 : ((tk T i).k != 1) = false := by simpa using h0
 rw [h2] at c1 HK
 rw [show kw Df.wAsk = 0 from Df.kw_ask] at HK
 unfold Df.wAsk at c1 HK
 have e3 : ((tk T (i + 1)).k != 2) = false := by simpa using h3
 have e4 : ((tk T (i + 2)).k != 1) = false := by simpa using h4
 have HS : Hid (∀ w', Calls Tryz.prog 163 #[.agg #[.int .i64 (tk T (i + 1)).k, .string (tk T (i + 1)).t, .int .i64 (tk T (i + 1)).p]] w' fun e w2 => e = .returned (.int .i64 (sm (tk T (i + 1)).t)) /\ Gr w' w2) := fun w' => rdSmall_any _ w' h3 (hG.size _)
 generalize one T i = OO at *
 generalize sm (tk T (i + 1)).t = SM at *
 generalize tk T i = x at *
 obtain ⟨xk, xt, xp⟩ := x
 generalize tk T (i + 1) = y at *
 obtain ⟨yk, yt, yp⟩ := y
 generalize tk T (i + 2) = z at *
 obtain ⟨zk, zt, zp⟩ := z
 simp only at *
 have HN : Hid (w.heap.size + 1 ≠ b /\ w.heap.size ≠ b) := ⟨by omega, by omega⟩
 clear h0 hT hG HO0 hol h2 h3 h4
 cases om with
 | none =>
  have HO : Hid (OO = (jm, none)) := HFI.out
  clear HFI
  simp only [optI, Option.isSome_none] at HM
  go_enter Tryz.func144, Tryz.ntmps144
  go_wp2_with fail
  refine (HK.out _).mono ?_
  rintro e w1 ⟨rfl, hg⟩
  have HA1 := Lib.hid (HA0.out.gr hg)
  have HB1 := Lib.hid (HB0.out.gr hg)
  have hg1 : Gr w w1 := (Gr.refl _).alloc.alloc.trans hg
  have hb1 : b < w1.heap.size := Nat.lt_of_lt_of_le hb hg1.size
  replace c0 := hg1.keep c0
  replace c1 := hg1.keep c1
  replace c2 := hg1.keep c2
  replace d0 := hg1.keep d0
  replace d1 := hg1.keep d1
  replace d2 := hg1.keep d2
  replace f0 := hg1.keep f0
  replace f1 := hg1.keep f1
  replace f2 := hg1.keep f2
  replace g0 := hg1.keep g0
  replace g1 := hg1.keep g1
  replace g2 := hg1.keep g2
  clear hg
  go_wp2_with fail
  refine (HS.out _).mono ?_
  rintro e w2 ⟨rfl, hg⟩
  have hg2 : Gr w w2 := hg1.trans hg
  have HB2a := HB1.out.gr hg
  have HA2a := HA1.out.gr hg
  replace f0 := hg.keep f0
  replace f1 := hg.keep f1
  replace f2 := hg.keep f2
  replace g0 := hg.keep g0
  replace g1 := hg.keep g1
  replace g2 := hg.keep g2
  have hb2 : b < w2.heap.size := Nat.lt_of_lt_of_le hb hg2.size
  have HB2 := Lib.hid ((HB2a.s3 (.int .i64 SM)).s4 (.string zt))
  have HA2 := Lib.hid ((HA2a.setFar ⟨w.heap.size + 1, 3, none⟩ (.int .i64 SM) (by simp)).setFar ⟨w.heap.size + 1, 4, none⟩ (.string zt) (by simp))
  obtain ⟨q0, q1, q2, q3, q4, q5, q6⟩ := HB2a.cells
  obtain ⟨p0, p1, p2, p3, p4, p5, p6⟩ := HB2a.frozens
  have ql := HB2a.lt
  have nb1 := HN.out.1
  have nb2 : ¬ b = w.heap.size + 1 := fun e => nb1 e.symm
  clear hg HB2a HA2a hg1 c0 c1 c2 d0 d1 d2
  have HGS : Hid (Gr w ((w2.setCell ⟨w.heap.size + 1, 3, none⟩ (.int .i64 SM)).setCell ⟨w.heap.size + 1, 4, none⟩ (.string zt))) := ((hg2.set ⟨w.heap.size + 1, 3, none⟩ (by simp) (.int .i64 SM)).set ⟨w.heap.size + 1, 4, none⟩ (by simp) (.string zt))
  have g0s : ((w2.setCell ⟨w.heap.size + 1, 3, none⟩ (.int .i64 SM)).setCell ⟨w.heap.size + 1, 4, none⟩ (.string zt)).cell? ⟨b, off + jm * 3, none⟩ = _ := ((World.cell?_setCell_far _ _ _ _ (by simpa using nb1)).trans ((World.cell?_setCell_far _ _ _ _ (by simpa using nb1)).trans g0))
  have g1s : ((w2.setCell ⟨w.heap.size + 1, 3, none⟩ (.int .i64 SM)).setCell ⟨w.heap.size + 1, 4, none⟩ (.string zt)).cell? ⟨b, off + jm * 3 + 1, none⟩ = _ := ((World.cell?_setCell_far _ _ _ _ (by simpa using nb1)).trans ((World.cell?_setCell_far _ _ _ _ (by simpa using nb1)).trans g1))
  have g2s : ((w2.setCell ⟨w.heap.size + 1, 3, none⟩ (.int .i64 SM)).setCell ⟨w.heap.size + 1, 4, none⟩ (.string zt)).cell? ⟨b, off + jm * 3 + 2, none⟩ = _ := ((World.cell?_setCell_far _ _ _ _ (by simpa using nb1)).trans ((World.cell?_setCell_far _ _ _ _ (by simpa using nb1)).trans g2))
  have hbs : b < ((w2.setCell ⟨w.heap.size + 1, 3, none⟩ (.int .i64 SM)).setCell ⟨w.heap.size + 1, 4, none⟩ (.string zt)).heap.size := by simpa using hb2
  clear g0 g1 g2
  go_wp2_with fail
  refine (HM.out _ HGS.out).mono ?_
  rintro e w5 ⟨rfl, hg⟩
  have hg5 : Gr w w5 := HGS.out.trans hg
  have HB5a := HB2.out.gr hg
  have HA5a := HA2.out.gr hg
  replace g0s := hg.keep g0s
  replace g1s := hg.keep g1s
  replace g2s := hg.keep g2s
  have hb5 : b < w5.heap.size := Nat.lt_of_lt_of_le hbs hg.size
  have HB5 := Lib.hid (HB5a.s6 (.int .i64 0))
  have HA5 := Lib.hid (HA5a.setFar ⟨w.heap.size + 1, 6, none⟩ (.int .i64 0) (by simp))
  obtain ⟨r0, r1, r2, r3, r4, r5, r6⟩ := HB5a.cells
  obtain ⟨k0, k1, k2, k3, k4, k5, k6⟩ := HB5a.frozens
  have rl := HB5a.lt
  obtain ⟨a0, a1, a2, a3, a4, a5, a6⟩ := HA5a.cells
  obtain ⟨af0, af1, af2, af3, af4, af5, af6⟩ := HA5a.frozens
  have al := HA5a.lt
  clear hg HB5a HA5a
  go_wp2
  refine bodyPost_ret (v := .tuple #[.agg #[.int .i64 0, .string ⟨#[]⟩, .int .i64 0, .int .i64 SM, .string zt, .int .i64 0, .int .i64 0], .int .i64 (jm : Int), .bool false]) (by simp [results, Tryz.results144, go_sem, *]) rfl ?_
  rw [HO.out]
  exact ⟨⟨0, ⟨#[]⟩, 0, SM, zt, 0, 0⟩, rfl, fun s h => (by cases h), (by (with_reducible repeat' (first | exact Gr.refl _ | refine Gr.set ?_ _ ?_ _ | refine Gr.alloc ?_ | refine Gr.drew ?_ | refine Gr.trans ?_ (by assumption))) <;> (first | (simp; done) | (simp; omega) | omega))⟩
 | some n =>
  simp only [optI, Option.isSome_some] at HM
  cases SB with
  | true =>
   have HO : Hid (OO = (jm + 1, some ⟨0, ⟨#[]⟩, 0, SM, zt, 0, n⟩)) := HFI.out
   clear HFI
   go_enter Tryz.func144, Tryz.ntmps144
   go_wp2_with fail
   refine (HK.out _).mono ?_
   rintro e w1 ⟨rfl, hg⟩
   have HA1 := Lib.hid (HA0.out.gr hg)
   have HB1 := Lib.hid (HB0.out.gr hg)
   have hg1 : Gr w w1 := (Gr.refl _).alloc.alloc.trans hg
   have hb1 : b < w1.heap.size := Nat.lt_of_lt_of_le hb hg1.size
   replace c0 := hg1.keep c0
   replace c1 := hg1.keep c1
   replace c2 := hg1.keep c2
   replace d0 := hg1.keep d0
   replace d1 := hg1.keep d1
   replace d2 := hg1.keep d2
   replace f0 := hg1.keep f0
   replace f1 := hg1.keep f1
   replace f2 := hg1.keep f2
   replace g0 := hg1.keep g0
   replace g1 := hg1.keep g1
   replace g2 := hg1.keep g2
   clear hg
   go_wp2_with fail
   refine (HS.out _).mono ?_
   rintro e w2 ⟨rfl, hg⟩
   have hg2 : Gr w w2 := hg1.trans hg
   have HB2a := HB1.out.gr hg
   have HA2a := HA1.out.gr hg
   replace f0 := hg.keep f0
   replace f1 := hg.keep f1
   replace f2 := hg.keep f2
   replace g0 := hg.keep g0
   replace g1 := hg.keep g1
   replace g2 := hg.keep g2
   have hb2 : b < w2.heap.size := Nat.lt_of_lt_of_le hb hg2.size
   have HB2 := Lib.hid ((HB2a.s3 (.int .i64 SM)).s4 (.string zt))
   have HA2 := Lib.hid ((HA2a.setFar ⟨w.heap.size + 1, 3, none⟩ (.int .i64 SM) (by simp)).setFar ⟨w.heap.size + 1, 4, none⟩ (.string zt) (by simp))
   obtain ⟨q0, q1, q2, q3, q4, q5, q6⟩ := HB2a.cells
   obtain ⟨p0, p1, p2, p3, p4, p5, p6⟩ := HB2a.frozens
   have ql := HB2a.lt
   have nb1 := HN.out.1
   have nb2 : ¬ b = w.heap.size + 1 := fun e => nb1 e.symm
   clear hg HB2a HA2a hg1 c0 c1 c2 d0 d1 d2
   have HGS : Hid (Gr w ((w2.setCell ⟨w.heap.size + 1, 3, none⟩ (.int .i64 SM)).setCell ⟨w.heap.size + 1, 4, none⟩ (.string zt))) := ((hg2.set ⟨w.heap.size + 1, 3, none⟩ (by simp) (.int .i64 SM)).set ⟨w.heap.size + 1, 4, none⟩ (by simp) (.string zt))
   have g0s : ((w2.setCell ⟨w.heap.size + 1, 3, none⟩ (.int .i64 SM)).setCell ⟨w.heap.size + 1, 4, none⟩ (.string zt)).cell? ⟨b, off + jm * 3, none⟩ = _ := ((World.cell?_setCell_far _ _ _ _ (by simpa using nb1)).trans ((World.cell?_setCell_far _ _ _ _ (by simpa using nb1)).trans g0))
   have g1s : ((w2.setCell ⟨w.heap.size + 1, 3, none⟩ (.int .i64 SM)).setCell ⟨w.heap.size + 1, 4, none⟩ (.string zt)).cell? ⟨b, off + jm * 3 + 1, none⟩ = _ := ((World.cell?_setCell_far _ _ _ _ (by simpa using nb1)).trans ((World.cell?_setCell_far _ _ _ _ (by simpa using nb1)).trans g1))
   have g2s : ((w2.setCell ⟨w.heap.size + 1, 3, none⟩ (.int .i64 SM)).setCell ⟨w.heap.size + 1, 4, none⟩ (.string zt)).cell? ⟨b, off + jm * 3 + 2, none⟩ = _ := ((World.cell?_setCell_far _ _ _ _ (by simpa using nb1)).trans ((World.cell?_setCell_far _ _ _ _ (by simpa using nb1)).trans g2))
   have hbs : b < ((w2.setCell ⟨w.heap.size + 1, 3, none⟩ (.int .i64 SM)).setCell ⟨w.heap.size + 1, 4, none⟩ (.string zt)).heap.size := by simpa using hb2
   clear g0 g1 g2
   go_wp2_with fail
   refine (HM.out _ HGS.out).mono ?_
   rintro e w5 ⟨rfl, hg⟩
   have hg5 : Gr w w5 := HGS.out.trans hg
   have HB5a := HB2.out.gr hg
   have HA5a := HA2.out.gr hg
   replace g0s := hg.keep g0s
   replace g1s := hg.keep g1s
   replace g2s := hg.keep g2s
   have hb5 : b < w5.heap.size := Nat.lt_of_lt_of_le hbs hg.size
   have HB5 := Lib.hid (HB5a.s6 (.int .i64 n))
   have HA5 := Lib.hid (HA5a.setFar ⟨w.heap.size + 1, 6, none⟩ (.int .i64 n) (by simp))
   obtain ⟨r0, r1, r2, r3, r4, r5, r6⟩ := HB5a.cells
   obtain ⟨k0, k1, k2, k3, k4, k5, k6⟩ := HB5a.frozens
   have rl := HB5a.lt
   clear hg HB5a HA5a
   go_wp2_with fail
   refine (HI.out _).mono ?_
   rintro e w6 ⟨rfl, hg⟩
   have hg6 : Gr w w6 := (hg5.set ⟨w.heap.size + 1, 6, none⟩ (by simp) (.int .i64 n)).trans hg
   obtain ⟨s0, s1, s2, s3, s4, s5, s6⟩ := (HB5.out.gr hg).cells
   have sl := (HB5.out.gr hg).lt
   obtain ⟨a0, a1, a2, a3, a4, a5, a6⟩ := (HA5.out.gr hg).cells
   obtain ⟨af0, af1, af2, af3, af4, af5, af6⟩ := (HA5.out.gr hg).frozens
   have al := (HA5.out.gr hg).lt
   clear hg hg5 r0 r1 r2 r3 r4 r5 r6 k0 k1 k2 k3 k4 k5 k6 rl
   go_wp2
   refine bodyPost_ret (v := .tuple #[.agg #[.int .i64 0, .string ⟨#[]⟩, .int .i64 0, .int .i64 SM, .string zt, .int .i64 0, .int .i64 n], .int .i64 ((jm : Int) + 1), .bool true]) (by simp [results, Tryz.results144, go_sem, *]) rfl ?_
   rw [HO.out]
   exact ⟨⟨0, ⟨#[]⟩, 0, SM, zt, 0, n⟩, rfl, fun s h => Option.some.inj h, (by (with_reducible repeat' (first | exact Gr.refl _ | refine Gr.set ?_ _ ?_ _ | refine Gr.alloc ?_ | refine Gr.drew ?_ | refine Gr.trans ?_ (by assumption))) <;> (first | (simp; done) | (simp; omega) | omega))⟩
  | false =>
   have HO : Hid (OO = (jm, none)) := HFI.out
   clear HFI
   go_enter Tryz.func144, Tryz.ntmps144
   go_wp2_with fail
   refine (HK.out _).mono ?_
   rintro e w1 ⟨rfl, hg⟩
   have HA1 := Lib.hid (HA0.out.gr hg)
   have HB1 := Lib.hid (HB0.out.gr hg)
   have hg1 : Gr w w1 := (Gr.refl _).alloc.alloc.trans hg
   have hb1 : b < w1.heap.size := Nat.lt_of_lt_of_le hb hg1.size
   replace c0 := hg1.keep c0
   replace c1 := hg1.keep c1
   replace c2 := hg1.keep c2
   replace d0 := hg1.keep d0
   replace d1 := hg1.keep d1
   replace d2 := hg1.keep d2
   replace f0 := hg1.keep f0
   replace f1 := hg1.keep f1
   replace f2 := hg1.keep f2
   replace g0 := hg1.keep g0
   replace g1 := hg1.keep g1
   replace g2 := hg1.keep g2
   clear hg
   go_wp2_with fail
   refine (HS.out _).mono ?_
   rintro e w2 ⟨rfl, hg⟩
   have hg2 : Gr w w2 := hg1.trans hg
   have HB2a := HB1.out.gr hg
   have HA2a := HA1.out.gr hg
   replace f0 := hg.keep f0
   replace f1 := hg.keep f1
   replace f2 := hg.keep f2
   replace g0 := hg.keep g0
   replace g1 := hg.keep g1
   replace g2 := hg.keep g2
   have hb2 : b < w2.heap.size := Nat.lt_of_lt_of_le hb hg2.size
   have HB2 := Lib.hid ((HB2a.s3 (.int .i64 SM)).s4 (.string zt))
   have HA2 := Lib.hid ((HA2a.setFar ⟨w.heap.size + 1, 3, none⟩ (.int .i64 SM) (by simp)).setFar ⟨w.heap.size + 1, 4, none⟩ (.string zt) (by simp))
   obtain ⟨q0, q1, q2, q3, q4, q5, q6⟩ := HB2a.cells
   obtain ⟨p0, p1, p2, p3, p4, p5, p6⟩ := HB2a.frozens
   have ql := HB2a.lt
   have nb1 := HN.out.1
   have nb2 : ¬ b = w.heap.size + 1 := fun e => nb1 e.symm
   clear hg HB2a HA2a hg1 c0 c1 c2 d0 d1 d2
   have HGS : Hid (Gr w ((w2.setCell ⟨w.heap.size + 1, 3, none⟩ (.int .i64 SM)).setCell ⟨w.heap.size + 1, 4, none⟩ (.string zt))) := ((hg2.set ⟨w.heap.size + 1, 3, none⟩ (by simp) (.int .i64 SM)).set ⟨w.heap.size + 1, 4, none⟩ (by simp) (.string zt))
   have g0s : ((w2.setCell ⟨w.heap.size + 1, 3, none⟩ (.int .i64 SM)).setCell ⟨w.heap.size + 1, 4, none⟩ (.string zt)).cell? ⟨b, off + jm * 3, none⟩ = _ := ((World.cell?_setCell_far _ _ _ _ (by simpa using nb1)).trans ((World.cell?_setCell_far _ _ _ _ (by simpa using nb1)).trans g0))
   have g1s : ((w2.setCell ⟨w.heap.size + 1, 3, none⟩ (.int .i64 SM)).setCell ⟨w.heap.size + 1, 4, none⟩ (.string zt)).cell? ⟨b, off + jm * 3 + 1, none⟩ = _ := ((World.cell?_setCell_far _ _ _ _ (by simpa using nb1)).trans ((World.cell?_setCell_far _ _ _ _ (by simpa using nb1)).trans g1))
   have g2s : ((w2.setCell ⟨w.heap.size + 1, 3, none⟩ (.int .i64 SM)).setCell ⟨w.heap.size + 1, 4, none⟩ (.string zt)).cell? ⟨b, off + jm * 3 + 2, none⟩ = _ := ((World.cell?_setCell_far _ _ _ _ (by simpa using nb1)).trans ((World.cell?_setCell_far _ _ _ _ (by simpa using nb1)).trans g2))
   have hbs : b < ((w2.setCell ⟨w.heap.size + 1, 3, none⟩ (.int .i64 SM)).setCell ⟨w.heap.size + 1, 4, none⟩ (.string zt)).heap.size := by simpa using hb2
   clear g0 g1 g2
   go_wp2_with fail
   refine (HM.out _ HGS.out).mono ?_
   rintro e w5 ⟨rfl, hg⟩
   have hg5 : Gr w w5 := HGS.out.trans hg
   have HB5a := HB2.out.gr hg
   have HA5a := HA2.out.gr hg
   replace g0s := hg.keep g0s
   replace g1s := hg.keep g1s
   replace g2s := hg.keep g2s
   have hb5 : b < w5.heap.size := Nat.lt_of_lt_of_le hbs hg.size
   have HB5 := Lib.hid (HB5a.s6 (.int .i64 n))
   have HA5 := Lib.hid (HA5a.setFar ⟨w.heap.size + 1, 6, none⟩ (.int .i64 n) (by simp))
   obtain ⟨r0, r1, r2, r3, r4, r5, r6⟩ := HB5a.cells
   obtain ⟨k0, k1, k2, k3, k4, k5, k6⟩ := HB5a.frozens
   have rl := HB5a.lt
   clear hg HB5a HA5a
   go_wp2_with fail
   refine (HI.out _).mono ?_
   rintro e w6 ⟨rfl, hg⟩
   have hg6 : Gr w w6 := (hg5.set ⟨w.heap.size + 1, 6, none⟩ (by simp) (.int .i64 n)).trans hg
   obtain ⟨s0, s1, s2, s3, s4, s5, s6⟩ := (HB5.out.gr hg).cells
   have sl := (HB5.out.gr hg).lt
   obtain ⟨a0, a1, a2, a3, a4, a5, a6⟩ := (HA5.out.gr hg).cells
   obtain ⟨af0, af1, af2, af3, af4, af5, af6⟩ := (HA5.out.gr hg).frozens
   have al := (HA5.out.gr hg).lt
   clear hg hg5 r0 r1 r2 r3 r4 r5 r6 k0 k1 k2 k3 k4 k5 k6 rl
   go_wp2
   refine bodyPost_ret (v := .tuple #[.agg #[.int .i64 0, .string ⟨#[]⟩, .int .i64 0, .int .i64 SM, .string zt, .int .i64 0, .int .i64 n], .int .i64 (jm : Int), .bool false]) (by simp [results, Tryz.results144, go_sem, *]) rfl ?_
   rw [HO.out]
   exact ⟨⟨0, ⟨#[]⟩, 0, SM, zt, 0, n⟩, rfl, fun s h => (by cases h), (by (with_reducible repeat' (first | exact Gr.refl _ | refine Gr.set ?_ _ ?_ _ | refine Gr.alloc ?_ | refine Gr.drew ?_ | refine Gr.trans ?_ (by assumption))) <;> (first | (simp; done) | (simp; omega) | omega))⟩

theorem refOneD3 (T : List Tok) (ad : Option Addr) (cap : Nat) (i : Nat) (w : World) (hT : ToksAt w ad T) (hG : Gd T) (hi : i < T.length) (hn : T.length <= 5000) (h0 : (tk T i).k = 1) (h1 : kw (tk T i).t ≠ 0) (h3 : (tk T (i + 1)).k = 1) (h4 : (tk T (i + 2)).k = 2) :
  Calls Tryz.prog 144 #[.slice ad T.length cap, .int .i64 (i : Int)] w fun e w' => OnR w (one T i) e w' := by
 have HA0 : Hid (AccAt ((w.alloc (.cells #[.int .i64 0, .string ⟨#[]⟩, .int .i64 0, .int .i64 0, .string ⟨#[]⟩, .int .i64 0, .int .i64 0] 94)).alloc (.cells #[.int .i64 0, .string ⟨#[]⟩, .int .i64 0, .int .i64 0, .string ⟨#[]⟩, .int .i64 0, .int .i64 0] 94)) w.heap.size (.int .i64 0) (.string ⟨#[]⟩) (.int .i64 0) (.int .i64 0) (.string ⟨#[]⟩) (.int .i64 0) (.int .i64 0)) := (AccAt.new w (.int .i64 0) (.string ⟨#[]⟩) (.int .i64 0) (.int .i64 0) (.string ⟨#[]⟩) (.int .i64 0) (.int .i64 0) 94 _ rfl).gr (Gr.refl _).alloc
 have HB0 : Hid (AccAt ((w.alloc (.cells #[.int .i64 0, .string ⟨#[]⟩, .int .i64 0, .int .i64 0, .string ⟨#[]⟩, .int .i64 0, .int .i64 0] 94)).alloc (.cells #[.int .i64 0, .string ⟨#[]⟩, .int .i64 0, .int .i64 0, .string ⟨#[]⟩, .int .i64 0, .int .i64 0] 94)) (w.heap.size + 1) (.int .i64 0) (.string ⟨#[]⟩) (.int .i64 0) (.int .i64 0) (.string ⟨#[]⟩) (.int .i64 0) (.int .i64 0)) := AccAt.new _ (.int .i64 0) (.string ⟨#[]⟩) (.int .i64 0) (.int .i64 0) (.string ⟨#[]⟩) (.int .i64 0) (.int .i64 0) 94 _ (by simp)
 have HK : Hid (∀ w', Calls Tryz.prog 162 #[.string (tk T i).t] w' fun e w2 => e = .returned (.int .i64 (kw (tk T i).t)) /\ Gr w' w2) := fun w' => refKind_any _ w'
 obtain ⟨b, off, rfl, hb, c0, c1, c2⟩ := hT i hi
 rw [<- Df.tk_get T i hi] at c0 c1 c2
 have hn1 := hG.next (i := i) (by rw [h0]; decide)
 have hn2 := hG.next (i := i + 1) (by rw [h3]; decide)
 have hn3 := hG.next (i := i + 2) (by rw [h4]; decide)
 obtain ⟨b1', off1', e1', _, d0, d1, d2⟩ := hT (i + 1) hn1
 cases e1'
 rw [<- Df.tk_get T (i + 1) hn1] at d0 d1 d2
 obtain ⟨b2', off2', e2', _, f0, f1, f2⟩ := hT (i + 2) hn2
 cases e2'
 rw [<- Df.tk_get T (i + 2) hn2] at f0 f1 f2
 have HO0 : one T i = fin T (opt T (i + 3) Df.wTries 1) (fun n => ⟨kw (tk T i).t, (tk T (i + 1)).t, valE 2 (tk T (i + 2)).t, 0, ⟨#[]⟩, n, 0⟩) := by
  unfold Df.one
  rw [if_neg (fun e => h1 (by rw [((Df.isT_iff _ _ _).1 e).2]; exact Df.kw_ask)), if_pos ⟨h0, h1⟩, if_pos h3, if_pos h4]
 have hol := Df.opt_le hG (i + 3) Df.wTries 1 hn3
 have HM : Hid (∀ w', Gr w w' -> Calls Tryz.prog 164 #[.slice (some ⟨b, off, none⟩) T.length cap, .int .i64 ((i : Int) + 3), .string ⟨#[116, 114, 105, 101, 115]⟩, .int .i64 1] w' fun e w2 => e = .returned (.tuple #[.int .i64 (optI (opt T (i + 3) Df.wTries 1).2), .int .i64 ((opt T (i + 3) Df.wTries 1).1 : Int), .bool (opt T (i + 3) Df.wTries 1).2.isSome]) /\ Gr w' w2) := fun w' g => refMaybe_any T (some ⟨b, off, none⟩) cap (i + 3) Df.wTries 1 w' (hT.gr g) hG hn3 hn
 have HI : Hid (∀ w', Calls Tryz.prog 142 #[.agg #[.int .i64 (tk T (opt T (i + 3) Df.wTries 1).1).k, .string (tk T (opt T (i + 3) Df.wTries 1).1).t, .int .i64 (tk T (opt T (i + 3) Df.wTries 1).1).p], .int .i64 3, .string ⟨#[59]⟩] w' fun e w2 => e = .returned (.bool (isT (tk T (opt T (i + 3) Df.wTries 1).1) 3 Df.gSemi)) /\ Gr w' w2) := fun w' => refIs_any _ 3 Df.gSemi w'
 have HFI : Hid (fin T (opt T (i + 3) Df.wTries 1) (fun n => ⟨kw (tk T i).t, (tk T (i + 1)).t, valE 2 (tk T (i + 2)).t, 0, ⟨#[]⟩, n, 0⟩) = match (opt T (i + 3) Df.wTries 1).2 with
  | none => ((opt T (i + 3) Df.wTries 1).1, none)
  | some n => if isT (tk T (opt T (i + 3) Df.wTries 1).1) 3 Df.gSemi = true then ((opt T (i + 3) Df.wTries 1).1 + 1, some ((fun n => ⟨kw (tk T i).t, (tk T (i + 1)).t, valE 2 (tk T (i + 2)).t, 0, ⟨#[]⟩, n, 0⟩) n)) else ((opt T (i + 3) Df.wTries 1).1, none)) := rfl
 rw [<- HO0] at HFI
 obtain ⟨bm', offm', em', _, g0, g1, g2⟩ := hT (opt T (i + 3) Df.wTries 1).1 hol.2
 cases em'
 rw [<- Df.tk_get T _ hol.2] at g0 g1 g2
 have hjl := hol.2
 generalize opt T (i + 3) Df.wTries 1 = OP at *
 obtain ⟨jm, om⟩ := OP
 simp only at *
 generalize isT (tk T jm) 3 Df.gSemi = SB at *
 generalize tk T jm = v at *
 obtain ⟨vk, vt, vp⟩ := v
 have e1 : ((tk T i).k != 1) = false := by simpa using h0
 have ht := text_eq (tk T i).t [97, 115, 107]
 have hna : ¬ (tk T i).t = Df.wAsk := fun e => h1 (by rw [e]; exact Df.kw_ask)
 rw [decide_eq_false (show ¬ (tk T i).t = ⟨[97, 115, 107].toArray⟩ from hna)] at ht
 have e2 : (kw (tk T i).t == 0) = false := by simpa using h1
 have e3 : ((tk T (i + 1)).k != 1) = false := by simpa using h3
 have e4 : ((tk T (i + 2)).k != 2) = false := by simpa using h4
 have HS : Hid (∀ w', Calls Tryz.prog 165 #[.agg #[.int .i64 (tk T (i + 2)).k, .string (tk T (i + 2)).t, .int .i64 (tk T (i + 2)).p]] w' fun e w2 => e = .returned (.tuple #[.int .i64 (valE 2 (tk T (i + 2)).t), .bool (valB (tk T (i + 2)).k (tk T (i + 2)).t)]) /\ Gr w' w2) := fun w' => by
  have := refValue_any (tk T (i + 2)).k (tk T (i + 2)).t (tk T (i + 2)).p w' (by have := hG.size (i + 2); omega)
  rw [show valE (tk T (i + 2)).k (tk T (i + 2)).t = valE 2 (tk T (i + 2)).t by rw [h4]] at this
  exact this
 generalize one T i = OO at *
 generalize valE 2 (tk T (i + 2)).t = VE at *
 generalize valB (tk T (i + 2)).k (tk T (i + 2)).t = VB at *
 generalize kw (tk T i).t = KW at *
 generalize tk T i = x at *
 obtain ⟨xk, xt, xp⟩ := x
 generalize tk T (i + 1) = y at *
 obtain ⟨yk, yt, yp⟩ := y
 generalize tk T (i + 2) = z at *
 obtain ⟨zk, zt, zp⟩ := z
 simp only at *
 have HN : Hid (w.heap.size + 1 ≠ b /\ w.heap.size ≠ b) := ⟨by omega, by omega⟩
 clear h0 hT hG HO0 hol h1 h3 h4 hna
 cases om with
 | none =>
  have HO : Hid (OO = (jm, none)) := HFI.out
  clear HFI
  simp only [optI, Option.isSome_none] at HM
  go_enter Tryz.func144, Tryz.ntmps144
  go_wp2_with fail
  refine (HK.out _).mono ?_
  rintro e w1 ⟨rfl, hg⟩
  have HA1 := Lib.hid (HA0.out.gr hg)
  have HB1 := Lib.hid (HB0.out.gr hg)
  have hg1 : Gr w w1 := (Gr.refl _).alloc.alloc.trans hg
  have hb1 : b < w1.heap.size := Nat.lt_of_lt_of_le hb hg1.size
  replace c0 := hg1.keep c0
  replace c1 := hg1.keep c1
  replace c2 := hg1.keep c2
  replace d0 := hg1.keep d0
  replace d1 := hg1.keep d1
  replace d2 := hg1.keep d2
  replace f0 := hg1.keep f0
  replace f1 := hg1.keep f1
  replace f2 := hg1.keep f2
  replace g0 := hg1.keep g0
  replace g1 := hg1.keep g1
  replace g2 := hg1.keep g2
  clear hg
  go_wp2_with fail
  refine (HS.out _).mono ?_
  rintro e w2 ⟨rfl, hg⟩
  have hg2 : Gr w w2 := hg1.trans hg
  have HB2 := Lib.hid (HB1.out.gr hg)
  have HA2 := Lib.hid (HA1.out.gr hg)
  replace c0 := hg.keep c0
  replace c1 := hg.keep c1
  replace c2 := hg.keep c2
  replace d0 := hg.keep d0
  replace d1 := hg.keep d1
  replace d2 := hg.keep d2
  replace f0 := hg.keep f0
  replace f1 := hg.keep f1
  replace f2 := hg.keep f2
  replace g0 := hg.keep g0
  replace g1 := hg.keep g1
  replace g2 := hg.keep g2
  have hb2 : b < w2.heap.size := Nat.lt_of_lt_of_le hb hg2.size
  have nb1 := HN.out.1
  have nb2 : ¬ b = w.heap.size + 1 := fun e => nb1 e.symm
  clear hg hg1
  obtain ⟨j1, hj1⟩ : ∃ j1, j1 = i + 1 := ⟨_, rfl⟩
  have hk : w2.cell? ⟨b, off + i * 3 + 1, none⟩ = some (.string xt) /\ w2.cell? ⟨b, off + j1 * 3 + 1, none⟩ = some (.string yt) := ⟨c1, by rw [hj1]; exact d1⟩
  have hw1 : IntKind.i64.wrap ((i : Int) + 1) = (j1 : Int) := by rw [IntKind.wrap_i64]; omega
  have hlj : (j1 : Int) < (T.length : Int) := by omega
  clear hj1
  go_upto_region 22 with fail
  refine wp_region_held_drew (S := (fun w' => w'.cell? ⟨b, off + i * 3 + 1, none⟩ = some (.string xt) /\ w'.cell? ⟨b, off + j1 * 3 + 1, none⟩ = some (.string yt))) (by kernel_rfl) (by first | with_reducible exact keep2s hk3 _ nb1 nb1 _ _ _ | with_reducible exact keep2 hk (by (with_reducible repeat' (first | exact Gr.refl _ | refine Gr.set ?_ _ ?_ _ | refine Gr.alloc ?_ | refine Gr.drew ?_ | refine Gr.trans ?_ (by assumption))) <;> (first | (simp; done) | (simp; omega) | omega))) (fun hHeld => ?_)
  refine ty 0 113 hHeld ?_
  refine ty 1 114 hHeld ?_
  refine ty 2 115 hHeld ?_
  refine ty 3 116 hHeld ?_
  refine ty 4 117 hHeld ?_
  refine ty 6 119 hHeld ?_
  refine ty 7 120 hHeld ?_
  refine ty 8 121 hHeld ?_
  refine ty 9 122 hHeld ?_
  refine ty 10 123 hHeld ?_
  refine ty 11 124 hHeld ?_
  refine ty 12 125 hHeld ?_
  refine wpAnyH_ready (rs := [5]) (by kernel_rfl) (by simp) (AllReadyH.cons rfl (fun K hK => ?_) AllReadyH.nil)
  go_simp
  refine (HK.out _).mono ?_; rintro e w3 ⟨rfl, hgk⟩
  (try go_wp2_with fail)
  refine hK.out _ _ (by first | with_reducible exact keep2s hk3 _ nb1 nb1 _ _ _ | with_reducible exact keep2 hk (by (with_reducible repeat' (first | exact Gr.refl _ | refine Gr.set ?_ _ ?_ _ | refine Gr.alloc ?_ | refine Gr.drew ?_ | refine Gr.trans ?_ (by assumption))) <;> (first | (simp; done) | (simp; omega) | omega))) (fun hHeldN => ?_)
  clear hHeld hK K
  have hHeld := hHeldN
  clear hHeldN
  refine ty 13 126 hHeld ?_
  refine ty 14 127 hHeld ?_
  have hg3 : Gr w2 w3 := (Gr.refl _).drew.trans hgk
  have hk3 := keep2 hk hg3
  have HB3a := HB2.out.gr hg3
  have HA3a := HA2.out.gr hg3
  obtain ⟨q0, q1, q2, q3, q4, q5, q6⟩ := HB3a.cells
  obtain ⟨p0, p1, p2, p3, p4, p5, p6⟩ := HB3a.frozens
  have ql := HB3a.lt
  refine wpAnyH_ready (rs := [15]) (by kernel_rfl) (by simp) (AllReadyH.cons rfl (fun K hK => ?_) AllReadyH.nil)
  go_simp
  refine hK.out _ _ (by first | with_reducible exact keep2s hk3 _ nb1 nb1 _ _ _ | with_reducible exact keep2 hk (by (with_reducible repeat' (first | exact Gr.refl _ | refine Gr.set ?_ _ ?_ _ | refine Gr.alloc ?_ | refine Gr.drew ?_ | refine Gr.trans ?_ (by assumption))) <;> (first | (simp; done) | (simp; omega) | omega))) (fun hHeldN => ?_)
  clear hHeld hK K
  have hHeld := hHeldN
  clear hHeldN
  refine wpAnyH_done (by kernel_rfl) ?_ _
  replace g0 := hg3.keep g0
  replace g1 := hg3.keep g1
  replace g2 := hg3.keep g2
  have hb3 : b < w3.heap.size := Nat.lt_of_lt_of_le hb2 hg3.size
  have hg4 : Gr w w3 := hg2.trans hg3
  have HB4 := Lib.hid (((HB3a.s0 (.int .i64 KW)).s1 (.string yt)).s2 (.int .i64 VE))
  have HA4 := Lib.hid (((HA3a.setFar ⟨w.heap.size + 1, 0, none⟩ (.int .i64 KW) (by simp)).setFar ⟨w.heap.size + 1, 1, none⟩ (.string yt) (by simp)).setFar ⟨w.heap.size + 1, 2, none⟩ (.int .i64 VE) (by simp))
  clear hgk HB3a HA3a hk hk3 c0 c1 c2 d0 d1 d2 f0 f1 f2 HA2 HB2 hHeld
  have HAf := HA4
  have HBf := HB4
  have HGS : Hid (Gr w (((w3.setCell ⟨w.heap.size + 1, 0, none⟩ (.int .i64 KW)).setCell ⟨w.heap.size + 1, 1, none⟩ (.string yt)).setCell ⟨w.heap.size + 1, 2, none⟩ (.int .i64 VE))) := (((hg4.set ⟨w.heap.size + 1, 0, none⟩ (by simp) (.int .i64 KW)).set ⟨w.heap.size + 1, 1, none⟩ (by simp) (.string yt)).set ⟨w.heap.size + 1, 2, none⟩ (by simp) (.int .i64 VE))
  have g0s : (((w3.setCell ⟨w.heap.size + 1, 0, none⟩ (.int .i64 KW)).setCell ⟨w.heap.size + 1, 1, none⟩ (.string yt)).setCell ⟨w.heap.size + 1, 2, none⟩ (.int .i64 VE)).cell? ⟨b, off + jm * 3, none⟩ = _ := ((World.cell?_setCell_far _ _ _ _ (by simpa using nb1)).trans ((World.cell?_setCell_far _ _ _ _ (by simpa using nb1)).trans ((World.cell?_setCell_far _ _ _ _ (by simpa using nb1)).trans g0)))
  have g1s : (((w3.setCell ⟨w.heap.size + 1, 0, none⟩ (.int .i64 KW)).setCell ⟨w.heap.size + 1, 1, none⟩ (.string yt)).setCell ⟨w.heap.size + 1, 2, none⟩ (.int .i64 VE)).cell? ⟨b, off + jm * 3 + 1, none⟩ = _ := ((World.cell?_setCell_far _ _ _ _ (by simpa using nb1)).trans ((World.cell?_setCell_far _ _ _ _ (by simpa using nb1)).trans ((World.cell?_setCell_far _ _ _ _ (by simpa using nb1)).trans g1)))
  have g2s : (((w3.setCell ⟨w.heap.size + 1, 0, none⟩ (.int .i64 KW)).setCell ⟨w.heap.size + 1, 1, none⟩ (.string yt)).setCell ⟨w.heap.size + 1, 2, none⟩ (.int .i64 VE)).cell? ⟨b, off + jm * 3 + 2, none⟩ = _ := ((World.cell?_setCell_far _ _ _ _ (by simpa using nb1)).trans ((World.cell?_setCell_far _ _ _ _ (by simpa using nb1)).trans ((World.cell?_setCell_far _ _ _ _ (by simpa using nb1)).trans g2)))
  have hbs : b < (((w3.setCell ⟨w.heap.size + 1, 0, none⟩ (.int .i64 KW)).setCell ⟨w.heap.size + 1, 1, none⟩ (.string yt)).setCell ⟨w.heap.size + 1, 2, none⟩ (.int .i64 VE)).heap.size := by simpa using hb3
  clear g0 g1 g2
  go_wp2_with fail
  refine (HM.out _ HGS.out).mono ?_
  rintro e w5 ⟨rfl, hg⟩
  have hg5 : Gr w w5 := HGS.out.trans hg
  have HB5a := HBf.out.gr hg
  have HA5a := HAf.out.gr hg
  replace g0s := hg.keep g0s
  replace g1s := hg.keep g1s
  replace g2s := hg.keep g2s
  have hb5 : b < w5.heap.size := Nat.lt_of_lt_of_le hbs hg.size
  have HB5 := Lib.hid (HB5a.s5 (.int .i64 0))
  have HA5 := Lib.hid (HA5a.setFar ⟨w.heap.size + 1, 5, none⟩ (.int .i64 0) (by simp))
  obtain ⟨r0, r1, r2, r3, r4, r5, r6⟩ := HB5a.cells
  obtain ⟨k0, k1, k2, k3, k4, k5, k6⟩ := HB5a.frozens
  have rl := HB5a.lt
  obtain ⟨a0, a1, a2, a3, a4, a5, a6⟩ := HA5a.cells
  obtain ⟨af0, af1, af2, af3, af4, af5, af6⟩ := HA5a.frozens
  have al := HA5a.lt
  clear hg HB5a HA5a
  go_wp2
  refine bodyPost_ret (v := .tuple #[.agg #[.int .i64 KW, .string yt, .int .i64 VE, .int .i64 0, .string ⟨#[]⟩, .int .i64 0, .int .i64 0], .int .i64 (jm : Int), .bool false]) (by simp [results, Tryz.results144, go_sem, *]) rfl ?_
  rw [HO.out]
  exact ⟨⟨KW, yt, VE, 0, ⟨#[]⟩, 0, 0⟩, rfl, fun s h => (by cases h), (by (with_reducible repeat' (first | exact Gr.refl _ | refine Gr.set ?_ _ ?_ _ | refine Gr.alloc ?_ | refine Gr.drew ?_ | refine Gr.trans ?_ (by assumption))) <;> (first | (simp; done) | (simp; omega) | omega))⟩
 | some n =>
  simp only [optI, Option.isSome_some] at HM
  cases SB with
  | true =>
   have HO : Hid (OO = (jm + 1, some ⟨KW, yt, VE, 0, ⟨#[]⟩, n, 0⟩)) := HFI.out
   clear HFI
   go_enter Tryz.func144, Tryz.ntmps144
   go_wp2_with fail
   refine (HK.out _).mono ?_
   rintro e w1 ⟨rfl, hg⟩
   have HA1 := Lib.hid (HA0.out.gr hg)
   have HB1 := Lib.hid (HB0.out.gr hg)
   have hg1 : Gr w w1 := (Gr.refl _).alloc.alloc.trans hg
   have hb1 : b < w1.heap.size := Nat.lt_of_lt_of_le hb hg1.size
   replace c0 := hg1.keep c0
   replace c1 := hg1.keep c1
   replace c2 := hg1.keep c2
   replace d0 := hg1.keep d0
   replace d1 := hg1.keep d1
   replace d2 := hg1.keep d2
   replace f0 := hg1.keep f0
   replace f1 := hg1.keep f1
   replace f2 := hg1.keep f2
   replace g0 := hg1.keep g0
   replace g1 := hg1.keep g1
   replace g2 := hg1.keep g2
   clear hg
   go_wp2_with fail
   refine (HS.out _).mono ?_
   rintro e w2 ⟨rfl, hg⟩
   have hg2 : Gr w w2 := hg1.trans hg
   have HB2 := Lib.hid (HB1.out.gr hg)
   have HA2 := Lib.hid (HA1.out.gr hg)
   replace c0 := hg.keep c0
   replace c1 := hg.keep c1
   replace c2 := hg.keep c2
   replace d0 := hg.keep d0
   replace d1 := hg.keep d1
   replace d2 := hg.keep d2
   replace f0 := hg.keep f0
   replace f1 := hg.keep f1
   replace f2 := hg.keep f2
   replace g0 := hg.keep g0
   replace g1 := hg.keep g1
   replace g2 := hg.keep g2
   have hb2 : b < w2.heap.size := Nat.lt_of_lt_of_le hb hg2.size
   have nb1 := HN.out.1
   have nb2 : ¬ b = w.heap.size + 1 := fun e => nb1 e.symm
   clear hg hg1
   obtain ⟨j1, hj1⟩ : ∃ j1, j1 = i + 1 := ⟨_, rfl⟩
   have hk : w2.cell? ⟨b, off + i * 3 + 1, none⟩ = some (.string xt) /\ w2.cell? ⟨b, off + j1 * 3 + 1, none⟩ = some (.string yt) := ⟨c1, by rw [hj1]; exact d1⟩
   have hw1 : IntKind.i64.wrap ((i : Int) + 1) = (j1 : Int) := by rw [IntKind.wrap_i64]; omega
   have hlj : (j1 : Int) < (T.length : Int) := by omega
   clear hj1
   go_upto_region 22 with fail
   refine wp_region_held_drew (S := (fun w' => w'.cell? ⟨b, off + i * 3 + 1, none⟩ = some (.string xt) /\ w'.cell? ⟨b, off + j1 * 3 + 1, none⟩ = some (.string yt))) (by kernel_rfl) (by first | with_reducible exact keep2s hk3 _ nb1 nb1 _ _ _ | with_reducible exact keep2 hk (by (with_reducible repeat' (first | exact Gr.refl _ | refine Gr.set ?_ _ ?_ _ | refine Gr.alloc ?_ | refine Gr.drew ?_ | refine Gr.trans ?_ (by assumption))) <;> (first | (simp; done) | (simp; omega) | omega))) (fun hHeld => ?_)
   refine ty 0 113 hHeld ?_
   refine ty 1 114 hHeld ?_
   refine ty 2 115 hHeld ?_
   refine ty 3 116 hHeld ?_
   refine ty 4 117 hHeld ?_
   refine ty 6 119 hHeld ?_
   refine ty 7 120 hHeld ?_
   refine ty 8 121 hHeld ?_
   refine ty 9 122 hHeld ?_
   refine ty 10 123 hHeld ?_
   refine ty 11 124 hHeld ?_
   refine ty 12 125 hHeld ?_
   refine wpAnyH_ready (rs := [5]) (by kernel_rfl) (by simp) (AllReadyH.cons rfl (fun K hK => ?_) AllReadyH.nil)
   go_simp
   refine (HK.out _).mono ?_; rintro e w3 ⟨rfl, hgk⟩
   (try go_wp2_with fail)
   refine hK.out _ _ (by first | with_reducible exact keep2s hk3 _ nb1 nb1 _ _ _ | with_reducible exact keep2 hk (by (with_reducible repeat' (first | exact Gr.refl _ | refine Gr.set ?_ _ ?_ _ | refine Gr.alloc ?_ | refine Gr.drew ?_ | refine Gr.trans ?_ (by assumption))) <;> (first | (simp; done) | (simp; omega) | omega))) (fun hHeldN => ?_)
   clear hHeld hK K
   have hHeld := hHeldN
   clear hHeldN
   refine ty 13 126 hHeld ?_
   refine ty 14 127 hHeld ?_
   have hg3 : Gr w2 w3 := (Gr.refl _).drew.trans hgk
   have hk3 := keep2 hk hg3
   have HB3a := HB2.out.gr hg3
   have HA3a := HA2.out.gr hg3
   obtain ⟨q0, q1, q2, q3, q4, q5, q6⟩ := HB3a.cells
   obtain ⟨p0, p1, p2, p3, p4, p5, p6⟩ := HB3a.frozens
   have ql := HB3a.lt
   refine wpAnyH_ready (rs := [15]) (by kernel_rfl) (by simp) (AllReadyH.cons rfl (fun K hK => ?_) AllReadyH.nil)
   go_simp
   refine hK.out _ _ (by first | with_reducible exact keep2s hk3 _ nb1 nb1 _ _ _ | with_reducible exact keep2 hk (by (with_reducible repeat' (first | exact Gr.refl _ | refine Gr.set ?_ _ ?_ _ | refine Gr.alloc ?_ | refine Gr.drew ?_ | refine Gr.trans ?_ (by assumption))) <;> (first | (simp; done) | (simp; omega) | omega))) (fun hHeldN => ?_)
   clear hHeld hK K
   have hHeld := hHeldN
   clear hHeldN
   refine wpAnyH_done (by kernel_rfl) ?_ _
   replace g0 := hg3.keep g0
   replace g1 := hg3.keep g1
   replace g2 := hg3.keep g2
   have hb3 : b < w3.heap.size := Nat.lt_of_lt_of_le hb2 hg3.size
   have hg4 : Gr w w3 := hg2.trans hg3
   have HB4 := Lib.hid (((HB3a.s0 (.int .i64 KW)).s1 (.string yt)).s2 (.int .i64 VE))
   have HA4 := Lib.hid (((HA3a.setFar ⟨w.heap.size + 1, 0, none⟩ (.int .i64 KW) (by simp)).setFar ⟨w.heap.size + 1, 1, none⟩ (.string yt) (by simp)).setFar ⟨w.heap.size + 1, 2, none⟩ (.int .i64 VE) (by simp))
   clear hgk HB3a HA3a hk hk3 c0 c1 c2 d0 d1 d2 f0 f1 f2 HA2 HB2 hHeld
   have HAf := HA4
   have HBf := HB4
   have HGS : Hid (Gr w (((w3.setCell ⟨w.heap.size + 1, 0, none⟩ (.int .i64 KW)).setCell ⟨w.heap.size + 1, 1, none⟩ (.string yt)).setCell ⟨w.heap.size + 1, 2, none⟩ (.int .i64 VE))) := (((hg4.set ⟨w.heap.size + 1, 0, none⟩ (by simp) (.int .i64 KW)).set ⟨w.heap.size + 1, 1, none⟩ (by simp) (.string yt)).set ⟨w.heap.size + 1, 2, none⟩ (by simp) (.int .i64 VE))
   have g0s : (((w3.setCell ⟨w.heap.size + 1, 0, none⟩ (.int .i64 KW)).setCell ⟨w.heap.size + 1, 1, none⟩ (.string yt)).setCell ⟨w.heap.size + 1, 2, none⟩ (.int .i64 VE)).cell? ⟨b, off + jm * 3, none⟩ = _ := ((World.cell?_setCell_far _ _ _ _ (by simpa using nb1)).trans ((World.cell?_setCell_far _ _ _ _ (by simpa using nb1)).trans ((World.cell?_setCell_far _ _ _ _ (by simpa using nb1)).trans g0)))
   have g1s : (((w3.setCell ⟨w.heap.size + 1, 0, none⟩ (.int .i64 KW)).setCell ⟨w.heap.size + 1, 1, none⟩ (.string yt)).setCell ⟨w.heap.size + 1, 2, none⟩ (.int .i64 VE)).cell? ⟨b, off + jm * 3 + 1, none⟩ = _ := ((World.cell?_setCell_far _ _ _ _ (by simpa using nb1)).trans ((World.cell?_setCell_far _ _ _ _ (by simpa using nb1)).trans ((World.cell?_setCell_far _ _ _ _ (by simpa using nb1)).trans g1)))
   have g2s : (((w3.setCell ⟨w.heap.size + 1, 0, none⟩ (.int .i64 KW)).setCell ⟨w.heap.size + 1, 1, none⟩ (.string yt)).setCell ⟨w.heap.size + 1, 2, none⟩ (.int .i64 VE)).cell? ⟨b, off + jm * 3 + 2, none⟩ = _ := ((World.cell?_setCell_far _ _ _ _ (by simpa using nb1)).trans ((World.cell?_setCell_far _ _ _ _ (by simpa using nb1)).trans ((World.cell?_setCell_far _ _ _ _ (by simpa using nb1)).trans g2)))
   have hbs : b < (((w3.setCell ⟨w.heap.size + 1, 0, none⟩ (.int .i64 KW)).setCell ⟨w.heap.size + 1, 1, none⟩ (.string yt)).setCell ⟨w.heap.size + 1, 2, none⟩ (.int .i64 VE)).heap.size := by simpa using hb3
   clear g0 g1 g2
   go_wp2_with fail
   refine (HM.out _ HGS.out).mono ?_
   rintro e w5 ⟨rfl, hg⟩
   have hg5 : Gr w w5 := HGS.out.trans hg
   have HB5a := HBf.out.gr hg
   have HA5a := HAf.out.gr hg
   replace g0s := hg.keep g0s
   replace g1s := hg.keep g1s
   replace g2s := hg.keep g2s
   have hb5 : b < w5.heap.size := Nat.lt_of_lt_of_le hbs hg.size
   have HB5 := Lib.hid (HB5a.s5 (.int .i64 n))
   have HA5 := Lib.hid (HA5a.setFar ⟨w.heap.size + 1, 5, none⟩ (.int .i64 n) (by simp))
   obtain ⟨r0, r1, r2, r3, r4, r5, r6⟩ := HB5a.cells
   obtain ⟨k0, k1, k2, k3, k4, k5, k6⟩ := HB5a.frozens
   have rl := HB5a.lt
   clear hg HB5a HA5a
   go_wp2_with fail
   refine (HI.out _).mono ?_
   rintro e w6 ⟨rfl, hg⟩
   have hg6 : Gr w w6 := (hg5.set ⟨w.heap.size + 1, 5, none⟩ (by simp) (.int .i64 n)).trans hg
   obtain ⟨s0, s1, s2, s3, s4, s5, s6⟩ := (HB5.out.gr hg).cells
   have sl := (HB5.out.gr hg).lt
   obtain ⟨a0, a1, a2, a3, a4, a5, a6⟩ := (HA5.out.gr hg).cells
   obtain ⟨af0, af1, af2, af3, af4, af5, af6⟩ := (HA5.out.gr hg).frozens
   have al := (HA5.out.gr hg).lt
   clear hg hg5 r0 r1 r2 r3 r4 r5 r6 k0 k1 k2 k3 k4 k5 k6 rl
   go_wp2
   refine bodyPost_ret (v := .tuple #[.agg #[.int .i64 KW, .string yt, .int .i64 VE, .int .i64 0, .string ⟨#[]⟩, .int .i64 n, .int .i64 0], .int .i64 ((jm : Int) + 1), .bool true]) (by simp [results, Tryz.results144, go_sem, *]) rfl ?_
   rw [HO.out]
   exact ⟨⟨KW, yt, VE, 0, ⟨#[]⟩, n, 0⟩, rfl, fun s h => Option.some.inj h, (by (with_reducible repeat' (first | exact Gr.refl _ | refine Gr.set ?_ _ ?_ _ | refine Gr.alloc ?_ | refine Gr.drew ?_ | refine Gr.trans ?_ (by assumption))) <;> (first | (simp; done) | (simp; omega) | omega))⟩
  | false =>
   have HO : Hid (OO = (jm, none)) := HFI.out
   clear HFI
   go_enter Tryz.func144, Tryz.ntmps144
   go_wp2_with fail
   refine (HK.out _).mono ?_
   rintro e w1 ⟨rfl, hg⟩
   have HA1 := Lib.hid (HA0.out.gr hg)
   have HB1 := Lib.hid (HB0.out.gr hg)
   have hg1 : Gr w w1 := (Gr.refl _).alloc.alloc.trans hg
   have hb1 : b < w1.heap.size := Nat.lt_of_lt_of_le hb hg1.size
   replace c0 := hg1.keep c0
   replace c1 := hg1.keep c1
   replace c2 := hg1.keep c2
   replace d0 := hg1.keep d0
   replace d1 := hg1.keep d1
   replace d2 := hg1.keep d2
   replace f0 := hg1.keep f0
   replace f1 := hg1.keep f1
   replace f2 := hg1.keep f2
   replace g0 := hg1.keep g0
   replace g1 := hg1.keep g1
   replace g2 := hg1.keep g2
   clear hg
   go_wp2_with fail
   refine (HS.out _).mono ?_
   rintro e w2 ⟨rfl, hg⟩
   have hg2 : Gr w w2 := hg1.trans hg
   have HB2 := Lib.hid (HB1.out.gr hg)
   have HA2 := Lib.hid (HA1.out.gr hg)
   replace c0 := hg.keep c0
   replace c1 := hg.keep c1
   replace c2 := hg.keep c2
   replace d0 := hg.keep d0
   replace d1 := hg.keep d1
   replace d2 := hg.keep d2
   replace f0 := hg.keep f0
   replace f1 := hg.keep f1
   replace f2 := hg.keep f2
   replace g0 := hg.keep g0
   replace g1 := hg.keep g1
   replace g2 := hg.keep g2
   have hb2 : b < w2.heap.size := Nat.lt_of_lt_of_le hb hg2.size
   have nb1 := HN.out.1
   have nb2 : ¬ b = w.heap.size + 1 := fun e => nb1 e.symm
   clear hg hg1
   obtain ⟨j1, hj1⟩ : ∃ j1, j1 = i + 1 := ⟨_, rfl⟩
   have hk : w2.cell? ⟨b, off + i * 3 + 1, none⟩ = some (.string xt) /\ w2.cell? ⟨b, off + j1 * 3 + 1, none⟩ = some (.string yt) := ⟨c1, by rw [hj1]; exact d1⟩
   have hw1 : IntKind.i64.wrap ((i : Int) + 1) = (j1 : Int) := by rw [IntKind.wrap_i64]; omega
   have hlj : (j1 : Int) < (T.length : Int) := by omega
   clear hj1
   go_upto_region 22 with fail
   refine wp_region_held_drew (S := (fun w' => w'.cell? ⟨b, off + i * 3 + 1, none⟩ = some (.string xt) /\ w'.cell? ⟨b, off + j1 * 3 + 1, none⟩ = some (.string yt))) (by kernel_rfl) (by first | with_reducible exact keep2s hk3 _ nb1 nb1 _ _ _ | with_reducible exact keep2 hk (by (with_reducible repeat' (first | exact Gr.refl _ | refine Gr.set ?_ _ ?_ _ | refine Gr.alloc ?_ | refine Gr.drew ?_ | refine Gr.trans ?_ (by assumption))) <;> (first | (simp; done) | (simp; omega) | omega))) (fun hHeld => ?_)
   refine ty 0 113 hHeld ?_
   refine ty 1 114 hHeld ?_
   refine ty 2 115 hHeld ?_
   refine ty 3 116 hHeld ?_
   refine ty 4 117 hHeld ?_
   refine ty 6 119 hHeld ?_
   refine ty 7 120 hHeld ?_
   refine ty 8 121 hHeld ?_
   refine ty 9 122 hHeld ?_
   refine ty 10 123 hHeld ?_
   refine ty 11 124 hHeld ?_
   refine ty 12 125 hHeld ?_
   refine wpAnyH_ready (rs := [5]) (by kernel_rfl) (by simp) (AllReadyH.cons rfl (fun K hK => ?_) AllReadyH.nil)
   go_simp
   refine (HK.out _).mono ?_; rintro e w3 ⟨rfl, hgk⟩
   (try go_wp2_with fail)
   refine hK.out _ _ (by first | with_reducible exact keep2s hk3 _ nb1 nb1 _ _ _ | with_reducible exact keep2 hk (by (with_reducible repeat' (first | exact Gr.refl _ | refine Gr.set ?_ _ ?_ _ | refine Gr.alloc ?_ | refine Gr.drew ?_ | refine Gr.trans ?_ (by assumption))) <;> (first | (simp; done) | (simp; omega) | omega))) (fun hHeldN => ?_)
   clear hHeld hK K
   have hHeld := hHeldN
   clear hHeldN
   refine ty 13 126 hHeld ?_
   refine ty 14 127 hHeld ?_
   have hg3 : Gr w2 w3 := (Gr.refl _).drew.trans hgk
   have hk3 := keep2 hk hg3
   have HB3a := HB2.out.gr hg3
   have HA3a := HA2.out.gr hg3
   obtain ⟨q0, q1, q2, q3, q4, q5, q6⟩ := HB3a.cells
   obtain ⟨p0, p1, p2, p3, p4, p5, p6⟩ := HB3a.frozens
   have ql := HB3a.lt
   refine wpAnyH_ready (rs := [15]) (by kernel_rfl) (by simp) (AllReadyH.cons rfl (fun K hK => ?_) AllReadyH.nil)
   go_simp
   refine hK.out _ _ (by first | with_reducible exact keep2s hk3 _ nb1 nb1 _ _ _ | with_reducible exact keep2 hk (by (with_reducible repeat' (first | exact Gr.refl _ | refine Gr.set ?_ _ ?_ _ | refine Gr.alloc ?_ | refine Gr.drew ?_ | refine Gr.trans ?_ (by assumption))) <;> (first | (simp; done) | (simp; omega) | omega))) (fun hHeldN => ?_)
   clear hHeld hK K
   have hHeld := hHeldN
   clear hHeldN
   refine wpAnyH_done (by kernel_rfl) ?_ _
   replace g0 := hg3.keep g0
   replace g1 := hg3.keep g1
   replace g2 := hg3.keep g2
   have hb3 : b < w3.heap.size := Nat.lt_of_lt_of_le hb2 hg3.size
   have hg4 : Gr w w3 := hg2.trans hg3
   have HB4 := Lib.hid (((HB3a.s0 (.int .i64 KW)).s1 (.string yt)).s2 (.int .i64 VE))
   have HA4 := Lib.hid (((HA3a.setFar ⟨w.heap.size + 1, 0, none⟩ (.int .i64 KW) (by simp)).setFar ⟨w.heap.size + 1, 1, none⟩ (.string yt) (by simp)).setFar ⟨w.heap.size + 1, 2, none⟩ (.int .i64 VE) (by simp))
   clear hgk HB3a HA3a hk hk3 c0 c1 c2 d0 d1 d2 f0 f1 f2 HA2 HB2 hHeld
   have HAf := HA4
   have HBf := HB4
   have HGS : Hid (Gr w (((w3.setCell ⟨w.heap.size + 1, 0, none⟩ (.int .i64 KW)).setCell ⟨w.heap.size + 1, 1, none⟩ (.string yt)).setCell ⟨w.heap.size + 1, 2, none⟩ (.int .i64 VE))) := (((hg4.set ⟨w.heap.size + 1, 0, none⟩ (by simp) (.int .i64 KW)).set ⟨w.heap.size + 1, 1, none⟩ (by simp) (.string yt)).set ⟨w.heap.size + 1, 2, none⟩ (by simp) (.int .i64 VE))
   have g0s : (((w3.setCell ⟨w.heap.size + 1, 0, none⟩ (.int .i64 KW)).setCell ⟨w.heap.size + 1, 1, none⟩ (.string yt)).setCell ⟨w.heap.size + 1, 2, none⟩ (.int .i64 VE)).cell? ⟨b, off + jm * 3, none⟩ = _ := ((World.cell?_setCell_far _ _ _ _ (by simpa using nb1)).trans ((World.cell?_setCell_far _ _ _ _ (by simpa using nb1)).trans ((World.cell?_setCell_far _ _ _ _ (by simpa using nb1)).trans g0)))
   have g1s : (((w3.setCell ⟨w.heap.size + 1, 0, none⟩ (.int .i64 KW)).setCell ⟨w.heap.size + 1, 1, none⟩ (.string yt)).setCell ⟨w.heap.size + 1, 2, none⟩ (.int .i64 VE)).cell? ⟨b, off + jm * 3 + 1, none⟩ = _ := ((World.cell?_setCell_far _ _ _ _ (by simpa using nb1)).trans ((World.cell?_setCell_far _ _ _ _ (by simpa using nb1)).trans ((World.cell?_setCell_far _ _ _ _ (by simpa using nb1)).trans g1)))
   have g2s : (((w3.setCell ⟨w.heap.size + 1, 0, none⟩ (.int .i64 KW)).setCell ⟨w.heap.size + 1, 1, none⟩ (.string yt)).setCell ⟨w.heap.size + 1, 2, none⟩ (.int .i64 VE)).cell? ⟨b, off + jm * 3 + 2, none⟩ = _ := ((World.cell?_setCell_far _ _ _ _ (by simpa using nb1)).trans ((World.cell?_setCell_far _ _ _ _ (by simpa using nb1)).trans ((World.cell?_setCell_far _ _ _ _ (by simpa using nb1)).trans g2)))
   have hbs : b < (((w3.setCell ⟨w.heap.size + 1, 0, none⟩ (.int .i64 KW)).setCell ⟨w.heap.size + 1, 1, none⟩ (.string yt)).setCell ⟨w.heap.size + 1, 2, none⟩ (.int .i64 VE)).heap.size := by simpa using hb3
   clear g0 g1 g2
   go_wp2_with fail
   refine (HM.out _ HGS.out).mono ?_
   rintro e w5 ⟨rfl, hg⟩
   have hg5 : Gr w w5 := HGS.out.trans hg
   have HB5a := HBf.out.gr hg
   have HA5a := HAf.out.gr hg
   replace g0s := hg.keep g0s
   replace g1s := hg.keep g1s
   replace g2s := hg.keep g2s
   have hb5 : b < w5.heap.size := Nat.lt_of_lt_of_le hbs hg.size
   have HB5 := Lib.hid (HB5a.s5 (.int .i64 n))
   have HA5 := Lib.hid (HA5a.setFar ⟨w.heap.size + 1, 5, none⟩ (.int .i64 n) (by simp))
   obtain ⟨r0, r1, r2, r3, r4, r5, r6⟩ := HB5a.cells
   obtain ⟨k0, k1, k2, k3, k4, k5, k6⟩ := HB5a.frozens
   have rl := HB5a.lt
   clear hg HB5a HA5a
   go_wp2_with fail
   refine (HI.out _).mono ?_
   rintro e w6 ⟨rfl, hg⟩
   have hg6 : Gr w w6 := (hg5.set ⟨w.heap.size + 1, 5, none⟩ (by simp) (.int .i64 n)).trans hg
   obtain ⟨s0, s1, s2, s3, s4, s5, s6⟩ := (HB5.out.gr hg).cells
   have sl := (HB5.out.gr hg).lt
   obtain ⟨a0, a1, a2, a3, a4, a5, a6⟩ := (HA5.out.gr hg).cells
   obtain ⟨af0, af1, af2, af3, af4, af5, af6⟩ := (HA5.out.gr hg).frozens
   have al := (HA5.out.gr hg).lt
   clear hg hg5 r0 r1 r2 r3 r4 r5 r6 k0 k1 k2 k3 k4 k5 k6 rl
   go_wp2
   refine bodyPost_ret (v := .tuple #[.agg #[.int .i64 KW, .string yt, .int .i64 VE, .int .i64 0, .string ⟨#[]⟩, .int .i64 n, .int .i64 0], .int .i64 (jm : Int), .bool false]) (by simp [results, Tryz.results144, go_sem, *]) rfl ?_
   rw [HO.out]
   exact ⟨⟨KW, yt, VE, 0, ⟨#[]⟩, n, 0⟩, rfl, fun s h => (by cases h), (by (with_reducible repeat' (first | exact Gr.refl _ | refine Gr.set ?_ _ ?_ _ | refine Gr.alloc ?_ | refine Gr.drew ?_ | refine Gr.trans ?_ (by assumption))) <;> (first | (simp; done) | (simp; omega) | omega))⟩

theorem refOne_any (T : List Tok) (ad : Option Addr) (cap : Nat) (i : Nat) (w : World) (hT : ToksAt w ad T) (hG : Gd T) (hi : i < T.length) (hn : T.length <= 5000) :
  Calls Tryz.prog 144 #[.slice ad T.length cap, .int .i64 (i : Int)] w fun e w' => OnR w (one T i) e w' := by
 by_cases h0 : (tk T i).k = 1
 ·by_cases h2 : (tk T i).t = Df.wAsk
  ·by_cases h3 : (tk T (i + 1)).k = 2
   ·by_cases h4 : (tk T (i + 2)).k = 1
    ·exact refOneA3 T ad cap i w hT hG hi hn h0 h2 h3 h4
    ·exact refOneA2 T ad cap i w hT hG hi hn h0 h2 h3 h4
   ·exact refOneA1 T ad cap i w hT hG hi hn h0 h2 h3
  ·by_cases h1 : kw (tk T i).t = 0
   ·exact refOne1 T ad cap i w hT hG hi hn h0 h1 h2
   ·by_cases h3 : (tk T (i + 1)).k = 1
    ·by_cases h4 : (tk T (i + 2)).k = 2
     ·exact refOneD3 T ad cap i w hT hG hi hn h0 h1 h3 h4
     ·exact refOneD2 T ad cap i w hT hG hi hn h0 h1 h3 h4
    ·exact refOneD1 T ad cap i w hT hG hi hn h0 h1 h3
 ·exact refOne0 T ad cap i w hT hG hi hn h0
end Go.Proofs.YthaadiclopoamaaGreatDoor
