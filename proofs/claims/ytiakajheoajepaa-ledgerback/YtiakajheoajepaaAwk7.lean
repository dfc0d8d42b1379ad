/- awake: some answers that the document fixes. -/
import Derived.Test.YtiakajheoajepaaAwkM
import Derived.Test.YtiakajheoajepaaLedE
namespace Go.Proofs.Ytiakajheoajepaa
open Go.RowKit
open Led (Acc Mk)

theorem acc_alone {w : World} {g : Nat} {x : Acc} (h : AccAt w g (.string x.s) (.int .i64 x.a) (.int .i64 x.b) (.int .i64 x.c) (.int .i64 x.x) (.int .i64 x.y) (.int .i64 x.z)) : AccsAt w (some ⟨g, 0, none⟩) [x] := by
  have hb := h.lt
  obtain ⟨c0, c1, c2, c3, c4, c5, c6⟩ := h.cells
  intro j u hu
  rw [show [x].flatMap accC = accC x by simp] at hu
  unfold accC at hu
  match j, hu with
  | 0, hu => cases hu; exact ⟨g, 0, rfl, hb, c0⟩
  | 1, hu => cases hu; exact ⟨g, 0, rfl, hb, c1⟩
  | 2, hu => cases hu; exact ⟨g, 0, rfl, hb, c2⟩
  | 3, hu => cases hu; exact ⟨g, 0, rfl, hb, c3⟩
  | 4, hu => cases hu; exact ⟨g, 0, rfl, hb, c4⟩
  | 5, hu => cases hu; exact ⟨g, 0, rfl, hb, c5⟩
  | 6, hu => cases hu; exact ⟨g, 0, rfl, hb, c6⟩
  | j + 7, hu => simp at hu
theorem LedAt.setFar {w : World} {a1 a2 : Option Addr} {A : List Acc} {M : List Mk} (h : LedAt w a1 a2 A M) (p : Addr) (v : Value) (h1 : ∀ a, a1 = some a → p.block ≠ a.block) (h2 : ∀ a, a2 = some a → p.block ≠ a.block) : LedAt (w.setCell p v) a1 a2 A M :=
  ⟨h.a.setFar p v h1, h.m.setFar p v h2, h.ra, h.rm, h.la, h.lm⟩

set_option maxHeartbeats 4000000 in
set_option maxRecDepth 100000 in
theorem awake_any (w : World) : Calls Try.prog 9 #[] w fun e w' => e = .returned (.bool true) ∧ Gr w w' := by
  go_enter Try.func9, Try.ntmps9
  go_wp2_with fail
  refine (awkOpen _).mono ?_
  rintro e w1 ⟨x1, y1, x2, y2, rfl, hl1, hg1⟩
  have HL1 : Hid (LedAt w1 x1 x2 A1 []) := hl1
  have g1 : Gr w w1 := hg1
  clear hl1 hg1
  go_wp2_with fail
  refine (awkDo x1 y1 x2 y2 _ (HL1.out.gr (Gr.refl _).alloc.alloc)).mono ?_
  rintro e w2 ⟨p1, q1, p2, q2, rfl, hl2, hf1, hf2, hg2⟩
  have HL2 : Hid (LedAt w2 p1 p2 A2 M1) := hl2
  have HF1 : Hid (∀ a, p1 = some a → w1.heap.size + 1 ≠ a.block) := fun a e => by have := hf1 a e; simp at this; omega
  have HF2 : Hid (∀ a, p2 = some a → w1.heap.size + 1 ≠ a.block) := fun a e => by have := hf2 a e; simp at this; omega
  have HB2 : Hid (BoxAt w2 (w1.heap.size + 1) _ _ _) := (BoxAt.new (w1.alloc _) _ _ _ _ (w1.heap.size + 1) (by simp)).gr hg2
  have g2 : Gr w w2 := g1.alloc.alloc.trans hg2
  have z1 := g1.size
  have z2 := hg2.size
  simp at z2
  obtain ⟨a0, a1, a2, af0, af1, af2, al⟩ := HB2.out
  clear hl2 hg2 hf1 hf2 HL1 g1
  go_wp2_with fail
  refine (awkDo2 p1 q1 p2 q2 _ (HL2.out.gr (Gr.refl _).alloc)).mono ?_
  rintro e w3 ⟨s1, t1, s2, t2, rfl, hl3, hf1, hf2, hg3⟩
  have HL3 : Hid (LedAt w3 p1 p2 A2 M1) := (HL2.out.gr (Gr.refl _).alloc).gr hg3
  have HN3 : Hid (LedAt w3 s1 s2 A2 M1) := hl3
  have HE1 : Hid (∀ a, s1 = some a → w1.heap.size + 1 ≠ a.block) := fun a e => by have := hf1 a e; simp at this; omega
  have HE2 : Hid (∀ a, s2 = some a → w1.heap.size + 1 ≠ a.block) := fun a e => by have := hf2 a e; simp at this; omega
  have HB3 : Hid (BoxAt w3 (w1.heap.size + 1) _ _ _) := (HB2.out.gr (Gr.refl _).alloc).gr hg3
  have HM3 : Hid (TwoAt w3 w2.heap.size _ _) := (TwoAt.new w2 _ _ _ _ rfl).gr hg3
  have g3 : Gr w w3 := g2.alloc.trans hg3
  have z3 := hg3.size
  simp at z3
  clear a0 a1 a2 af0 af1 af2 al
  obtain ⟨a0, a1, a2, af0, af1, af2, al⟩ := HB3.out
  obtain ⟨m0, m1, _, _, ml⟩ := HM3.out
  clear hl3 hg3 hf1 hf2 g2 HL2
  go_wp2_with fail
  have gs : Gr w ((w3.setCell ⟨w1.heap.size + 1, 2, none⟩ (.int .i64 5)).alloc (.cells #[.slice s1 1 t1, .slice s2 1 t2] 25)) := (g3.set _ (by simp; omega) _).alloc
  have HLs : Hid (LedAt ((w3.setCell ⟨w1.heap.size + 1, 2, none⟩ (.int .i64 5)).alloc (.cells #[.slice s1 1 t1, .slice s2 1 t2] 25)) p1 p2 A2 M1) := (HL3.out.setFar _ _ HF1.out HF2.out).gr (Gr.refl _).alloc
  have HNs : Hid (LedAt ((w3.setCell ⟨w1.heap.size + 1, 2, none⟩ (.int .i64 5)).alloc (.cells #[.slice s1 1 t1, .slice s2 1 t2] 25)) s1 s2 A2 M1) := (HN3.out.setFar _ _ HE1.out HE2.out).gr (Gr.refl _).alloc
  have HMs : Hid (TwoAt ((w3.setCell ⟨w1.heap.size + 1, 2, none⟩ (.int .i64 5)).alloc (.cells #[.slice s1 1 t1, .slice s2 1 t2] 25)) w2.heap.size _ _) := (HM3.out.far _ _ (by simp; omega)).gr (Gr.refl _).alloc
  have HQs : Hid (TwoAt ((w3.setCell ⟨w1.heap.size + 1, 2, none⟩ (.int .i64 5)).alloc (.cells #[.slice s1 1 t1, .slice s2 1 t2] 25)) w3.heap.size _ _) := TwoAt.new _ _ _ _ w3.heap.size (by simp)
  clear HL3 HN3 HM3 HB3 HB2 HF1 HF2 HE1 HE2 g3
  refine (awkDo3 p1 q1 p2 q2 _ HLs.out).mono ?_
  rintro e w4 ⟨rfl, hg4⟩
  have HL4 : Hid (LedAt w4 p1 p2 A2 M1) := HLs.out.gr hg4
  have HN4 : Hid (LedAt w4 s1 s2 A2 M1) := HNs.out.gr hg4
  have HM4 : Hid (TwoAt w4 w2.heap.size _ _) := HMs.out.gr hg4
  have HQ4 : Hid (TwoAt w4 w3.heap.size _ _) := HQs.out.gr hg4
  have g4 : Gr w w4 := gs.trans hg4
  have z4 := hg4.size
  simp at z4
  clear a0 a1 a2 af0 af1 af2 al m0 m1 ml
  obtain ⟨m0, m1, _, _, ml⟩ := HM4.out
  clear hg4 HLs HNs HMs HQs gs
  go_wp2_with fail
  refine (awkUndo p1 q1 p2 q2 _ (HL4.out.gr (Gr.refl _).alloc)).mono ?_
  rintro e w5 ⟨u1, v1, u2, v2, rfl, hl5, hg5⟩
  have HU5 : Hid (LedAt w5 u1 u2 A1 M2) := hl5
  have HL5 : Hid (LedAt w5 p1 p2 A2 M1) := (HL4.out.gr (Gr.refl _).alloc).gr hg5
  have HN5 : Hid (LedAt w5 s1 s2 A2 M1) := (HN4.out.gr (Gr.refl _).alloc).gr hg5
  have HM5 : Hid (TwoAt w5 w2.heap.size _ _) := (HM4.out.gr (Gr.refl _).alloc).gr hg5
  have HQ5 : Hid (TwoAt w5 w3.heap.size _ _) := (HQ4.out.gr (Gr.refl _).alloc).gr hg5
  have g5 : Gr w w5 := g4.alloc.trans hg5
  clear m0 m1 ml
  obtain ⟨m0, m1, _, _, ml⟩ := HM5.out
  clear hg5 hl5 HL4 HN4 HM4 HQ4 g4
  go_wp2_with fail
  refine (awkFind p1 q1 p2 q2 _ (HL5.out.gr (Gr.refl _).alloc)).mono ?_
  rintro e w6 ⟨rfl, hg6⟩
  have HU6 : Hid (LedAt w6 u1 u2 A1 M2) := (HU5.out.gr (Gr.refl _).alloc).gr hg6
  have HL6 : Hid (LedAt w6 p1 p2 A2 M1) := (HL5.out.gr (Gr.refl _).alloc).gr hg6
  have HN6 : Hid (LedAt w6 s1 s2 A2 M1) := (HN5.out.gr (Gr.refl _).alloc).gr hg6
  have HM6 : Hid (TwoAt w6 w2.heap.size _ _) := (HM5.out.gr (Gr.refl _).alloc).gr hg6
  have HQ6 : Hid (TwoAt w6 w3.heap.size _ _) := (HQ5.out.gr (Gr.refl _).alloc).gr hg6
  have HV6 : Hid (TwoAt w6 w5.heap.size _ _) := (TwoAt.new w5 _ _ _ _ rfl).gr hg6
  have g6 : Gr w w6 := g5.alloc.trans hg6
  clear m0 m1 ml
  obtain ⟨m0, m1, _, _, ml⟩ := HM6.out
  obtain ⟨n0, n1, _, _, nl⟩ := HQ6.out
  clear hg6 HL5 HN5 HM5 HQ5 HU5 g5
  go_wp2_with fail
  refine (same7_eq A2 M1 p1 p2 s1 s2 q1 q2 t1 t2 _ (HL6.out.gr (Gr.refl _).alloc).a (HL6.out.gr (Gr.refl _).alloc).m (HN6.out.gr (Gr.refl _).alloc).a (HN6.out.gr (Gr.refl _).alloc).m (by decide) (by decide)).mono ?_
  rintro e w7 ⟨rfl, hg7⟩
  have HU7 : Hid (LedAt w7 u1 u2 A1 M2) := (HU6.out.gr (Gr.refl _).alloc).gr hg7
  have HV7 : Hid (TwoAt w7 w5.heap.size _ _) := (HV6.out.gr (Gr.refl _).alloc).gr hg7
  have HX7 : Hid (AccAt w7 w6.heap.size _ _ _ _ _ _ _) := (AccAt.new w6 _ _ _ _ _ _ _ _ _ rfl).gr hg7
  have g7 : Gr w w7 := g6.alloc.trans hg7
  clear m0 m1 ml n0 n1 nl
  obtain ⟨v0, v3, _, _, vl⟩ := HV7.out
  clear hg7 HL6 HN6 HM6 HQ6 HV6 HU6 g6
  go_wp2_with fail
  refine (awkState u1 v1 u2 v2 _ HU7.out).mono ?_
  rintro e w8 ⟨rfl, hg8⟩
  have HX8 : Hid (AccAt w8 w6.heap.size _ _ _ _ _ _ _) := HX7.out.gr hg8
  have g8 : Gr w w8 := g7.trans hg8
  obtain ⟨c0, c1, c2, c3, c4, c5, c6⟩ := HX8.out.cells
  have cl := HX8.out.lt
  clear v0 v3 vl hg8 HU7 HV7 HX7 g7
  go_wp2_with fail
  refine (awkMay _ 1 none 0 _ (acc_alone (x := accZ) (AccAt.new w8 _ _ _ _ _ _ _ _ _ rfl))).mono ?_
  rintro e w9 ⟨rfl, hg9⟩
  have g9 : Gr w w9 := g8.alloc.trans hg9
  clear hg9 g8 HX8
  go_wp2
  go_ret
  exact ⟨rfl, g9⟩
end Go.Proofs.Ytiakajheoajepaa
