/- What the proof is made of, part 23. -/
import Derived.Test.YtgidkmipecfjhaaTLLOnce22
import Derived.BigQuiet
import Derived.Test.YtgidkmipecfjhaaRows
import Derived.ProofKit
import Derived.OpenShut
import Derived.Deep.SlicePairs
import Derived.Deep.Strs
import Derived.Deep.DeepCutAuto
namespace Go.Proofs.Ytgidkmipecfjhaa
open Go.RowKit
open Led (Acc Mk)
set_option maxHeartbeats 4000000 in
set_option maxRecDepth 100000 in
theorem same7_eq (A : List Acc) (M : List Mk) (a1 a2 b1 b2 : Option Addr) (c1 c2 c3 c4 : Nat) (w : World) (hA : AccsAt w a1 A) (hM : MksAt w a2 M) (hA' : AccsAt w b1 A) (hM' : MksAt w b2 M) (hnA : A.length ≤ 9223372036854775807) (hnM : M.length ≤ 9223372036854775807) :
    Calls Try.prog 25 #[.agg #[.slice a1 A.length c1, .slice a2 M.length c2], .agg #[.slice b1 A.length c3, .slice b2 M.length c4]] w fun e w' => e = .returned (.bool true) ∧ Gr w w' := by
  have H1 : Hid (AccsAt w a1 A) := hA
  have H2 : Hid (MksAt w a2 M) := hM
  have H3 : Hid (AccsAt w b1 A) := hA'
  have H4 : Hid (MksAt w b2 M) := hM'
  clear hA hM hA' hM'
  go_enter Try.func25, Try.ntmps25
  go_wp2
  have HBX : Hid (TwoAt ((w.alloc (.cells #[.slice a1 A.length c1, .slice a2 M.length c2] 25)).alloc (.cells #[.slice b1 A.length c3, .slice b2 M.length c4] 25)) w.heap.size (.slice a1 A.length c1) (.slice a2 M.length c2)) := (TwoAt.new w _ _ _ _ rfl).gr (Gr.refl _).alloc
  have HBY : Hid (TwoAt ((w.alloc (.cells #[.slice a1 A.length c1, .slice a2 M.length c2] 25)).alloc (.cells #[.slice b1 A.length c3, .slice b2 M.length c4] 25)) (w.heap.size + 1) (.slice b1 A.length c3) (.slice b2 M.length c4)) := TwoAt.new _ _ _ _ (w.heap.size + 1) (by simp)
  go_loopw [5] (fun s5 wr => ∃ k : Nat, s5 = .int .i64 k ∧ k ≤ A.length ∧ TwoAt wr w.heap.size (.slice a1 A.length c1) (.slice a2 M.length c2) ∧ TwoAt wr (w.heap.size + 1) (.slice b1 A.length c3) (.slice b2 M.length c4) ∧ Gr w wr) (fun s5 _ => A.length - (intOf s5).toNat)
  case atStart => exact ⟨0, rfl, Nat.zero_le _, HBX.out, HBY.out, (Gr.refl _).alloc.alloc⟩
  case round =>
    clear HBX HBY
    obtain ⟨k, rfl, hk, hX, hY, hg⟩ := hrel
    have HX : Hid (TwoAt wr w.heap.size (.slice a1 A.length c1) (.slice a2 M.length c2)) := hX
    have HY : Hid (TwoAt wr (w.heap.size + 1) (.slice b1 A.length c3) (.slice b2 M.length c4)) := hY
    have HG : Hid (Gr w wr) := hg
    obtain ⟨x0, x1, _, _, xl⟩ := hX
    obtain ⟨y0, y1, _, _, yl⟩ := hY
    clear hg
    by_cases hlt : k < A.length
    · obtain ⟨b, off, rfl, hb, d0, d1, d2, d3, d4, d5, d6⟩ := (AccsAt.at H1.out k hlt)
      obtain ⟨b', off', rfl, hb', e0, e1, e2, e3, e4, e5, e6⟩ := (AccsAt.at H3.out k hlt)
      have d0 := HG.out.keep d0
      have d1 := HG.out.keep d1
      have d2 := HG.out.keep d2
      have d3 := HG.out.keep d3
      have d4 := HG.out.keep d4
      have d5 := HG.out.keep d5
      have d6 := HG.out.keep d6
      have e0 := HG.out.keep e0
      have e1 := HG.out.keep e1
      have e2 := HG.out.keep e2
      have e3 := HG.out.keep e3
      have e4 := HG.out.keep e4
      have e5 := HG.out.keep e5
      have e6 := HG.out.keep e6
      have hbw : b < wr.heap.size := Nat.lt_of_lt_of_le hb HG.out.size
      have hbw' : b' < wr.heap.size := Nat.lt_of_lt_of_le hb' HG.out.size
      have hki : (k : Int) < (A.length : Int) := by omega
      generalize A[k] = x at *
      go_wp2_with fail
      go_quiet (fail)
      go_wp2
      go_roundw
      case rel => exact ⟨k + 1, by go_num, by omega, HX.out.gr ((Gr.refl _).drewN _), HY.out.gr ((Gr.refl _).drewN _), HG.out.drewN _⟩
      case measure => simp [intOf]; omega
    · have hge : ¬ ((k : Int) < (A.length : Int)) := by omega
      go_wp2
      go_loopw [6] (fun s6 wr => ∃ k : Nat, s6 = .int .i64 k ∧ k ≤ M.length ∧ TwoAt wr w.heap.size (.slice a1 A.length c1) (.slice a2 M.length c2) ∧ TwoAt wr (w.heap.size + 1) (.slice b1 A.length c3) (.slice b2 M.length c4) ∧ Gr w wr) (fun s6 _ => M.length - (intOf s6).toNat)
      case atStart => exact ⟨0, rfl, Nat.zero_le _, HX.out, HY.out, HG.out⟩
      case round =>
        clear HX HY HG x0 x1 xl y0 y1 yl
        obtain ⟨k, rfl, hk, hX, hY, hg⟩ := hrel
        have HX : Hid (TwoAt wr w.heap.size (.slice a1 A.length c1) (.slice a2 M.length c2)) := hX
        have HY : Hid (TwoAt wr (w.heap.size + 1) (.slice b1 A.length c3) (.slice b2 M.length c4)) := hY
        have HG : Hid (Gr w wr) := hg
        obtain ⟨x0, x1, _, _, xl⟩ := hX
        obtain ⟨y0, y1, _, _, yl⟩ := hY
        clear hg
        by_cases hlt : k < M.length
        · obtain ⟨b, off, rfl, hb, d0, d1, d2, d3, d4⟩ := (MksAt.at H2.out k hlt)
          obtain ⟨b', off', rfl, hb', e0, e1, e2, e3, e4⟩ := (MksAt.at H4.out k hlt)
          have d0 := HG.out.keep d0
          have d1 := HG.out.keep d1
          have d2 := HG.out.keep d2
          have d3 := HG.out.keep d3
          have d4 := HG.out.keep d4
          have e0 := HG.out.keep e0
          have e1 := HG.out.keep e1
          have e2 := HG.out.keep e2
          have e3 := HG.out.keep e3
          have e4 := HG.out.keep e4
          have hbw : b < wr.heap.size := Nat.lt_of_lt_of_le hb HG.out.size
          have hbw' : b' < wr.heap.size := Nat.lt_of_lt_of_le hb' HG.out.size
          have hki : (k : Int) < (M.length : Int) := by omega
          generalize M[k] = x at *
          go_wp2_with fail
          go_quiet (fail)
          go_wp2
          go_roundw
          case rel => exact ⟨k + 1, by go_num, by omega, HX.out.gr ((Gr.refl _).drewN _), HY.out.gr ((Gr.refl _).drewN _), HG.out.drewN _⟩
          case measure => simp [intOf]; omega
        · have hge : ¬ ((k : Int) < (M.length : Int)) := by omega
          go_wp2
          go_ret
          exact ⟨rfl, HG.out⟩
end Go.Proofs.Ytgidkmipecfjhaa
namespace Go.Proofs.Ytgidkmipecfjhaa
open Go.RowKit
open Led (Acc Mk)
theorem acc_alone {w : World} {g : Nat} {x : Acc} (h : AccAt w g (.string x.s) (.int .i64 x.a) (.int .i64 x.b) (.int .i64 x.c) (.int .i64 x.x) (.int .i64 x.y) (.int .i64 x.z)) : AccsAt w (some ⟨g, 0, none⟩) [x] := by
  have hb := h.lt
  obtain ⟨c0, c1, c2, c3, c4, c5, c6⟩ := h.cells
  intro j u hu
  rw [show [x].flatMap accC = accC x by simp] at hu
  unfold accC at hu
  match j, hu with
  | 0, hu => cases hu; exact ⟨g, 0, rfl, hb, c0⟩
  | 1, hu => cases hu; exact ⟨g, 0, rfl, hb, c1⟩
  | 2, hu => cases hu; exact ⟨g, 0, rfl, hb, c2⟩
  | 3, hu => cases hu; exact ⟨g, 0, rfl, hb, c3⟩
  | 4, hu => cases hu; exact ⟨g, 0, rfl, hb, c4⟩
  | 5, hu => cases hu; exact ⟨g, 0, rfl, hb, c5⟩
  | 6, hu => cases hu; exact ⟨g, 0, rfl, hb, c6⟩
  | j + 7, hu => simp at hu
theorem LedAt.setFar {w : World} {a1 a2 : Option Addr} {A : List Acc} {M : List Mk} (h : LedAt w a1 a2 A M) (p : Addr) (v : Value) (h1 : ∀ a, a1 = some a → p.block ≠ a.block) (h2 : ∀ a, a2 = some a → p.block ≠ a.block) : LedAt (w.setCell p v) a1 a2 A M :=
  ⟨h.a.setFar p v h1, h.m.setFar p v h2, h.ra, h.rm, h.la, h.lm⟩
set_option maxHeartbeats 4000000 in
set_option maxRecDepth 100000 in
theorem awake_any (w : World) : Calls Try.prog 9 #[] w fun e w' => e = .returned (.bool true) ∧ Gr w w' := by
  go_enter Try.func9, Try.ntmps9
  go_wp2_with fail
  refine (awkOpen _).mono ?_
  rintro e w1 ⟨x1, y1, x2, y2, rfl, hl1, hg1⟩
  have HL1 : Hid (LedAt w1 x1 x2 A1 []) := hl1
  have g1 : Gr w w1 := hg1
  clear hl1 hg1
  go_wp2_with fail
  refine (awkDo x1 y1 x2 y2 _ (HL1.out.gr (Gr.refl _).alloc.alloc)).mono ?_
  rintro e w2 ⟨p1, q1, p2, q2, rfl, hl2, hf1, hf2, hg2⟩
  have HL2 : Hid (LedAt w2 p1 p2 A2 M1) := hl2
  have HF1 : Hid (∀ a, p1 = some a → w1.heap.size + 1 ≠ a.block) := fun a e => by have := hf1 a e; simp at this; omega
  have HF2 : Hid (∀ a, p2 = some a → w1.heap.size + 1 ≠ a.block) := fun a e => by have := hf2 a e; simp at this; omega
  have HB2 : Hid (BoxAt w2 (w1.heap.size + 1) _ _ _) := (BoxAt.new (w1.alloc _) _ _ _ _ (w1.heap.size + 1) (by simp)).gr hg2
  have g2 : Gr w w2 := g1.alloc.alloc.trans hg2
  have z1 := g1.size
  have z2 := hg2.size
  simp at z2
  obtain ⟨a0, a1, a2, af0, af1, af2, al⟩ := HB2.out
  clear hl2 hg2 hf1 hf2 HL1 g1
  go_wp2_with fail
  refine (awkDo2 p1 q1 p2 q2 _ (HL2.out.gr (Gr.refl _).alloc)).mono ?_
  rintro e w3 ⟨s1, t1, s2, t2, rfl, hl3, hf1, hf2, hg3⟩
  have HL3 : Hid (LedAt w3 p1 p2 A2 M1) := (HL2.out.gr (Gr.refl _).alloc).gr hg3
  have HN3 : Hid (LedAt w3 s1 s2 A2 M1) := hl3
  have HE1 : Hid (∀ a, s1 = some a → w1.heap.size + 1 ≠ a.block) := fun a e => by have := hf1 a e; simp at this; omega
  have HE2 : Hid (∀ a, s2 = some a → w1.heap.size + 1 ≠ a.block) := fun a e => by have := hf2 a e; simp at this; omega
  have HB3 : Hid (BoxAt w3 (w1.heap.size + 1) _ _ _) := (HB2.out.gr (Gr.refl _).alloc).gr hg3
  have HM3 : Hid (TwoAt w3 w2.heap.size _ _) := (TwoAt.new w2 _ _ _ _ rfl).gr hg3
  have g3 : Gr w w3 := g2.alloc.trans hg3
  have z3 := hg3.size
  simp at z3
  clear a0 a1 a2 af0 af1 af2 al
  obtain ⟨a0, a1, a2, af0, af1, af2, al⟩ := HB3.out
  obtain ⟨m0, m1, _, _, ml⟩ := HM3.out
  clear hl3 hg3 hf1 hf2 g2 HL2
  go_wp2_with fail
  have gs : Gr w ((w3.setCell ⟨w1.heap.size + 1, 2, none⟩ (.int .i64 5)).alloc (.cells #[.slice s1 1 t1, .slice s2 1 t2] 25)) := (g3.set _ (by simp; omega) _).alloc
  have HLs : Hid (LedAt ((w3.setCell ⟨w1.heap.size + 1, 2, none⟩ (.int .i64 5)).alloc (.cells #[.slice s1 1 t1, .slice s2 1 t2] 25)) p1 p2 A2 M1) := (HL3.out.setFar _ _ HF1.out HF2.out).gr (Gr.refl _).alloc
  have HNs : Hid (LedAt ((w3.setCell ⟨w1.heap.size + 1, 2, none⟩ (.int .i64 5)).alloc (.cells #[.slice s1 1 t1, .slice s2 1 t2] 25)) s1 s2 A2 M1) := (HN3.out.setFar _ _ HE1.out HE2.out).gr (Gr.refl _).alloc
  have HMs : Hid (TwoAt ((w3.setCell ⟨w1.heap.size + 1, 2, none⟩ (.int .i64 5)).alloc (.cells #[.slice s1 1 t1, .slice s2 1 t2] 25)) w2.heap.size _ _) := (HM3.out.far _ _ (by simp; omega)).gr (Gr.refl _).alloc
  have HQs : Hid (TwoAt ((w3.setCell ⟨w1.heap.size + 1, 2, none⟩ (.int .i64 5)).alloc (.cells #[.slice s1 1 t1, .slice s2 1 t2] 25)) w3.heap.size _ _) := TwoAt.new _ _ _ _ w3.heap.size (by simp)
  clear HL3 HN3 HM3 HB3 HB2 HF1 HF2 HE1 HE2 g3
  refine (awkDo3 p1 q1 p2 q2 _ HLs.out).mono ?_
  rintro e w4 ⟨rfl, hg4⟩
  have HL4 : Hid (LedAt w4 p1 p2 A2 M1) := HLs.out.gr hg4
  have HN4 : Hid (LedAt w4 s1 s2 A2 M1) := HNs.out.gr hg4
  have HM4 : Hid (TwoAt w4 w2.heap.size _ _) := HMs.out.gr hg4
  have HQ4 : Hid (TwoAt w4 w3.heap.size _ _) := HQs.out.gr hg4
  have g4 : Gr w w4 := gs.trans hg4
  have z4 := hg4.size
  simp at z4
  clear a0 a1 a2 af0 af1 af2 al m0 m1 ml
  obtain ⟨m0, m1, _, _, ml⟩ := HM4.out
  clear hg4 HLs HNs HMs HQs gs
  go_wp2_with fail
  refine (awkUndo p1 q1 p2 q2 _ (HL4.out.gr (Gr.refl _).alloc)).mono ?_
  rintro e w5 ⟨u1, v1, u2, v2, rfl, hl5, hg5⟩
  have HU5 : Hid (LedAt w5 u1 u2 A1 M2) := hl5
  have HL5 : Hid (LedAt w5 p1 p2 A2 M1) := (HL4.out.gr (Gr.refl _).alloc).gr hg5
  have HN5 : Hid (LedAt w5 s1 s2 A2 M1) := (HN4.out.gr (Gr.refl _).alloc).gr hg5
  have HM5 : Hid (TwoAt w5 w2.heap.size _ _) := (HM4.out.gr (Gr.refl _).alloc).gr hg5
  have HQ5 : Hid (TwoAt w5 w3.heap.size _ _) := (HQ4.out.gr (Gr.refl _).alloc).gr hg5
  have g5 : Gr w w5 := g4.alloc.trans hg5
  clear m0 m1 ml
  obtain ⟨m0, m1, _, _, ml⟩ := HM5.out
  clear hg5 hl5 HL4 HN4 HM4 HQ4 g4
  go_wp2_with fail
  refine (awkFind p1 q1 p2 q2 _ (HL5.out.gr (Gr.refl _).alloc)).mono ?_
  rintro e w6 ⟨rfl, hg6⟩
  have HU6 : Hid (LedAt w6 u1 u2 A1 M2) := (HU5.out.gr (Gr.refl _).alloc).gr hg6
  have HL6 : Hid (LedAt w6 p1 p2 A2 M1) := (HL5.out.gr (Gr.refl _).alloc).gr hg6
  have HN6 : Hid (LedAt w6 s1 s2 A2 M1) := (HN5.out.gr (Gr.refl _).alloc).gr hg6
  have HM6 : Hid (TwoAt w6 w2.heap.size _ _) := (HM5.out.gr (Gr.refl _).alloc).gr hg6
  have HQ6 : Hid (TwoAt w6 w3.heap.size _ _) := (HQ5.out.gr (Gr.refl _).alloc).gr hg6
  have HV6 : Hid (TwoAt w6 w5.heap.size _ _) := (TwoAt.new w5 _ _ _ _ rfl).gr hg6
  have g6 : Gr w w6 := g5.alloc.trans hg6
  clear m0 m1 ml
  obtain ⟨m0, m1, _, _, ml⟩ := HM6.out
  obtain ⟨n0, n1, _, _, nl⟩ := HQ6.out
  clear hg6 HL5 HN5 HM5 HQ5 HU5 g5
  go_wp2_with fail
  refine (same7_eq A2 M1 p1 p2 s1 s2 q1 q2 t1 t2 _ (HL6.out.gr (Gr.refl _).alloc).a (HL6.out.gr (Gr.refl _).alloc).m (HN6.out.gr (Gr.refl _).alloc).a (HN6.out.gr (Gr.refl _).alloc).m (by decide) (by decide)).mono ?_
  rintro e w7 ⟨rfl, hg7⟩
  have HU7 : Hid (LedAt w7 u1 u2 A1 M2) := (HU6.out.gr (Gr.refl _).alloc).gr hg7
  have HV7 : Hid (TwoAt w7 w5.heap.size _ _) := (HV6.out.gr (Gr.refl _).alloc).gr hg7
  have HX7 : Hid (AccAt w7 w6.heap.size _ _ _ _ _ _ _) := (AccAt.new w6 _ _ _ _ _ _ _ _ _ rfl).gr hg7
  have g7 : Gr w w7 := g6.alloc.trans hg7
  clear m0 m1 ml n0 n1 nl
  obtain ⟨v0, v3, _, _, vl⟩ := HV7.out
  clear hg7 HL6 HN6 HM6 HQ6 HV6 HU6 g6
  go_wp2_with fail
  refine (awkState u1 v1 u2 v2 _ HU7.out).mono ?_
  rintro e w8 ⟨rfl, hg8⟩
  have HX8 : Hid (AccAt w8 w6.heap.size _ _ _ _ _ _ _) := HX7.out.gr hg8
  have g8 : Gr w w8 := g7.trans hg8
  obtain ⟨c0, c1, c2, c3, c4, c5, c6⟩ := HX8.out.cells
  have cl := HX8.out.lt
  clear v0 v3 vl hg8 HU7 HV7 HX7 g7
  go_wp2_with fail
  refine (awkMay _ 1 none 0 _ (acc_alone (x := accZ) (AccAt.new w8 _ _ _ _ _ _ _ _ _ rfl))).mono ?_
  rintro e w9 ⟨rfl, hg9⟩
  have g9 : Gr w w9 := g8.alloc.trans hg9
  clear hg9 g8 HX8
  go_wp2
  go_ret
  exact ⟨rfl, g9⟩
end Go.Proofs.Ytgidkmipecfjhaa
namespace Go.Proofs.Ytgidkmipecfjhaa
open Go.ChangeShapes Go.WideShapes Go.ChangeAt Go.RowKit
open Led (Acc Mk)
theorem own2 : ownKnob Try.prog.godebug = none := by kernel_rfl
theorem laidOut2 : laidOutB Try.prog = true := by kernel_rfl
theorem rng_i64 {n : Int} (h : (Lit.int .i64 n).wf = true) : -9223372036854775808 ≤ n ∧ n ≤ 9223372036854775807 := by
  simp only [Lit.wf, Bool.and_eq_true, decide_eq_true_eq] at h
  exact h
def inC (q : Cal) : Prop := inI q.kd ∧ q.key.size ≤ 9223372036854775807 ∧ inI q.k ∧ q.t.size ≤ 9223372036854775807 ∧ inI q.n
def CalsAt (w : World) (ad : Option Addr) (T : List Cal) : Prop :=
  ∀ j (h : j < T.length), ∃ b off, ad = some ⟨b, off, none⟩ ∧ b < w.heap.size ∧ w.cell? ⟨b, off + j * 5, none⟩ = some (.int .i64 T[j].kd) ∧ w.cell? ⟨b, off + j * 5 + 1, none⟩ = some (.string T[j].key) ∧ w.cell? ⟨b, off + j * 5 + 2, none⟩ = some (.int .i64 T[j].k) ∧ w.cell? ⟨b, off + j * 5 + 3, none⟩ = some (.string T[j].t) ∧ w.cell? ⟨b, off + j * 5 + 4, none⟩ = some (.int .i64 T[j].n)
theorem CalsAt.gr {w w' : World} {ad : Option Addr} {T : List Cal} (h : CalsAt w ad T) (g : Gr w w') : CalsAt w' ad T := by
  intro j hj
  obtain ⟨b, off, e, hb, h1, h2, h3, h4, h5⟩ := h j hj
  exact ⟨b, off, e, Nat.lt_of_lt_of_le hb g.size, g.keep h1, g.keep h2, g.keep h3, g.keep h4, g.keep h5⟩
set_option maxRecDepth 100000 in
theorem trod_act {H : Type} {enc : TypeId × Value → H} {W : World} {base : Nat} {sp : Nat → Bool} {held : Bool} {fuel : Nat} {u v q : Value} {x : DataW H × List MemPlace}
    (h : DataW.trod enc Try.prog W base sp held fuel 44 [u, v, q] = some x) : ∃ k s n, u = .int .i64 k ∧ v = .string s ∧ q = .int .i64 n ∧ inI k ∧ s.size ≤ 9223372036854775807 ∧ inI n := by
  obtain ⟨y0, y1, y2, n, _, _, t0, t1, t2⟩ := Deep.trod_struct3 Try.underlying44 h
  have k0 : Try.prog.cellsOf 3 = 1 := by kernel_rfl
  have k1 : Try.prog.cellsOf 9 = 1 := by kernel_rfl
  have k2 : Try.prog.cellsOf 2 = 1 := by kernel_rfl
  simp [k0, k1, k2] at t0 t1 t2
  obtain ⟨z0, e0, _, r0⟩ := DataW.trod_int Try.underlying3 t0
  obtain ⟨z1, e1, _, r1⟩ := DataW.trod_string Try.underlying9 t1
  obtain ⟨z2, e2, _, r2⟩ := DataW.trod_int Try.underlying2 t2
  simp at e0 e1 e2
  subst e0 e1 e2
  unfold maxLen at r1
  exact ⟨z0, z1, z2, rfl, rfl, rfl, rng_i64 r0, by omega, rng_i64 r2⟩
set_option maxRecDepth 100000 in
theorem trod_cal {H : Type} {enc : TypeId × Value → H} {W : World} {base : Nat} {sp : Nat → Bool} {held : Bool} {fuel : Nat} {v0 v1 v2 v3 v4 : Value} {x : DataW H × List MemPlace}
    (h : DataW.trod enc Try.prog W base sp held fuel 46 [v0, v1, v2, v3, v4] = some x) : ∃ q : Cal, v0 = .int .i64 q.kd ∧ v1 = .string q.key ∧ v2 = .int .i64 q.k ∧ v3 = .string q.t ∧ v4 = .int .i64 q.n ∧ inC q := by
  obtain ⟨y0, y1, y2, n, _, _, t0, t1, t2⟩ := Deep.trod_struct3 Try.underlying46 h
  have k0 : Try.prog.cellsOf 3 = 1 := by kernel_rfl
  have k1 : Try.prog.cellsOf 9 = 1 := by kernel_rfl
  have k2 : Try.prog.cellsOf 44 = 3 := by kernel_rfl
  simp [k0, k1, k2] at t0 t1 t2
  obtain ⟨z0, e0, _, r0⟩ := DataW.trod_int Try.underlying3 t0
  obtain ⟨z1, e1, _, r1⟩ := DataW.trod_string Try.underlying9 t1
  simp at e0 e1
  subst e0 e1
  obtain ⟨k, s, m, rfl, rfl, rfl, h1, h2, h3⟩ := trod_act t2
  unfold maxLen at r1
  exact ⟨⟨z0, z1, k, s, m⟩, rfl, rfl, rfl, rfl, rfl, rng_i64 r0, (by show z1.size ≤ _; omega), h1, h2, h3⟩
set_option maxRecDepth 100000 in
theorem open_calls {H : Type} {enc : TypeId × Value → H} {W : World} {base : Nat} {v : Value} {d : DataW H} {ps : List MemPlace}
    (hok : Value.okWide Try.prog W .any base 57 v) (h : DataW.Trod enc Try.prog W 0 (fun _ => true) true 57 v d ps) :
    ∃ ad cap, ∃ T : List Cal, v = .slice ad T.length cap ∧ CalsAt W ad T ∧ T.length ≤ 9223372036854775807 ∧ ∀ t ∈ T, inC t := by
  obtain ⟨a0, len0, cap0, rfl⟩ := okWide_slice Try.underlying57 hok
  obtain ⟨fuel, hf⟩ := h
  rcases Deep.open_slice Try.underlying57 hf with ⟨hcs, _⟩ | ⟨a, len, cap, m, n, D, Pl, hcs, _, hl, hm, hmm, _, hx⟩
  · simp [Value.cells] at hcs
    obtain ⟨rfl, rfl, rfl⟩ := hcs
    exact ⟨none, 0, [], rfl, fun j hj => absurd hj (by simp), by simp, by simp⟩
  · simp [Value.cells] at hcs
    obtain ⟨rfl, rfl, rfl⟩ := hcs
    have hlm : len0 ≤ m := by rw [hmm]; split <;> omega
    have ce : Try.prog.cellsOf 46 = 5 := by kernel_rfl
    have each : ∀ i, i < len0 → ∃ t : Cal, W.cell? (a.add (i * 5)) = some (.int .i64 t.kd) ∧ W.cell? (a.add (i * 5 + 1)) = some (.string t.key) ∧ W.cell? (a.add (i * 5 + 2)) = some (.int .i64 t.k) ∧ W.cell? (a.add (i * 5 + 3)) = some (.string t.t) ∧ W.cell? (a.add (i * 5 + 4)) = some (.int .i64 t.n) ∧ inC t := by
      intro i hi
      obtain ⟨cs, h1, h2⟩ := hx i (by omega)
      rw [ce] at h1
      obtain ⟨_, hlen, hcell⟩ := World.cells?_some h1
      match cs, hlen with
      | [v0, v1, v2, v3, v4], _ =>
        obtain ⟨q, rfl, rfl, rfl, rfl, rfl, hT⟩ := trod_cal h2
        have c0 := hcell 0 (by omega)
        have c1 := hcell 1 (by omega)
        have c2 := hcell 2 (by omega)
        have c3 := hcell 3 (by omega)
        have c4 := hcell 4 (by omega)
        rw [Deep.add_add] at c0 c1 c2 c3 c4
        exact ⟨q, by simpa using c0, by simpa using c1, by simpa using c2, by simpa using c3, by simpa using c4, hT⟩
    have hin : Inhabited Cal := ⟨⟨0, ⟨#[]⟩, 0, ⟨#[]⟩, 0⟩⟩
    obtain ⟨f, hfq⟩ := Deep.choose_lt each
    unfold maxLen at hm
    refine ⟨some a, cap0, (List.range len0).map f, by simp, ?_, by simp; omega, ?_⟩
    · intro j hj
      have hj' : j < len0 := by simpa using hj
      obtain ⟨c0, c1, c2, c3, c4, _⟩ := hfq j hj'
      obtain ⟨b, off, spot⟩ := a
      have hspot : spot = none := by
        have := World.cell?_spot (hfq 0 (by omega)).1
        simpa [Addr.add] using this
      subst hspot
      rw [Addr.add_lit] at c0 c1 c2 c3 c4
      refine ⟨b, off, rfl, World.block_lt_of_cell? W _ c0, by simpa using c0, ?_, ?_, ?_, ?_⟩
      · rw [← Nat.add_assoc] at c1; simpa using c1
      · rw [← Nat.add_assoc] at c2; simpa using c2
      · rw [← Nat.add_assoc] at c3; simpa using c3
      · rw [← Nat.add_assoc] at c4; simpa using c4
    · intro t ht
      obtain ⟨j, hj, rfl⟩ := List.mem_map.1 ht
      exact (hfq j (by simpa using hj)).2.2.2.2.2
end Go.Proofs.Ytgidkmipecfjhaa
namespace Go.Proofs.Ytgidkmipecfjhaa
open Go.RowKit
set_option maxHeartbeats 2000000 in
set_option maxRecDepth 100000 in
theorem few_any (T : List Cal) (ad : Option Addr) (cap : Nat) (w : World) (h : CalsAt w ad T) (hn : T.length ≤ 9223372036854775807) :
    Calls Try.prog 26 #[.slice ad T.length cap] w fun e w' => e = .returned (.bool (decide (T.length ≤ 120) && T.all (fun q => decide (q.key.size ≤ 1000)))) ∧ Gr w w' := by
  have H : Hid (CalsAt w ad T) := h
  clear h
  by_cases hlen : (120 : Int) < (T.length : Int)
  · have hd : decide (T.length ≤ 120) = false := decide_eq_false (by omega)
    rw [hd, Bool.false_and]
    go_enter Try.func26, Try.ntmps26
    go_wp2
    go_ret
    exact ⟨rfl, Gr.refl _⟩
  have hd : decide (T.length ≤ 120) = true := decide_eq_true (by omega)
  rw [hd, Bool.true_and]
  clear hd
  go_enter Try.func26, Try.ntmps26
  go_wp2
  go_loopw [3] (fun ix wr => ∃ k : Nat, k ≤ T.length ∧ ix = .int .i64 k ∧ wr = w ∧ ∀ j (h : j < T.length), j < k → T[j].key.size ≤ 1000)
      (fun ix _ => T.length - (intOf ix).toNat)
  case atStart => exact ⟨0, by omega, rfl, rfl, fun j _ hj => absurd hj (by omega)⟩
  case round =>
    obtain ⟨k, hk, rfl, rfl, hall⟩ := hrel
    by_cases hlt : k < T.length
    · obtain ⟨b, off, rfl, hb, c0, c1, c2, c3, c4⟩ := H.out k hlt
      have hki : (k : Int) < (T.length : Int) := by omega
      obtain ⟨t, ht⟩ : ∃ t, T[k] = t := ⟨_, rfl⟩
      rw [ht] at c0 c1 c2 c3 c4
      by_cases hs : (1000 : Int) < (t.key.size : Int)
      · have hno : T.all (fun q => decide (q.key.size ≤ 1000)) = false := by
          rw [List.all_eq_false]
          exact ⟨t, ht ▸ List.getElem_mem hlt, by simp; omega⟩
        have HNo : Hid (T.all (fun q => decide (q.key.size ≤ 1000)) = false) := hno
        clear hno ht hall
        go_wp2
        go_ret
        exact ⟨by rw [HNo.out]; rfl, Gr.refl _⟩
      · have HN : Hid (∀ j (h : j < T.length), j < k + 1 → T[j].key.size ≤ 1000) := fun j h1 h2 => by
          rcases Nat.lt_or_ge j k with h3 | h3
          · exact hall j h1 h3
          · have : j = k := by omega
            subst this; rw [ht]; omega
        clear ht hall
        go_wp2
        exact ⟨⟨k + 1, by omega, by simp, trivial, HN.out⟩, by simp only [intOf]; omega⟩
    · have hki : ¬ (k : Int) < (T.length : Int) := by omega
      have hyes : T.all (fun q => decide (q.key.size ≤ 1000)) = true := by
        rw [List.all_eq_true]
        intro q hq
        obtain ⟨j, hj, rfl⟩ := List.mem_iff_getElem.1 hq
        exact decide_eq_true (hall j hj (by omega))
      have HY : Hid (T.all (fun q => decide (q.key.size ≤ 1000)) = true) := hyes
      clear hyes hall
      go_wp2
      go_ret
      exact ⟨by rw [HY.out]; rfl, Gr.refl _⟩
end Go.Proofs.Ytgidkmipecfjhaa
