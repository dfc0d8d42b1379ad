/- What the proof is made of, part 33. -/
import Derived.Test.YtgidkmipecfjhaaTLLDoes32
import Derived.BigQuiet
import Derived.Test.YtgidkmipecfjhaaRows
import Derived.ProofKit
import Derived.OpenShut
import Derived.Deep.SlicePairs
import Derived.Deep.Strs
import Derived.Deep.DeepCutAuto
import Derived.ChangeSame
namespace Go.Proofs.Ytgidkmipecfjhaa
open Go.RowKit
open Led (Acc Mk)
set_option maxHeartbeats 4000000 in
set_option maxRecDepth 100000 in
theorem same7_eq (A : List Acc) (M : List Mk) (a1 a2 b1 b2 : Option Addr) (c1 c2 c3 c4 : Nat) (w : World) (hA : AccsAt w a1 A) (hM : MksAt w a2 M) (hA' : AccsAt w b1 A) (hM' : MksAt w b2 M) (hnA : A.length ≤ 9223372036854775807) (hnM : M.length ≤ 9223372036854775807) :
    Calls Try.prog 25 #[.agg #[.slice a1 A.length c1, .slice a2 M.length c2], .agg #[.slice b1 A.length c3, .slice b2 M.length c4]] w fun e w' => e = .returned (.bool true) ∧ Gr w w' := by
  have H1 : Hid (AccsAt w a1 A) := hA
  have H2 : Hid (MksAt w a2 M) := hM
  have H3 : Hid (AccsAt w b1 A) := hA'
  have H4 : Hid (MksAt w b2 M) := hM'
  clear hA hM hA' hM'
  go_enter Try.func25, Try.ntmps25
  go_wp2
  have HBX : Hid (TwoAt ((w.alloc (.cells #[.slice a1 A.length c1, .slice a2 M.length c2] 25)).alloc (.cells #[.slice b1 A.length c3, .slice b2 M.length c4] 25)) w.heap.size (.slice a1 A.length c1) (.slice a2 M.length c2)) := (TwoAt.new w _ _ _ _ rfl).gr (Gr.refl _).alloc
  have HBY : Hid (TwoAt ((w.alloc (.cells #[.slice a1 A.length c1, .slice a2 M.length c2] 25)).alloc (.cells #[.slice b1 A.length c3, .slice b2 M.length c4] 25)) (w.heap.size + 1) (.slice b1 A.length c3) (.slice b2 M.length c4)) := TwoAt.new _ _ _ _ (w.heap.size + 1) (by simp)
  go_loopw [5] (fun s5 wr => ∃ k : Nat, s5 = .int .i64 k ∧ k ≤ A.length ∧ TwoAt wr w.heap.size (.slice a1 A.length c1) (.slice a2 M.length c2) ∧ TwoAt wr (w.heap.size + 1) (.slice b1 A.length c3) (.slice b2 M.length c4) ∧ Gr w wr) (fun s5 _ => A.length - (intOf s5).toNat)
  case atStart => exact ⟨0, rfl, Nat.zero_le _, HBX.out, HBY.out, (Gr.refl _).alloc.alloc⟩
  case round =>
    clear HBX HBY
    obtain ⟨k, rfl, hk, hX, hY, hg⟩ := hrel
    have HX : Hid (TwoAt wr w.heap.size (.slice a1 A.length c1) (.slice a2 M.length c2)) := hX
    have HY : Hid (TwoAt wr (w.heap.size + 1) (.slice b1 A.length c3) (.slice b2 M.length c4)) := hY
    have HG : Hid (Gr w wr) := hg
    obtain ⟨x0, x1, _, _, xl⟩ := hX
    obtain ⟨y0, y1, _, _, yl⟩ := hY
    clear hg
    by_cases hlt : k < A.length
    · obtain ⟨b, off, rfl, hb, d0, d1, d2, d3, d4, d5, d6⟩ := (AccsAt.at H1.out k hlt)
      obtain ⟨b', off', rfl, hb', e0, e1, e2, e3, e4, e5, e6⟩ := (AccsAt.at H3.out k hlt)
      have d0 := HG.out.keep d0
      have d1 := HG.out.keep d1
      have d2 := HG.out.keep d2
      have d3 := HG.out.keep d3
      have d4 := HG.out.keep d4
      have d5 := HG.out.keep d5
      have d6 := HG.out.keep d6
      have e0 := HG.out.keep e0
      have e1 := HG.out.keep e1
      have e2 := HG.out.keep e2
      have e3 := HG.out.keep e3
      have e4 := HG.out.keep e4
      have e5 := HG.out.keep e5
      have e6 := HG.out.keep e6
      have hbw : b < wr.heap.size := Nat.lt_of_lt_of_le hb HG.out.size
      have hbw' : b' < wr.heap.size := Nat.lt_of_lt_of_le hb' HG.out.size
      have hki : (k : Int) < (A.length : Int) := by omega
      generalize A[k] = x at *
      go_wp2_with fail
      go_quiet (fail)
      go_wp2
      go_roundw
      case rel => exact ⟨k + 1, by go_num, by omega, HX.out.gr ((Gr.refl _).drewN _), HY.out.gr ((Gr.refl _).drewN _), HG.out.drewN _⟩
      case measure => simp [intOf]; omega
    · have hge : ¬ ((k : Int) < (A.length : Int)) := by omega
      go_wp2
      go_loopw [6] (fun s6 wr => ∃ k : Nat, s6 = .int .i64 k ∧ k ≤ M.length ∧ TwoAt wr w.heap.size (.slice a1 A.length c1) (.slice a2 M.length c2) ∧ TwoAt wr (w.heap.size + 1) (.slice b1 A.length c3) (.slice b2 M.length c4) ∧ Gr w wr) (fun s6 _ => M.length - (intOf s6).toNat)
      case atStart => exact ⟨0, rfl, Nat.zero_le _, HX.out, HY.out, HG.out⟩
      case round =>
        clear HX HY HG x0 x1 xl y0 y1 yl
        obtain ⟨k, rfl, hk, hX, hY, hg⟩ := hrel
        have HX : Hid (TwoAt wr w.heap.size (.slice a1 A.length c1) (.slice a2 M.length c2)) := hX
        have HY : Hid (TwoAt wr (w.heap.size + 1) (.slice b1 A.length c3) (.slice b2 M.length c4)) := hY
        have HG : Hid (Gr w wr) := hg
        obtain ⟨x0, x1, _, _, xl⟩ := hX
        obtain ⟨y0, y1, _, _, yl⟩ := hY
        clear hg
        by_cases hlt : k < M.length
        · obtain ⟨b, off, rfl, hb, d0, d1, d2, d3, d4⟩ := (MksAt.at H2.out k hlt)
          obtain ⟨b', off', rfl, hb', e0, e1, e2, e3, e4⟩ := (MksAt.at H4.out k hlt)
          have d0 := HG.out.keep d0
          have d1 := HG.out.keep d1
          have d2 := HG.out.keep d2
          have d3 := HG.out.keep d3
          have d4 := HG.out.keep d4
          have e0 := HG.out.keep e0
          have e1 := HG.out.keep e1
          have e2 := HG.out.keep e2
          have e3 := HG.out.keep e3
          have e4 := HG.out.keep e4
          have hbw : b < wr.heap.size := Nat.lt_of_lt_of_le hb HG.out.size
          have hbw' : b' < wr.heap.size := Nat.lt_of_lt_of_le hb' HG.out.size
          have hki : (k : Int) < (M.length : Int) := by omega
          generalize M[k] = x at *
          go_wp2_with fail
          go_quiet (fail)
          go_wp2
          go_roundw
          case rel => exact ⟨k + 1, by go_num, by omega, HX.out.gr ((Gr.refl _).drewN _), HY.out.gr ((Gr.refl _).drewN _), HG.out.drewN _⟩
          case measure => simp [intOf]; omega
        · have hge : ¬ ((k : Int) < (M.length : Int)) := by omega
          go_wp2
          go_ret
          exact ⟨rfl, HG.out⟩
end Go.Proofs.Ytgidkmipecfjhaa
namespace Go.Proofs.Ytgidkmipecfjhaa
open Go.RowKit
open Led (Acc Mk)
theorem acc_alone {w : World} {g : Nat} {x : Acc} (h : AccAt w g (.string x.s) (.int .i64 x.a) (.int .i64 x.b) (.int .i64 x.c) (.int .i64 x.x) (.int .i64 x.y) (.int .i64 x.z)) : AccsAt w (some ⟨g, 0, none⟩) [x] := by
  have hb := h.lt
  obtain ⟨c0, c1, c2, c3, c4, c5, c6⟩ := h.cells
  intro j u hu
  rw [show [x].flatMap accC = accC x by simp] at hu
  unfold accC at hu
  match j, hu with
  | 0, hu => cases hu; exact ⟨g, 0, rfl, hb, c0⟩
  | 1, hu => cases hu; exact ⟨g, 0, rfl, hb, c1⟩
  | 2, hu => cases hu; exact ⟨g, 0, rfl, hb, c2⟩
  | 3, hu => cases hu; exact ⟨g, 0, rfl, hb, c3⟩
  | 4, hu => cases hu; exact ⟨g, 0, rfl, hb, c4⟩
  | 5, hu => cases hu; exact ⟨g, 0, rfl, hb, c5⟩
  | 6, hu => cases hu; exact ⟨g, 0, rfl, hb, c6⟩
  | j + 7, hu => simp at hu
theorem LedAt.setFar {w : World} {a1 a2 : Option Addr} {A : List Acc} {M : List Mk} (h : LedAt w a1 a2 A M) (p : Addr) (v : Value) (h1 : ∀ a, a1 = some a → p.block ≠ a.block) (h2 : ∀ a, a2 = some a → p.block ≠ a.block) : LedAt (w.setCell p v) a1 a2 A M :=
  ⟨h.a.setFar p v h1, h.m.setFar p v h2, h.ra, h.rm, h.la, h.lm⟩
set_option maxHeartbeats 4000000 in
set_option maxRecDepth 100000 in
theorem awake_any (w : World) : Calls Try.prog 9 #[] w fun e w' => e = .returned (.bool true) ∧ Gr w w' := by
  go_enter Try.func9, Try.ntmps9
  go_wp2_with fail
  refine (awkOpen _).mono ?_
  rintro e w1 ⟨x1, y1, x2, y2, rfl, hl1, hg1⟩
  have HL1 : Hid (LedAt w1 x1 x2 A1 []) := hl1
  have g1 : Gr w w1 := hg1
  clear hl1 hg1
  go_wp2_with fail
  refine (awkDo x1 y1 x2 y2 _ (HL1.out.gr (Gr.refl _).alloc.alloc)).mono ?_
  rintro e w2 ⟨p1, q1, p2, q2, rfl, hl2, hf1, hf2, hg2⟩
  have HL2 : Hid (LedAt w2 p1 p2 A2 M1) := hl2
  have HF1 : Hid (∀ a, p1 = some a → w1.heap.size + 1 ≠ a.block) := fun a e => by have := hf1 a e; simp at this; omega
  have HF2 : Hid (∀ a, p2 = some a → w1.heap.size + 1 ≠ a.block) := fun a e => by have := hf2 a e; simp at this; omega
  have HB2 : Hid (BoxAt w2 (w1.heap.size + 1) _ _ _) := (BoxAt.new (w1.alloc _) _ _ _ _ (w1.heap.size + 1) (by simp)).gr hg2
  have g2 : Gr w w2 := g1.alloc.alloc.trans hg2
  have z1 := g1.size
  have z2 := hg2.size
  simp at z2
  obtain ⟨a0, a1, a2, af0, af1, af2, al⟩ := HB2.out
  clear hl2 hg2 hf1 hf2 HL1 g1
  go_wp2_with fail
  refine (awkDo2 p1 q1 p2 q2 _ (HL2.out.gr (Gr.refl _).alloc)).mono ?_
  rintro e w3 ⟨s1, t1, s2, t2, rfl, hl3, hf1, hf2, hg3⟩
  have HL3 : Hid (LedAt w3 p1 p2 A2 M1) := (HL2.out.gr (Gr.refl _).alloc).gr hg3
  have HN3 : Hid (LedAt w3 s1 s2 A2 M1) := hl3
  have HE1 : Hid (∀ a, s1 = some a → w1.heap.size + 1 ≠ a.block) := fun a e => by have := hf1 a e; simp at this; omega
  have HE2 : Hid (∀ a, s2 = some a → w1.heap.size + 1 ≠ a.block) := fun a e => by have := hf2 a e; simp at this; omega
  have HB3 : Hid (BoxAt w3 (w1.heap.size + 1) _ _ _) := (HB2.out.gr (Gr.refl _).alloc).gr hg3
  have HM3 : Hid (TwoAt w3 w2.heap.size _ _) := (TwoAt.new w2 _ _ _ _ rfl).gr hg3
  have g3 : Gr w w3 := g2.alloc.trans hg3
  have z3 := hg3.size
  simp at z3
  clear a0 a1 a2 af0 af1 af2 al
  obtain ⟨a0, a1, a2, af0, af1, af2, al⟩ := HB3.out
  obtain ⟨m0, m1, _, _, ml⟩ := HM3.out
  clear hl3 hg3 hf1 hf2 g2 HL2
  go_wp2_with fail
  have gs : Gr w ((w3.setCell ⟨w1.heap.size + 1, 2, none⟩ (.int .i64 5)).alloc (.cells #[.slice s1 1 t1, .slice s2 1 t2] 25)) := (g3.set _ (by simp; omega) _).alloc
  have HLs : Hid (LedAt ((w3.setCell ⟨w1.heap.size + 1, 2, none⟩ (.int .i64 5)).alloc (.cells #[.slice s1 1 t1, .slice s2 1 t2] 25)) p1 p2 A2 M1) := (HL3.out.setFar _ _ HF1.out HF2.out).gr (Gr.refl _).alloc
  have HNs : Hid (LedAt ((w3.setCell ⟨w1.heap.size + 1, 2, none⟩ (.int .i64 5)).alloc (.cells #[.slice s1 1 t1, .slice s2 1 t2] 25)) s1 s2 A2 M1) := (HN3.out.setFar _ _ HE1.out HE2.out).gr (Gr.refl _).alloc
  have HMs : Hid (TwoAt ((w3.setCell ⟨w1.heap.size + 1, 2, none⟩ (.int .i64 5)).alloc (.cells #[.slice s1 1 t1, .slice s2 1 t2] 25)) w2.heap.size _ _) := (HM3.out.far _ _ (by simp; omega)).gr (Gr.refl _).alloc
  have HQs : Hid (TwoAt ((w3.setCell ⟨w1.heap.size + 1, 2, none⟩ (.int .i64 5)).alloc (.cells #[.slice s1 1 t1, .slice s2 1 t2] 25)) w3.heap.size _ _) := TwoAt.new _ _ _ _ w3.heap.size (by simp)
  clear HL3 HN3 HM3 HB3 HB2 HF1 HF2 HE1 HE2 g3
  refine (awkDo3 p1 q1 p2 q2 _ HLs.out).mono ?_
  rintro e w4 ⟨rfl, hg4⟩
  have HL4 : Hid (LedAt w4 p1 p2 A2 M1) := HLs.out.gr hg4
  have HN4 : Hid (LedAt w4 s1 s2 A2 M1) := HNs.out.gr hg4
  have HM4 : Hid (TwoAt w4 w2.heap.size _ _) := HMs.out.gr hg4
  have HQ4 : Hid (TwoAt w4 w3.heap.size _ _) := HQs.out.gr hg4
  have g4 : Gr w w4 := gs.trans hg4
  have z4 := hg4.size
  simp at z4
  clear a0 a1 a2 af0 af1 af2 al m0 m1 ml
  obtain ⟨m0, m1, _, _, ml⟩ := HM4.out
  clear hg4 HLs HNs HMs HQs gs
  go_wp2_with fail
  refine (awkUndo p1 q1 p2 q2 _ (HL4.out.gr (Gr.refl _).alloc)).mono ?_
  rintro e w5 ⟨u1, v1, u2, v2, rfl, hl5, hg5⟩
  have HU5 : Hid (LedAt w5 u1 u2 A1 M2) := hl5
  have HL5 : Hid (LedAt w5 p1 p2 A2 M1) := (HL4.out.gr (Gr.refl _).alloc).gr hg5
  have HN5 : Hid (LedAt w5 s1 s2 A2 M1) := (HN4.out.gr (Gr.refl _).alloc).gr hg5
  have HM5 : Hid (TwoAt w5 w2.heap.size _ _) := (HM4.out.gr (Gr.refl _).alloc).gr hg5
  have HQ5 : Hid (TwoAt w5 w3.heap.size _ _) := (HQ4.out.gr (Gr.refl _).alloc).gr hg5
  have g5 : Gr w w5 := g4.alloc.trans hg5
  clear m0 m1 ml
  obtain ⟨m0, m1, _, _, ml⟩ := HM5.out
  clear hg5 hl5 HL4 HN4 HM4 HQ4 g4
  go_wp2_with fail
  refine (awkFind p1 q1 p2 q2 _ (HL5.out.gr (Gr.refl _).alloc)).mono ?_
  rintro e w6 ⟨rfl, hg6⟩
  have HU6 : Hid (LedAt w6 u1 u2 A1 M2) := (HU5.out.gr (Gr.refl _).alloc).gr hg6
  have HL6 : Hid (LedAt w6 p1 p2 A2 M1) := (HL5.out.gr (Gr.refl _).alloc).gr hg6
  have HN6 : Hid (LedAt w6 s1 s2 A2 M1) := (HN5.out.gr (Gr.refl _).alloc).gr hg6
  have HM6 : Hid (TwoAt w6 w2.heap.size _ _) := (HM5.out.gr (Gr.refl _).alloc).gr hg6
  have HQ6 : Hid (TwoAt w6 w3.heap.size _ _) := (HQ5.out.gr (Gr.refl _).alloc).gr hg6
  have HV6 : Hid (TwoAt w6 w5.heap.size _ _) := (TwoAt.new w5 _ _ _ _ rfl).gr hg6
  have g6 : Gr w w6 := g5.alloc.trans hg6
  clear m0 m1 ml
  obtain ⟨m0, m1, _, _, ml⟩ := HM6.out
  obtain ⟨n0, n1, _, _, nl⟩ := HQ6.out
  clear hg6 HL5 HN5 HM5 HQ5 HU5 g5
  go_wp2_with fail
  refine (same7_eq A2 M1 p1 p2 s1 s2 q1 q2 t1 t2 _ (HL6.out.gr (Gr.refl _).alloc).a (HL6.out.gr (Gr.refl _).alloc).m (HN6.out.gr (Gr.refl _).alloc).a (HN6.out.gr (Gr.refl _).alloc).m (by decide) (by decide)).mono ?_
  rintro e w7 ⟨rfl, hg7⟩
  have HU7 : Hid (LedAt w7 u1 u2 A1 M2) := (HU6.out.gr (Gr.refl _).alloc).gr hg7
  have HV7 : Hid (TwoAt w7 w5.heap.size _ _) := (HV6.out.gr (Gr.refl _).alloc).gr hg7
  have HX7 : Hid (AccAt w7 w6.heap.size _ _ _ _ _ _ _) := (AccAt.new w6 _ _ _ _ _ _ _ _ _ rfl).gr hg7
  have g7 : Gr w w7 := g6.alloc.trans hg7
  clear m0 m1 ml n0 n1 nl
  obtain ⟨v0, v3, _, _, vl⟩ := HV7.out
  clear hg7 HL6 HN6 HM6 HQ6 HV6 HU6 g6
  go_wp2_with fail
  refine (awkState u1 v1 u2 v2 _ HU7.out).mono ?_
  rintro e w8 ⟨rfl, hg8⟩
  have HX8 : Hid (AccAt w8 w6.heap.size _ _ _ _ _ _ _) := HX7.out.gr hg8
  have g8 : Gr w w8 := g7.trans hg8
  obtain ⟨c0, c1, c2, c3, c4, c5, c6⟩ := HX8.out.cells
  have cl := HX8.out.lt
  clear v0 v3 vl hg8 HU7 HV7 HX7 g7
  go_wp2_with fail
  refine (awkMay _ 1 none 0 _ (acc_alone (x := accZ) (AccAt.new w8 _ _ _ _ _ _ _ _ _ rfl))).mono ?_
  rintro e w9 ⟨rfl, hg9⟩
  have g9 : Gr w w9 := g8.alloc.trans hg9
  clear hg9 g8 HX8
  go_wp2
  go_ret
  exact ⟨rfl, g9⟩
end Go.Proofs.Ytgidkmipecfjhaa
namespace Go.Proofs.Ytgidkmipecfjhaa
open Go.ChangeShapes Go.WideShapes Go.ChangeAt Go.RowKit
open Led (Acc Mk)
theorem own2 : ownKnob Try.prog.godebug = none := by kernel_rfl
theorem laidOut2 : laidOutB Try.prog = true := by kernel_rfl
theorem rng_i64 {n : Int} (h : (Lit.int .i64 n).wf = true) : -9223372036854775808 ≤ n ∧ n ≤ 9223372036854775807 := by
  simp only [Lit.wf, Bool.and_eq_true, decide_eq_true_eq] at h
  exact h
def inC (q : Cal) : Prop := inI q.kd ∧ q.key.size ≤ 9223372036854775807 ∧ inI q.k ∧ q.t.size ≤ 9223372036854775807 ∧ inI q.n
def CalsAt (w : World) (ad : Option Addr) (T : List Cal) : Prop :=
  ∀ j (h : j < T.length), ∃ b off, ad = some ⟨b, off, none⟩ ∧ b < w.heap.size ∧ w.cell? ⟨b, off + j * 5, none⟩ = some (.int .i64 T[j].kd) ∧ w.cell? ⟨b, off + j * 5 + 1, none⟩ = some (.string T[j].key) ∧ w.cell? ⟨b, off + j * 5 + 2, none⟩ = some (.int .i64 T[j].k) ∧ w.cell? ⟨b, off + j * 5 + 3, none⟩ = some (.string T[j].t) ∧ w.cell? ⟨b, off + j * 5 + 4, none⟩ = some (.int .i64 T[j].n)
theorem CalsAt.gr {w w' : World} {ad : Option Addr} {T : List Cal} (h : CalsAt w ad T) (g : Gr w w') : CalsAt w' ad T := by
  intro j hj
  obtain ⟨b, off, e, hb, h1, h2, h3, h4, h5⟩ := h j hj
  exact ⟨b, off, e, Nat.lt_of_lt_of_le hb g.size, g.keep h1, g.keep h2, g.keep h3, g.keep h4, g.keep h5⟩
set_option maxRecDepth 100000 in
theorem trod_act {H : Type} {enc : TypeId × Value → H} {W : World} {base : Nat} {sp : Nat → Bool} {held : Bool} {fuel : Nat} {u v q : Value} {x : DataW H × List MemPlace}
    (h : DataW.trod enc Try.prog W base sp held fuel 44 [u, v, q] = some x) : ∃ k s n, u = .int .i64 k ∧ v = .string s ∧ q = .int .i64 n ∧ inI k ∧ s.size ≤ 9223372036854775807 ∧ inI n := by
  obtain ⟨y0, y1, y2, n, _, _, t0, t1, t2⟩ := Deep.trod_struct3 Try.underlying44 h
  have k0 : Try.prog.cellsOf 3 = 1 := by kernel_rfl
  have k1 : Try.prog.cellsOf 9 = 1 := by kernel_rfl
  have k2 : Try.prog.cellsOf 2 = 1 := by kernel_rfl
  simp [k0, k1, k2] at t0 t1 t2
  obtain ⟨z0, e0, _, r0⟩ := DataW.trod_int Try.underlying3 t0
  obtain ⟨z1, e1, _, r1⟩ := DataW.trod_string Try.underlying9 t1
  obtain ⟨z2, e2, _, r2⟩ := DataW.trod_int Try.underlying2 t2
  simp at e0 e1 e2
  subst e0 e1 e2
  unfold maxLen at r1
  exact ⟨z0, z1, z2, rfl, rfl, rfl, rng_i64 r0, by omega, rng_i64 r2⟩
set_option maxRecDepth 100000 in
theorem trod_cal {H : Type} {enc : TypeId × Value → H} {W : World} {base : Nat} {sp : Nat → Bool} {held : Bool} {fuel : Nat} {v0 v1 v2 v3 v4 : Value} {x : DataW H × List MemPlace}
    (h : DataW.trod enc Try.prog W base sp held fuel 46 [v0, v1, v2, v3, v4] = some x) : ∃ q : Cal, v0 = .int .i64 q.kd ∧ v1 = .string q.key ∧ v2 = .int .i64 q.k ∧ v3 = .string q.t ∧ v4 = .int .i64 q.n ∧ inC q := by
  obtain ⟨y0, y1, y2, n, _, _, t0, t1, t2⟩ := Deep.trod_struct3 Try.underlying46 h
  have k0 : Try.prog.cellsOf 3 = 1 := by kernel_rfl
  have k1 : Try.prog.cellsOf 9 = 1 := by kernel_rfl
  have k2 : Try.prog.cellsOf 44 = 3 := by kernel_rfl
  simp [k0, k1, k2] at t0 t1 t2
  obtain ⟨z0, e0, _, r0⟩ := DataW.trod_int Try.underlying3 t0
  obtain ⟨z1, e1, _, r1⟩ := DataW.trod_string Try.underlying9 t1
  simp at e0 e1
  subst e0 e1
  obtain ⟨k, s, m, rfl, rfl, rfl, h1, h2, h3⟩ := trod_act t2
  unfold maxLen at r1
  exact ⟨⟨z0, z1, k, s, m⟩, rfl, rfl, rfl, rfl, rfl, rng_i64 r0, (by show z1.size ≤ _; omega), h1, h2, h3⟩
end Go.Proofs.Ytgidkmipecfjhaa
namespace Go.Proofs.Ytgidkmipecfjhaa
open Go.ChangeShapes Go.WideShapes Go.ChangeAt Go.RowKit
open Led (Acc Mk)
theorem row_of {α : Type} {f : α → List Value} {c : Nat} (hc : ∀ x, (f x).length = c) (h0 : 0 < c) {w : World} {b off : Nat} {L : List α}
    (each : ∀ q (h : q < L.length) r u, (f L[q])[r]? = some u → w.cell? ⟨b, off + (q * c + r), none⟩ = some u) : RowAt f w (some ⟨b, off, none⟩) L := by
  intro j u hu
  have hj : j < (L.flatMap f).length := by
    rcases Nat.lt_or_ge j (L.flatMap f).length with h | h
    · exact h
    · rw [List.getElem?_eq_none h] at hu; cases hu
  rw [flat_len hc] at hj
  have hr : j % c < c := Nat.mod_lt _ h0
  have hq : j / c < L.length := Nat.div_lt_of_lt_mul (by rw [Nat.mul_comm]; exact hj)
  have e : j = j / c * c + j % c := by rw [Nat.mul_comm]; exact (Nat.div_add_mod j c).symm
  rw [e, flat_get hc L (j / c) hq (j % c) hr] at hu
  have h := each (j / c) hq (j % c) u hu
  rw [← e] at h
  exact ⟨b, off, rfl, World.block_lt_of_cell? w _ h, h⟩
theorem open_rows {α : Type} [Inhabited α] {f : α → List Value} {c : Nat} (hc : ∀ x, (f x).length = c) (h0 : 0 < c) {In : α → Prop} {t e : TypeId} (ht : Try.prog.underlying t = some (.slice e)) (ce : Try.prog.cellsOf e = c)
    {H : Type} {enc : TypeId × Value → H} {W : World} {base : Nat} {sp : Nat → Bool} {held : Bool} {fuel : Nat} {a0 : Option Addr} {len0 cap0 : Nat} {x : DataW H × List MemPlace}
    (elem : ∀ (n : Nat) (cs : List Value) (y : DataW H × List MemPlace), cs.length = c → DataW.trod enc Try.prog W base sp held n e cs = some y → ∃ z : α, cs = f z ∧ In z)
    (hf : DataW.trod enc Try.prog W base sp held fuel t [.slice a0 len0 cap0] = some x) :
    ∃ L : List α, len0 = L.length ∧ RowAt f W a0 L ∧ L.length ≤ 9223372036854775807 ∧ ∀ y ∈ L, In y := by
  rcases Deep.open_slice ht hf with ⟨hcs, _⟩ | ⟨a, len, cap, m, n, D, Pl, hcs, _, hl, hm, hmm, _, hx⟩
  · simp at hcs
    obtain ⟨rfl, rfl, rfl⟩ := hcs
    exact ⟨[], rfl, RowAt.nil, by simp, by simp⟩
  · simp at hcs
    obtain ⟨rfl, rfl, rfl⟩ := hcs
    have hlm : len0 ≤ m := by rw [hmm]; split <;> omega
    have each : ∀ i, i < len0 → ∃ z : α, (∀ r u, (f z)[r]? = some u → W.cell? (a.add (i * c + r)) = some u) ∧ In z := by
      intro i hi
      obtain ⟨cs, h1, h2⟩ := hx i (by omega)
      rw [ce] at h1
      obtain ⟨_, hlen, hcell⟩ := World.cells?_some h1
      obtain ⟨z, rfl, hz⟩ := elem n cs _ hlen h2
      refine ⟨z, fun r u hu => ?_, hz⟩
      have hr : r < c := by
        rcases Nat.lt_or_ge r (f z).length with h | h
        · rw [hc] at h; exact h
        · rw [List.getElem?_eq_none h] at hu; cases hu
      have c0 := hcell r hr
      rw [Deep.add_add] at c0
      rw [c0, ← hu]
    obtain ⟨g, hg⟩ := Deep.choose_lt each
    unfold maxLen at hm
    refine ⟨(List.range len0).map g, by simp, ?_, by simp; omega, ?_⟩
    · cases len0 with
      | zero => simp; exact RowAt.nil
      | succ l =>
        obtain ⟨b, off, spot⟩ := a
        have h00 : 0 < (f (g 0)).length := by rw [hc]; exact h0
        have hspot : spot = none := by
          have := World.cell?_spot ((hg 0 (by omega)).1 0 _ (List.getElem?_eq_getElem h00))
          simpa [Addr.add] using this
        subst hspot
        refine row_of hc h0 fun q hq r u hu => ?_
        have hq' : q < l + 1 := by simpa using hq
        have := (hg q hq').1 r u (by simpa using hu)
        rwa [Addr.add_lit] at this
    · intro y hy
      obtain ⟨j, hj, rfl⟩ := List.mem_map.1 hy
      exact (hg j (by simpa using hj)).2
theorem trod_pot {H : Type} {enc : TypeId × Value → H} {W : World} {base : Nat} {sp : Nat → Bool} {held : Bool} {fuel : Nat} {u v q : Value} {x : DataW H × List MemPlace}
    (h : DataW.trod enc Try.prog W base sp held fuel 29 [u, v, q] = some x) : ∃ a b c, u = .int .i64 a ∧ v = .int .i64 b ∧ q = .int .i64 c ∧ inI a ∧ inI b ∧ inI c := by
  obtain ⟨y0, y1, y2, n, _, _, t0, t1, t2⟩ := Deep.trod_struct3 Try.underlying29 h
  have k0 : Try.prog.cellsOf 2 = 1 := by kernel_rfl
  simp [k0] at t0 t1 t2
  obtain ⟨z0, e0, _, r0⟩ := DataW.trod_int Try.underlying2 t0
  obtain ⟨z1, e1, _, r1⟩ := DataW.trod_int Try.underlying2 t1
  obtain ⟨z2, e2, _, r2⟩ := DataW.trod_int Try.underlying2 t2
  simp at e0 e1 e2
  subst e0 e1 e2
  exact ⟨z0, z1, z2, rfl, rfl, rfl, rng_i64 r0, rng_i64 r1, rng_i64 r2⟩
set_option maxRecDepth 100000 in
theorem trod_acc {H : Type} {enc : TypeId × Value → H} {W : World} {base : Nat} {sp : Nat → Bool} {held : Bool} (n : Nat) (cs : List Value) (y : DataW H × List MemPlace) (hl : cs.length = 7)
    (h : DataW.trod enc Try.prog W base sp held n 31 cs = some y) : ∃ z : Acc, cs = accC z ∧ inA z := by
  match cs, hl with
  | [v0, v1, v2, v3, v4, v5, v6], _ =>
    obtain ⟨y0, y1, y2, n, _, _, t0, t1, t2⟩ := Deep.trod_struct3 Try.underlying31 h
    have k1 : Try.prog.cellsOf 9 = 1 := by kernel_rfl
    have k3 : Try.prog.cellsOf 29 = 3 := by kernel_rfl
    simp [k1, k3] at t0 t1 t2
    obtain ⟨s, e0, _, r0⟩ := DataW.trod_string Try.underlying9 t0
    simp at e0
    subst e0
    obtain ⟨a, b, c, rfl, rfl, rfl, h1⟩ := trod_pot t1
    obtain ⟨x, y, z, rfl, rfl, rfl, h2, h3, h4⟩ := trod_pot t2
    unfold maxLen at r0
    exact ⟨⟨s, a, b, c, x, y, z⟩, rfl, (by show s.size ≤ _; omega), h1, h2, h3, h4⟩
set_option maxRecDepth 100000 in
theorem trod_mk {H : Type} {enc : TypeId × Value → H} {W : World} {base : Nat} {sp : Nat → Bool} {held : Bool} (n : Nat) (cs : List Value) (y : DataW H × List MemPlace) (hl : cs.length = 5)
    (h : DataW.trod enc Try.prog W base sp held n 64 cs = some y) : ∃ z : Mk, cs = mkC z ∧ inM z := by
  match cs, hl with
  | [v0, v1, v2, v3, v4], _ =>
    obtain ⟨y0, y1, y2, n, _, _, t0, t1, t2⟩ := Deep.trod_struct3 Try.underlying64 h
    have k1 : Try.prog.cellsOf 9 = 1 := by kernel_rfl
    have k0 : Try.prog.cellsOf 3 = 1 := by kernel_rfl
    have k3 : Try.prog.cellsOf 44 = 3 := by kernel_rfl
    simp [k0, k1, k3] at t0 t1 t2
    obtain ⟨s, e0, _, r0⟩ := DataW.trod_string Try.underlying9 t0
    obtain ⟨st, e2, _, r2⟩ := DataW.trod_int Try.underlying3 t2
    simp at e0 e2
    subst e0 e2
    obtain ⟨k, t, m, rfl, rfl, rfl, h1, h2, h3⟩ := trod_act t1
    unfold maxLen at r0
    exact ⟨⟨s, k, t, m, st⟩, rfl, (by show s.size ≤ _; omega), h1, h2, h3, rng_i64 r2⟩
set_option maxRecDepth 100000 in
theorem open_led {H : Type} {enc : TypeId × Value → H} {W : World} {base : Nat} {v : Value} {d : DataW H} {ps : List MemPlace}
    (hok : Value.okWide Try.prog W .any base 25 v) (h : DataW.Trod enc Try.prog W 0 (fun _ => true) true 25 v d ps) :
    ∃ adA capA adM capM, ∃ (A : List Acc) (M : List Mk), v = .agg #[.slice adA A.length capA, .slice adM M.length capM] ∧ LedAt W adA adM A M := by
  obtain ⟨cs, rfl, hsz⟩ := okWide_struct Try.underlying25 hok
  have hsz2 : cs.size = 2 := hsz.trans (by kernel_rfl)
  obtain ⟨l⟩ := cs
  match l, hsz2 with
  | [v0, v1], _ =>
    obtain ⟨fuel, hf⟩ := h
    simp only [Value.cells] at hf
    obtain ⟨y0, y1, n, _, _, t0, t1⟩ := trod_struct2 Try.underlying25 hf
    have k0 : Try.prog.cellsOf 22 = 1 := by kernel_rfl
    have k1 : Try.prog.cellsOf 23 = 1 := by kernel_rfl
    simp [k0, k1] at t0 t1
    have s0 : ∃ a l c, v0 = .slice a l c := by
      rcases Deep.open_slice Try.underlying22 t0 with ⟨hcs, _⟩ | ⟨a, len, cap, _, _, _, _, hcs, _⟩
      · simp at hcs; exact ⟨_, _, _, hcs⟩
      · simp at hcs; exact ⟨_, _, _, hcs⟩
    have s1 : ∃ a l c, v1 = .slice a l c := by
      rcases Deep.open_slice Try.underlying23 t1 with ⟨hcs, _⟩ | ⟨a, len, cap, _, _, _, _, hcs, _⟩
      · simp at hcs; exact ⟨_, _, _, hcs⟩
      · simp at hcs; exact ⟨_, _, _, hcs⟩
    obtain ⟨a, la, ca, rfl⟩ := s0
    obtain ⟨b, lb, cb, rfl⟩ := s1
    have hiA : Inhabited Acc := ⟨accZ⟩
    have hiM : Inhabited Mk := ⟨mkZ⟩
    obtain ⟨A, rfl, h1, h2, h3⟩ := open_rows accC_len (by decide) Try.underlying22 (by kernel_rfl) trod_acc t0
    obtain ⟨M, rfl, h4, h5, h6⟩ := open_rows mkC_len (by decide) Try.underlying23 (by kernel_rfl) trod_mk t1
    exact ⟨a, ca, b, cb, A, M, rfl, h1, h4, h3, h6, h2, h5⟩
def IsB (e : Ending) : Prop := ∃ b : Bool, e = .returned (.bool b)
set_option maxHeartbeats 2000000 in
set_option maxRecDepth 100000 in
theorem small_some (A : List Acc) (M : List Mk) (adA : Option Addr) (capA : Nat) (adM : Option Addr) (capM : Nat) (w : World) (h : MksAt w adM M) (_hnA : A.length ≤ 9223372036854775807) (hnM : M.length ≤ 9223372036854775807) :
    Calls Try.prog 8 #[.agg #[.slice adA A.length capA, .slice adM M.length capM]] w fun e w' => IsB e ∧ Gr w w' := by
  have H : Hid (MksAt w adM M) := h
  clear h
  have early : ∀ b1 b2 b3 b4 : Bool, decide ((100 : Int) < (A.length : Int)) = b1 → decide ((150 : Int) < (M.length : Int)) = b2 → decide ((M.length : Int) ≤ 500) = b3 → decide ((1000 : Int) < (M.length : Int)) = b4 →
      Calls Try.prog 8 #[.agg #[.slice adA A.length capA, .slice adM M.length capM]] w fun e w' => IsB e ∧ Gr w w' := by
    intro b1 b2 b3 b4 h1 h2 h3 h4
    have loop : b1 = false → (b2 && b3) = false → b4 = false → Calls Try.prog 8 #[.agg #[.slice adA A.length capA, .slice adM M.length capM]] w fun e w' => IsB e ∧ Gr w w' := by
      intro e1 e2 e4
      subst e1 e4
      cases b2 <;> cases b3 <;> first | cases e2 | skip
      all_goals
        go_enter Try.func8, Try.ntmps8
        go_wp2
        clear h1 h2 h3 h4
        go_loopw [3] (fun ix wr => ∃ k : Nat, k ≤ M.length ∧ ix = .int .i64 k ∧ TwoAt wr w.heap.size (.slice adA A.length capA) (.slice adM M.length capM) ∧ Gr w wr) (fun ix _ => M.length - (intOf ix).toNat)
        case atStart => exact ⟨0, by omega, rfl, TwoAt.new w _ _ _ _ rfl, (Gr.refl _).alloc⟩
        case round =>
          obtain ⟨k, hk, rfl, hbx, hg⟩ := hrel
          have HB : Hid (TwoAt wr w.heap.size (.slice adA A.length capA) (.slice adM M.length capM)) := hbx
          have HG : Hid (Gr w wr) := hg
          obtain ⟨b0, b1, _, _, bl⟩ := hbx
          clear hg
          by_cases hlt : k < M.length
          · obtain ⟨b, off, rfl, hb, c0, c1, c2, c3, c4⟩ := MksAt.at H.out k hlt
            have hki : (k : Int) < (M.length : Int) := by omega
            have e0 := HG.out.keep c0
            have hbw : b < wr.heap.size := Nat.lt_of_lt_of_le hb HG.out.size
            generalize M[k].key = x at e0
            clear c0 c1 c2 c3 c4 hb
            by_cases hs : (1000 : Int) < (x.size : Int)
            · go_wp2
              go_ret
              exact ⟨⟨_, rfl⟩, HG.out⟩
            · go_wp2
              go_roundw
              case rel => exact ⟨k + 1, by omega, by go_num, HB.out, HG.out⟩
              case measure => simp [intOf]; omega
          · have hki : ¬ (k : Int) < (M.length : Int) := by omega
            go_wp2
            go_ret
            exact ⟨⟨_, rfl⟩, HG.out⟩
    cases b1 with
    | true =>
      go_enter Try.func8, Try.ntmps8
      go_wp2
      go_ret
      exact ⟨⟨_, rfl⟩, (by repeat (first | exact Gr.refl _ | refine Gr.alloc ?_ | refine Gr.drew ?_ | refine Gr.trans ?_ (by assumption)))⟩
    | false =>
      cases b4 with
      | true =>
        cases b2 <;> cases b3
        all_goals
          go_enter Try.func8, Try.ntmps8
          go_wp2
          go_ret
          exact ⟨⟨_, rfl⟩, (by repeat (first | exact Gr.refl _ | refine Gr.alloc ?_ | refine Gr.drew ?_ | refine Gr.trans ?_ (by assumption)))⟩
      | false =>
        cases b2 with
        | false => exact loop rfl rfl rfl
        | true =>
          cases b3 with
          | false => exact loop rfl rfl rfl
          | true =>
            go_enter Try.func8, Try.ntmps8
            go_wp2
            go_ret
            exact ⟨⟨_, rfl⟩, (by repeat (first | exact Gr.refl _ | refine Gr.alloc ?_ | refine Gr.drew ?_ | refine Gr.trans ?_ (by assumption)))⟩
  exact early _ _ _ _ rfl rfl rfl rfl
end Go.Proofs.Ytgidkmipecfjhaa
