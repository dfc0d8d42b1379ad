/- For every input the law ActTotals answers true: what reserves and releases leaves both pots together as they were. -/
import Derived.Test.YtbiagpjndbknaaaActK
import Derived.Test.YtbiagpjndbknaaaActU
import Derived.Test.YtbiagpjndbknaaaOpenA
import Derived.Deep.DeepCutAuto
namespace Go.Proofs.Ytbiagpjndbknaaa
open Go.ChangeShapes Go.WideShapes Go.ChangeAt Go.RowKit

theorem open_actts {H : Type} {enc : TypeId × Value → H} {W : World} {base : Nat} {v : Value} {d : DataW H} {ps : List MemPlace}
    (hok : Value.okWide Try.prog W .any base 43 v) (h : DataW.Trod enc Try.prog W 0 (fun _ => true) true 43 v d ps) :
    ∃ ad cap, ∃ T : List ActT, v = .slice ad T.length cap ∧ ActsAt W ad T ∧ T.length ≤ 9223372036854775807 ∧ ∀ t ∈ T, inT t.k t.s t.n := open_acts hok h

theorem total_calls (s : ByteArray) (a b c x y z k n : Int) (t : ByteArray) (hs : s.size ≤ 9223372036854775807) (hA : Act.accB s a b c x y z = true) (hT : inT k t n) (h : Act.mvE Act.chDo s a b c x y z k t n = 0) :
    ∃ d g b' c' y' z', (k = 3 ∨ k = 4 → d + g = 0) ∧ Act.accB s (a + d) b' c' (x + g) y' z' = true ∧
      Hid (∀ w', Calls Try.prog 16 #[.agg #[.string s, .int .i64 a, .int .i64 b, .int .i64 c, .int .i64 x, .int .i64 y, .int .i64 z], .agg #[.int .i64 k, .string t, .int .i64 n]] w' fun e w2 => e = .returned (.tuple #[.agg #[.string s, .int .i64 (a + d), .int .i64 b', .int .i64 c', .int .i64 (x + g), .int .i64 y', .int .i64 z'], .int .i64 0]) ∧ Gr w' w2) ∧
      Hid (∀ w', Calls Try.prog 7 #[.agg #[.int .i64 k, .string t, .int .i64 n]] w' fun e w2 => e = .returned (.tuple #[.int .i64 d, .int .i64 g]) ∧ Gr w' w2) ∧
      Hid (∀ w', Calls Try.prog 13 #[.agg #[.string s, .int .i64 (a + d), .int .i64 b', .int .i64 c', .int .i64 (x + g), .int .i64 y', .int .i64 z']] w' fun e w2 => e = .returned (.int .i64 0) ∧ Gr w' w2) := by
  obtain ⟨rfl, h1, h2, b', c', y', z', ⟨f1, f2, f3, f4, f5, f6⟩, A1, A2, _, _⟩ := Act.undone h
  have r0 := Act.acc_rng hA
  have r1 := Act.acc_rng A1
  refine ⟨Act.dF k t n, Act.dK k t n, b', c', y', z', ?_, A1, ?_, ?_, ?_⟩
  · intro hk
    unfold Act.dF Act.dK
    rw [if_pos h2, if_pos h2]
    rcases hk with rfl | rfl
    · rw [show Act.wF 3 = -1 from rfl, show Act.wK 3 = 1 from rfl]; omega
    · rw [show Act.wF 4 = 1 from rfl, show Act.wK 4 = -1 from rfl]; omega
  · intro w'
    have := actD_any t a b c x y z k n t w' hs hT.2.1 (by omega) (by omega) (by omega) (by omega)
    rw [h, f1, f2, f3, f4, f5, f6] at this
    exact this
  · intro w'
    exact delta_any k n t w' hT.2.1
  · intro w'
    have := may_any t (a + Act.dF k t n) b' c' (x + Act.dK k t n) y' z' w' hs (by omega) (by omega) (by omega) (by omega)
    rw [Act.may_yes A1] at this
    exact this
theorem total_not (s : ByteArray) (a b c x y z k n : Int) (t : ByteArray) (hs : s.size ≤ 9223372036854775807) (hA : Act.accB s a b c x y z = true) (hT : inT k t n) (h : Act.mvE Act.chDo s a b c x y z k t n ≠ 0) (w' : World) :
    Calls Try.prog 16 #[.agg #[.string s, .int .i64 a, .int .i64 b, .int .i64 c, .int .i64 x, .int .i64 y, .int .i64 z], .agg #[.int .i64 k, .string t, .int .i64 n]] w' fun e w2 => e = .returned (.tuple #[.agg #[.string ⟨#[]⟩, .int .i64 0, .int .i64 0, .int .i64 0, .int .i64 0, .int .i64 0, .int .i64 0], .int .i64 (Act.mvE Act.chDo s a b c x y z k t n)]) ∧ Gr w' w2 := by
  have r0 := Act.acc_rng hA
  have := actD_any s a b c x y z k n t w' hs hT.2.1 (by omega) (by omega) (by omega) (by omega)
  have hp : ∀ v, Pot.pick (Act.mvE Act.chDo s a b c x y z k t n) v = 0 := fun v => by unfold Pot.pick; rw [if_neg h]
  have hq : Act.pickS (Act.mvE Act.chDo s a b c x y z k t n) s = ⟨#[]⟩ := by unfold Act.pickS; rw [if_neg h]
  rw [hp, hp, hp, hp, hp, hp, hq] at this
  exact this
theorem hold10 {W w' : World} (h : Gr W w') {q0 q1 q2 q3 q4 q5 q6 q7 q8 q9 : Addr} {v0 v1 v2 v3 v4 v5 v6 v7 v8 v9 : Value} (h0 : W.cell? q0 = some v0) (h1 : W.cell? q1 = some v1) (h2 : W.cell? q2 = some v2) (h3 : W.cell? q3 = some v3) (h4 : W.cell? q4 = some v4) (h5 : W.cell? q5 = some v5) (h6 : W.cell? q6 = some v6) (h7 : W.cell? q7 = some v7) (h8 : W.cell? q8 = some v8) (h9 : W.cell? q9 = some v9) :
    Gr W w' ∧ w'.cell? q0 = some v0 ∧ w'.cell? q1 = some v1 ∧ w'.cell? q2 = some v2 ∧ w'.cell? q3 = some v3 ∧ w'.cell? q4 = some v4 ∧ w'.cell? q5 = some v5 ∧ w'.cell? q6 = some v6 ∧ w'.cell? q7 = some v7 ∧ w'.cell? q8 = some v8 ∧ w'.cell? q9 = some v9 :=
  ⟨h, h.keep h0, h.keep h1, h.keep h2, h.keep h3, h.keep h4, h.keep h5, h.keep h6, h.keep h7, h.keep h8, h.keep h9⟩

set_option maxHeartbeats 8000000 in
set_option maxRecDepth 100000 in
theorem actTotals_walk (s : ByteArray) (a0 b0 c0 x0 y0 z0 : Int) (ad : Option Addr) (cap : Nat) (T : List ActT) (w : World) (hX : inX s a0 b0 c0 x0 y0 z0) (hA : ActsAt w ad T) (hn : T.length ≤ 9223372036854775807) (hT : ∀ t ∈ T, inT t.k t.s t.n) :
    Calls Try.prog 6 #[.agg #[.string s, .int .i64 a0, .int .i64 b0, .int .i64 c0, .int .i64 x0, .int .i64 y0, .int .i64 z0], .slice ad T.length cap] w fun e w' => e = .returned (.bool true) ∧ Gr w w' := by
  have HA : Hid (∀ w', Calls Try.prog 15 #[] w' fun e w2 => e = .returned (.bool true) ∧ Gr w' w2) := fun w' => awake_any w'
  have HM : Hid (∀ w', Calls Try.prog 13 #[.agg #[.string s, .int .i64 a0, .int .i64 b0, .int .i64 c0, .int .i64 x0, .int .i64 y0, .int .i64 z0]] w' fun e w2 => e = .returned (.int .i64 (Act.mayE s a0 b0 c0 x0 y0 z0)) ∧ Gr w' w2) := fun w' => may_any s a0 b0 c0 x0 y0 z0 w' hX.1 hX.2.1.1.2 hX.2.1.2.2.2 hX.2.2.1.2 hX.2.2.2.2.2
  have HS : Hid (s.size ≤ 9223372036854775807) := hX.1
  have HAA : Hid (ActsAt w ad T) := hA
  have HT : Hid (∀ t ∈ T, inT t.k t.s t.n) := hT
  clear hX hA hT
  by_cases hlen : (200 : Int) < (T.length : Int)
  · go_enter Try.func6, Try.ntmps6
    go_wp2_with fail
    refine (HA.out _).mono ?_
    rintro e w1 ⟨rfl, hg1⟩
    go_wp2
    go_ret
    exact ⟨rfl, (by repeat (first | exact Gr.refl _ | refine Gr.alloc ?_ | refine Gr.drew ?_ | refine Gr.trans ?_ (by assumption)))⟩
  cases hacc : Act.accB s a0 b0 c0 x0 y0 z0 with
  | false =>
    rw [Act.may_no hacc] at HM
    clear hacc
    go_enter Try.func6, Try.ntmps6
    go_wp2_with fail
    refine (HM.out _).mono ?_
    rintro e w1 ⟨rfl, hg1⟩
    go_wp2_with fail
    refine (HA.out _).mono ?_
    rintro e w2 ⟨rfl, hg2⟩
    go_wp2
    go_ret
    exact ⟨rfl, (by repeat (first | exact Gr.refl _ | refine Gr.alloc ?_ | refine Gr.drew ?_ | refine Gr.trans ?_ (by assumption)))⟩
  | true =>
    rw [Act.may_yes hacc] at HM
    have HC : Hid (Act.accB s a0 b0 c0 x0 y0 z0 = true) := hacc
    have hr := Act.acc_rng hacc
    obtain ⟨⟨q1, q2⟩, _, _, ⟨q3, q4⟩, _, _⟩ := hr
    clear hacc
    go_enter Try.func6, Try.ntmps6
    go_wp2_with fail
    refine (HM.out _).mono ?_
    rintro e w1 ⟨rfl, hg1⟩
    have X := (AccAt.new w _ _ _ _ _ _ _ _ w.heap.size rfl).gr hg1
    obtain ⟨x0, x1, x2, x3, x4, x5, x6⟩ := X.cells
    have xl := X.lt
    have HG1 : Hid (Gr w w1) := by show Gr _ _; exact (by repeat (first | exact Gr.refl _ | refine Gr.alloc ?_ | refine Gr.drew ?_ | refine Gr.trans ?_ (by assumption)))
    have hw1 : w.heap.size ≤ w1.heap.size := HG1.out.size
    clear X hg1
    go_wp2
    clear x0 x1 x2 x3 x4 x5 x6 q1 q2 q3 q4
    go_loopw [6, 7] (fun wt ix wr => ∃ (k : Nat) (a b c x y z : Int), k ≤ T.length ∧ ix = .int .i64 k ∧ wt = .int .i64 (a + x) ∧ Act.accB s a b c x y z = true ∧ AccAt wr w1.heap.size (.string s) (.int .i64 a) (.int .i64 b) (.int .i64 c) (.int .i64 x) (.int .i64 y) (.int .i64 z) ∧ Gr w wr)
      (fun _ ix _ => T.length - (intOf ix).toNat)
    case atStart => exact ⟨0, _, _, _, _, _, _, by omega, rfl, rfl, HC.out, AccAt.new w1 _ _ _ _ _ _ _ _ _ rfl, HG1.out.alloc⟩
    case round =>
      clear HG1 HC HM
      obtain ⟨k, a, b, c, x, y, z, hk, rfl, rfl, hacc, hY, hg⟩ := hrel
      have HGW : Hid (Gr w wr) := hg
      have HC : Hid (Act.accB s a b c x y z = true) := hacc
      have HY : Hid (AccAt wr w1.heap.size (.string s) (.int .i64 a) (.int .i64 b) (.int .i64 c) (.int .i64 x) (.int .i64 y) (.int .i64 z)) := hY
      obtain ⟨⟨q1, q2⟩, _, _, ⟨q3, q4⟩, _, _⟩ := Act.acc_rng hacc
      clear hacc hg
      by_cases hlt : k < T.length
      · obtain ⟨bb, off, rfl, hbl, d0, d1, d2⟩ := HAA.out k hlt
        have hTk := HT.out T[k] (List.getElem_mem hlt)
        have d0 := HGW.out.keep d0
        have d1 := HGW.out.keep d1
        have d2 := HGW.out.keep d2
        obtain ⟨⟨kd, t, n⟩, ht⟩ : ∃ t, T[k] = t := ⟨_, rfl⟩
        rw [ht] at d0 d1 d2 hTk
        simp only at d0 d1 d2 hTk
        have hbw : bb < wr.heap.size := Nat.lt_of_lt_of_le hbl HGW.out.size
        have hki : (k : Int) < (T.length : Int) := by omega
        obtain ⟨y0, y1, y2, y3, y4, y5, y6⟩ := hY.cells
        have yl := hY.lt
        clear ht hY
        by_cases h : Act.mvE Act.chDo s a b c x y z kd t n = 0
        · obtain ⟨d, g, b', c', y', z', h34, hA', H1, H2, H3⟩ := total_calls s a b c x y z kd n t HS.out HC.out hTk h
          have HA2 : Hid (Act.accB s (a + d) b' c' (x + g) y' z' = true) := hA'
          obtain ⟨⟨p1, p2⟩, _, _, ⟨p3, p4⟩, _, _⟩ := Act.acc_rng hA'
          clear h hA' hTk
          go_upto_region 8 with fail
          go_cut [8, 9] (fun sp se wx => ∃ Q, sp = .pointer (some ⟨Q, 0, none⟩) ∧ se = .int .i64 0 ∧ wr.heap.size ≤ Q ∧ AccAt wx Q (.string s) (.int .i64 (a + d)) (.int .i64 b') (.int .i64 c') (.int .i64 (x + g)) (.int .i64 y') (.int .i64 z') ∧ Gr wr wx)
          case first =>
            go_region_held3 (fun w' => Gr wr w' ∧ w'.cell? ⟨w1.heap.size, 0, none⟩ = some (.string s) ∧ w'.cell? ⟨w1.heap.size, 1, none⟩ = some (.int .i64 a) ∧ w'.cell? ⟨w1.heap.size, 2, none⟩ = some (.int .i64 b) ∧ w'.cell? ⟨w1.heap.size, 3, none⟩ = some (.int .i64 c) ∧ w'.cell? ⟨w1.heap.size, 4, none⟩ = some (.int .i64 x) ∧ w'.cell? ⟨w1.heap.size, 5, none⟩ = some (.int .i64 y) ∧ w'.cell? ⟨w1.heap.size, 6, none⟩ = some (.int .i64 z) ∧ w'.cell? ⟨bb, off + k * 3, none⟩ = some (.int .i64 kd) ∧ w'.cell? ⟨bb, off + k * 3 + 1, none⟩ = some (.string t) ∧ w'.cell? ⟨bb, off + k * 3 + 2, none⟩ = some (.int .i64 n))
              ((exact hold10 (by (repeat' (first | with_reducible exact Gr.refl _ | with_reducible refine Gr.set ?_ _ ?_ _ | with_reducible refine Gr.alloc ?_ | with_reducible refine Gr.drew ?_ | with_reducible refine Gr.trans ?_ (by assumption))) <;> (first | (simp; done) | (simp; omega) | omega)) y0 y1 y2 y3 y4 y5 y6 d0 d1 d2))
              ((first
                | (go_at_call 16; refine (H1.out _).mono ?_; rintro e wn ⟨rfl, hgn⟩; have hzn := hgn.size; simp at hzn; have hbz := ((AccAt.new wr _ _ _ _ _ _ _ _ _ rfl).gr (Gr.refl _).drew).gr hgn; have HBZ : Hid (AccAt wn wr.heap.size _ _ _ _ _ _ _) := hbz; obtain ⟨z0, z1, z2, z3, z4, z5, z6⟩ := hbz.cells; obtain ⟨zf0, zf1, zf2, zf3, zf4, zf5, zf6⟩ := hbz.frozens; have zl := hbz.lt)
                | (go_at_call 16; refine (H1.out _).mono ?_; rintro e wn ⟨rfl, hgn⟩; have hzn := hgn.size; simp at hzn)))
            all_goals (go_wp2_with fail; go_meet; refine ⟨_, rfl, rfl, by omega, ?_, (by (repeat' (first | with_reducible exact Gr.refl _ | with_reducible refine Gr.set ?_ _ ?_ _ | with_reducible refine Gr.alloc ?_ | with_reducible refine Gr.drew ?_ | with_reducible refine Gr.trans ?_ (by assumption))) <;> (first | (simp; done) | (simp; omega) | omega))⟩; first | with_reducible exact AccAt.new wn _ _ _ _ _ _ _ _ _ rfl | with_reducible exact HBZ.out.set7 _ _ _ _ _ _ _)
          case rest =>
          obtain ⟨wp, rfl⟩ : ∃ x, x = wc := ⟨_, rfl⟩
          obtain ⟨Q, rfl, rfl, hQ, hZ, hgc⟩ := hcut
          have HGP : Hid (Gr w wp) := HGW.out.trans hgc
          have HYP : Hid (AccAt wp w1.heap.size (.string s) (.int .i64 a) (.int .i64 b) (.int .i64 c) (.int .i64 x) (.int .i64 y) (.int .i64 z)) := HY.out.gr hgc
          have HZP : Hid (AccAt wp Q (.string s) (.int .i64 (a + d)) (.int .i64 b') (.int .i64 c') (.int .i64 (x + g)) (.int .i64 y') (.int .i64 z')) := hZ
          have d0 := hgc.keep d0
          have d1 := hgc.keep d1
          have d2 := hgc.keep d2
          have hbw : bb < wp.heap.size := Nat.lt_of_lt_of_le hbw hgc.size
          have hQ2 : w1.heap.size < Q := by omega
          clear hgc hZ y0 y1 y2 y3 y4 y5 y6 H1 HGW HY HC
          go_wp2_with fail
          refine (H2.out _).mono ?_
          rintro e w2 ⟨rfl, hg2⟩
          have HGP2 : Hid (Gr w w2) := HGP.out.trans hg2
          have HYP2 : Hid (AccAt w2 w1.heap.size (.string s) (.int .i64 a) (.int .i64 b) (.int .i64 c) (.int .i64 x) (.int .i64 y) (.int .i64 z)) := HYP.out.gr hg2
          have HZP2 : Hid (AccAt w2 Q (.string s) (.int .i64 (a + d)) (.int .i64 b') (.int .i64 c') (.int .i64 (x + g)) (.int .i64 y') (.int .i64 z')) := HZP.out.gr hg2
          have d0 := hg2.keep d0
          have hbw : bb < w2.heap.size := Nat.lt_of_lt_of_le hbw hg2.size
          obtain ⟨y0, y1, y2, y3, y4, y5, y6⟩ := HYP2.out.cells
          obtain ⟨f0, f1, f2, f3, f4, f5, f6⟩ := HYP2.out.frozens
          have yl2 := HYP2.out.lt
          obtain ⟨z0, z1, z2, z3, z4, z5, z6⟩ := HZP2.out.cells
          have zl2 := HZP2.out.lt
          have hsum : (a + d + (x + g) != a + x + d + g) = false := by simp; omega
          have HSM : Hid (a + x + d + g = a + d + (x + g)) := by show _ = _; omega
          clear d1 d2 hg2 HGP HYP HZP H2
          by_cases hk3 : kd = 3
          · subst hk3
            have hdg : d + g = 0 := h34 (Or.inl rfl)
            have hne : (d + g != 0) = false := by simpa using hdg
            clear h34 hdg
            go_wp2_with fail
            refine (H3.out _).mono ?_
            rintro e w3 ⟨rfl, hg3⟩
            have HG3 : Hid (Gr w w3) := (HGP2.out.set7 _ hw1 _ _ _ _ _ _ _).trans hg3
            have HY3 : Hid (AccAt w3 w1.heap.size (.string s) (.int .i64 (a + d)) (.int .i64 b') (.int .i64 c') (.int .i64 (x + g)) (.int .i64 y') (.int .i64 z')) := (HYP2.out.set7 _ _ _ _ _ _ _).gr hg3
            clear y0 y1 y2 y3 y4 y5 y6 f0 f1 f2 f3 f4 f5 f6 z0 z1 z2 z3 z4 z5 z6 d0 hg3
            go_wp2
            go_roundw
            case rel => exact ⟨k + 1, _, _, _, _, _, _, by omega, by go_num, by rw [HSM.out], HA2.out, HY3.out, HG3.out⟩
            case measure => simp [intOf]; omega
          · by_cases hk4 : kd = 4
            · subst hk4
              have hdg : d + g = 0 := h34 (Or.inr rfl)
              have hne : (d + g != 0) = false := by simpa using hdg
              clear h34 hdg hk3
              go_wp2_with fail
              refine (H3.out _).mono ?_
              rintro e w3 ⟨rfl, hg3⟩
              have HG3 : Hid (Gr w w3) := (HGP2.out.set7 _ hw1 _ _ _ _ _ _ _).trans hg3
              have HY3 : Hid (AccAt w3 w1.heap.size (.string s) (.int .i64 (a + d)) (.int .i64 b') (.int .i64 c') (.int .i64 (x + g)) (.int .i64 y') (.int .i64 z')) := (HYP2.out.set7 _ _ _ _ _ _ _).gr hg3
              clear y0 y1 y2 y3 y4 y5 y6 f0 f1 f2 f3 f4 f5 f6 z0 z1 z2 z3 z4 z5 z6 d0 hg3
              go_wp2
              go_roundw
              case rel => exact ⟨k + 1, _, _, _, _, _, _, by omega, by go_num, by rw [HSM.out], HA2.out, HY3.out, HG3.out⟩
              case measure => simp [intOf]; omega
            · have e3 : (kd == 3) = false := by simpa using hk3
              have e4 : (kd == 4) = false := by simpa using hk4
              clear h34 hk3 hk4
              go_wp2_with fail
              refine (H3.out _).mono ?_
              rintro e w3 ⟨rfl, hg3⟩
              have HG3 : Hid (Gr w w3) := (HGP2.out.set7 _ hw1 _ _ _ _ _ _ _).trans hg3
              have HY3 : Hid (AccAt w3 w1.heap.size (.string s) (.int .i64 (a + d)) (.int .i64 b') (.int .i64 c') (.int .i64 (x + g)) (.int .i64 y') (.int .i64 z')) := (HYP2.out.set7 _ _ _ _ _ _ _).gr hg3
              clear y0 y1 y2 y3 y4 y5 y6 f0 f1 f2 f3 f4 f5 f6 z0 z1 z2 z3 z4 z5 z6 d0 hg3
              go_wp2
              go_roundw
              case rel => exact ⟨k + 1, _, _, _, _, _, _, by omega, by go_num, by rw [HSM.out], HA2.out, HY3.out, HG3.out⟩
              case measure => simp [intOf]; omega
        · have H1 : Hid (∀ w', Calls Try.prog 16 #[.agg #[.string s, .int .i64 a, .int .i64 b, .int .i64 c, .int .i64 x, .int .i64 y, .int .i64 z], .agg #[.int .i64 kd, .string t, .int .i64 n]] w' fun e w2 => e = .returned (.tuple #[.agg #[.string ⟨#[]⟩, .int .i64 0, .int .i64 0, .int .i64 0, .int .i64 0, .int .i64 0, .int .i64 0], .int .i64 (Act.mvE Act.chDo s a b c x y z kd t n)]) ∧ Gr w' w2) := fun w' => total_not s a b c x y z kd n t HS.out HC.out hTk h w'
          have hne : (Act.mvE Act.chDo s a b c x y z kd t n != 0) = true := by simpa using h
          generalize Act.mvE Act.chDo s a b c x y z kd t n = er at *
          clear h hTk
          go_upto_region 8 with fail
          go_cut [8, 9] (fun sp se wx => ∃ Q : Nat, sp = .pointer (some ⟨Q, 0, none⟩) ∧ se = .int .i64 er ∧ Gr wr wx)
          case first =>
            go_region_held3 (fun w' => Gr wr w' ∧ w'.cell? ⟨w1.heap.size, 0, none⟩ = some (.string s) ∧ w'.cell? ⟨w1.heap.size, 1, none⟩ = some (.int .i64 a) ∧ w'.cell? ⟨w1.heap.size, 2, none⟩ = some (.int .i64 b) ∧ w'.cell? ⟨w1.heap.size, 3, none⟩ = some (.int .i64 c) ∧ w'.cell? ⟨w1.heap.size, 4, none⟩ = some (.int .i64 x) ∧ w'.cell? ⟨w1.heap.size, 5, none⟩ = some (.int .i64 y) ∧ w'.cell? ⟨w1.heap.size, 6, none⟩ = some (.int .i64 z) ∧ w'.cell? ⟨bb, off + k * 3, none⟩ = some (.int .i64 kd) ∧ w'.cell? ⟨bb, off + k * 3 + 1, none⟩ = some (.string t) ∧ w'.cell? ⟨bb, off + k * 3 + 2, none⟩ = some (.int .i64 n))
              ((exact hold10 (by (repeat' (first | with_reducible exact Gr.refl _ | with_reducible refine Gr.set ?_ _ ?_ _ | with_reducible refine Gr.alloc ?_ | with_reducible refine Gr.drew ?_ | with_reducible refine Gr.trans ?_ (by assumption))) <;> (first | (simp; done) | (simp; omega) | omega)) y0 y1 y2 y3 y4 y5 y6 d0 d1 d2))
              ((first
                | (go_at_call 16; refine (H1.out _).mono ?_; rintro e wn ⟨rfl, hgn⟩; have hzn := hgn.size; simp at hzn; have hbz := ((AccAt.new wr _ _ _ _ _ _ _ _ _ rfl).gr (Gr.refl _).drew).gr hgn; obtain ⟨z0, z1, z2, z3, z4, z5, z6⟩ := hbz.cells; obtain ⟨zf0, zf1, zf2, zf3, zf4, zf5, zf6⟩ := hbz.frozens; have zl := hbz.lt)
                | (go_at_call 16; refine (H1.out _).mono ?_; rintro e wn ⟨rfl, hgn⟩; have hzn := hgn.size; simp at hzn)))
            all_goals (go_wp2_with fail; go_meet; exact ⟨_, rfl, rfl, (by (repeat' (first | with_reducible exact Gr.refl _ | with_reducible refine Gr.set ?_ _ ?_ _ | with_reducible refine Gr.alloc ?_ | with_reducible refine Gr.drew ?_ | with_reducible refine Gr.trans ?_ (by assumption))) <;> (first | (simp; done) | (simp; omega) | omega))⟩)
          case rest =>
          obtain ⟨wp, rfl⟩ : ∃ x, x = wc := ⟨_, rfl⟩
          obtain ⟨Q, rfl, rfl, hgc⟩ := hcut
          have HGP : Hid (Gr w wp) := HGW.out.trans hgc
          have HYP : Hid (AccAt wp w1.heap.size (.string s) (.int .i64 a) (.int .i64 b) (.int .i64 c) (.int .i64 x) (.int .i64 y) (.int .i64 z)) := HY.out.gr hgc
          clear hgc y0 y1 y2 y3 y4 y5 y6 d0 d1 d2 HGW HY
          go_wp2
          go_roundw
          case rel => exact ⟨k + 1, _, _, _, _, _, _, by omega, by go_num, rfl, HC.out, HYP.out, HGP.out⟩
          case measure => simp [intOf]; omega
      · have hge : ¬ ((k : Int) < (T.length : Int)) := by omega
        clear hY HY q1 q2 q3 q4
        go_wp2_with fail
        refine (HA.out _).mono ?_
        rintro e w2 ⟨rfl, hg2⟩
        go_wp2
        go_ret
        exact ⟨rfl, HGW.out.trans hg2⟩

set_option maxRecDepth 100000 in
theorem actTotals_lifted (os : Os) (started : os.Started) (H : Type) (enc : TypeId × Value → H) :
    ReturnsInHanded {} Try.checked os 6 .any (Rows.actTotalsSpec.pre6 enc Try.prog Try.f6 Rows.actTotalsRow.domain false) (Rows.actTotalsSpec.post enc Try.prog Try.f6 false true false false) := by
  refine returnsInHanded_of_change (C := Try.checked) own2 started (by kernel_rfl) Try.func6
    (ChangeSpec.witness6 (enc := enc) (C := Try.checked) false ⟨#[], #[.agg #[.string ⟨#[]⟩, .int .i64 0, .int .i64 0, .int .i64 0, .int .i64 0, .int .i64 0, .int .i64 0], .slice none 0 0], []⟩ 8 (by kernel_rfl) (by kernel_rfl) (by kernel_rfl) (by kernel_rfl)) ?_
  intro W base args ds gs before hval0 hW hcnd _
  have hval : ∀ (j : Nat) t v, Try.f6.params[j]? = some t → args[j]? = some v → Value.okWide Try.prog W .any base t v := hval0
  have hW' := hW
  obtain ⟨p, q, hA0, hV, rfl, hfz, hnd⟩ := hW
  have hA : DataW.TrodAll enc Try.prog W 0 (fun _ => true) true Try.f6.params.toList args.toList ds p := hA0
  rw [Try.params6] at hA hval
  obtain ⟨v0, v1, d0, d1, p0, p1, rfl, rfl, rfl, q0, q1⟩ := trodAll_two hA
  obtain ⟨rfl, rfl⟩ := trodVars_none hV
  have k0 := q0
  have lt0 : ∀ x ∈ p0, x.block < W.heap.size := by obtain ⟨m, hm⟩ := k0; exact DataW.trod_lt m _ _ _ hm
  have k1 := q1
  have lt1 : ∀ x ∈ p1, x.block < W.heap.size := by obtain ⟨m, hm⟩ := k1; exact DataW.trod_lt m _ _ _ hm
  obtain ⟨s0, a0, b0, c0, x0, y0, z0, rfl, hX0⟩ := open_acc (hval 0 27 v0 rfl rfl) q0
  obtain ⟨ad1, cap1, T1, rfl, hT1, hn1, hr1⟩ := open_actts (hval 1 43 v1 rfl rfl) q1
  clear hA0 hval0
  refine (actTotals_walk s0 a0 b0 c0 x0 y0 z0 ad1 cap1 T1 W hX0 hT1 hn1 hr1).mono fun e W' ⟨he, hg⟩ => ?_
  subst he
  exact ⟨_, rfl, _, _, _, [], _, [], hW', trodAll_mk1 (shut_bool Try.underlying4 _), trodAll_mk2 (Below.trod laidOut2 (by kernel_rfl) (of_decide_eq_true (by kernel_rfl)) k0 hg.below lt0) (Below.trod laidOut2 (by kernel_rfl) (of_decide_eq_true (by kernel_rfl)) k1 hg.below lt1), rfl, hg.below.frame _, fun h => by cases h⟩

theorem actTotals_holds : Rows.ActTotalsSaid :=
  OpenClaim.holds_of_wide 6 Try.f6 rfl rfl rfl rfl rfl rfl rfl ⟨rfl, rfl, rfl, rfl, rfl⟩ rfl rfl rfl rfl rfl (by kernel_rfl) Try.func6 (by kernel_rfl)
    (of_decide_eq_true (by kernel_rfl)) (by unfold Func.isWrapper; first | (rw [if_pos (by decide +kernel)]; kernel_rfl) | (rw [if_neg (by decide +kernel)]; exact ⟨rfl, rfl⟩))
    (fun os started H enc _ => actTotals_lifted os started H enc)
end Go.Proofs.Ytbiagpjndbknaaa
