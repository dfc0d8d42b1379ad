/- What the proof is made of, part 17. -/
import Derived.Test.YtgidkmipecfjhaaTLLDoes16
namespace Go.Proofs.Ytgidkmipecfjhaa
open Go.RowKit
open Led (Acc Mk)
theorem g_not {s : ByteArray} {m : Mk} (h : ¬ (m.t = s ∧ m.st = 1)) : Led.gFI s m = 0 ∧ Led.gFO s m = 0 ∧ Led.gKI s m = 0 ∧ Led.gKO s m = 0 := by
  have hh : ¬ Led.hit s m = true := by
    unfold Led.hit
    simpa only [Bool.and_eq_true, decide_eq_true_eq] using h
  unfold Led.gFI Led.gFO Led.gKI Led.gKO
  rw [if_neg hh, if_neg hh, if_neg hh, if_neg hh]
  exact ⟨rfl, rfl, rfl, rfl⟩
theorem g_hit {s : ByteArray} {m : Mk} (ha : Act.actB m.k m.t m.n = true) (h1 : m.t = s) (h2 : m.st = 1) :
    (m.k = 1 ∧ Led.gFI s m = 0 ∧ Led.gFO s m = m.n ∧ Led.gKI s m = 0 ∧ Led.gKO s m = 0) ∨ (m.k = 2 ∧ Led.gFI s m = m.n ∧ Led.gFO s m = 0 ∧ Led.gKI s m = 0 ∧ Led.gKO s m = 0) ∨
    (m.k = 3 ∧ Led.gFI s m = 0 ∧ Led.gFO s m = m.n ∧ Led.gKI s m = m.n ∧ Led.gKO s m = 0) ∨ (m.k = 4 ∧ Led.gFI s m = m.n ∧ Led.gFO s m = 0 ∧ Led.gKI s m = 0 ∧ Led.gKO s m = m.n) := by
  have hh : Led.hit s m = true := by
    unfold Led.hit
    simp only [Bool.and_eq_true, decide_eq_true_eq]
    exact ⟨h1, h2⟩
  obtain ⟨⟨k1, k2⟩, _, n1, n2⟩ := (Act.act_iff _ _ _).1 ha
  unfold Led.gFI Led.gFO Led.gKI Led.gKO
  rw [if_pos hh, if_pos hh, if_pos hh, if_pos hh]
  unfold Led.amF Led.amK Act.dF Act.dK
  rw [if_pos ha, if_pos ha]
  have hk : m.k = 1 ∨ m.k = 2 ∨ m.k = 3 ∨ m.k = 4 := by omega
  rcases hk with e | e | e | e <;> rw [e]
  · left; rw [show Act.wF 1 = -1 from rfl, show Act.wK 1 = 0 from rfl]; omega
  · right; left; rw [show Act.wF 2 = 1 from rfl, show Act.wK 2 = 0 from rfl]; omega
  · right; right; left; rw [show Act.wF 3 = -1 from rfl, show Act.wK 3 = 1 from rfl]; omega
  · right; right; right; rw [show Act.wF 4 = 1 from rfl, show Act.wK 4 = -1 from rfl]; omega
theorem g_rng {s : ByteArray} {M : List Mk} (ha : ∀ m ∈ M, Act.actB m.k m.t m.n = true) (hl : M.length ≤ 500) (k : Nat) :
    (0 ≤ Led.sm (Led.gFI s) (M.take k) ∧ Led.sm (Led.gFI s) (M.take k) ≤ 500000000000000000) ∧ (0 ≤ Led.sm (Led.gFO s) (M.take k) ∧ Led.sm (Led.gFO s) (M.take k) ≤ 500000000000000000) ∧ (0 ≤ Led.sm (Led.gKI s) (M.take k) ∧ Led.sm (Led.gKI s) (M.take k) ≤ 500000000000000000) ∧ (0 ≤ Led.sm (Led.gKO s) (M.take k) ∧ Led.sm (Led.gKO s) (M.take k) ≤ 500000000000000000) := by
  have hm : ∀ m ∈ M.take k, (0 ≤ Led.gFI s m ∧ Led.gFI s m ≤ 1000000000000000) ∧ (0 ≤ Led.gFO s m ∧ Led.gFO s m ≤ 1000000000000000) ∧ (0 ≤ Led.gKI s m ∧ Led.gKI s m ≤ 1000000000000000) ∧ (0 ≤ Led.gKO s m ∧ Led.gKO s m ≤ 1000000000000000) := by
    intro m h
    have h1 := ha m (List.mem_of_mem_take h)
    obtain ⟨_, _, n1, n2⟩ := (Act.act_iff _ _ _).1 h1
    by_cases hh : m.t = s ∧ m.st = 1
    · rcases g_hit h1 hh.1 hh.2 with ⟨_, a, b, c, d⟩ | ⟨_, a, b, c, d⟩ | ⟨_, a, b, c, d⟩ | ⟨_, a, b, c, d⟩ <;> rw [a, b, c, d] <;> omega
    · obtain ⟨a, b, c, d⟩ := g_not hh
      rw [a, b, c, d]; omega
  have ht : ((M.take k).length : Int) ≤ 500 := by rw [List.length_take]; omega
  have z1 := Led.sm_nonneg (fun m h => (hm m h).1.1)
  have z2 := Led.sm_nonneg (fun m h => (hm m h).2.1.1)
  have z3 := Led.sm_nonneg (fun m h => (hm m h).2.2.1.1)
  have z4 := Led.sm_nonneg (fun m h => (hm m h).2.2.2.1)
  have b1 := (Led.sm_bound (g := Led.gFI s) 1000000000000000 (fun m h => by have := hm m h; omega)).2
  have b2 := (Led.sm_bound (g := Led.gFO s) 1000000000000000 (fun m h => by have := hm m h; omega)).2
  have b3 := (Led.sm_bound (g := Led.gKI s) 1000000000000000 (fun m h => by have := hm m h; omega)).2
  have b4 := (Led.sm_bound (g := Led.gKO s) 1000000000000000 (fun m h => by have := hm m h; omega)).2
  omega
set_option maxHeartbeats 4000000 in
set_option maxRecDepth 100000 in
theorem refPots_any (A : List Acc) (M : List Mk) (x : Acc) (adA : Option Addr) (capA : Nat) (adM : Option Addr) (capM : Nat) (w : World) (h : MksAt w adM M) (ha : ∀ m ∈ M, Act.actB m.k m.t m.n = true) (hl : M.length ≤ 500) :
    Calls Try.prog 46 #[.agg #[.slice adA A.length capA, .slice adM M.length capM], .agg #[.string x.s, .int .i64 x.a, .int .i64 x.b, .int .i64 x.c, .int .i64 x.x, .int .i64 x.y, .int .i64 x.z]] w fun e w' => e = .returned (.bool (Led.potsB M x)) ∧ Gr w w' := by
  have H : Hid (MksAt w adM M) := h
  have HAC : Hid (∀ m ∈ M, Act.actB m.k m.t m.n = true) := ha
  have HRG : Hid (∀ k, (0 ≤ Led.sm (Led.gFI x.s) (M.take k) ∧ Led.sm (Led.gFI x.s) (M.take k) ≤ 500000000000000000) ∧ (0 ≤ Led.sm (Led.gFO x.s) (M.take k) ∧ Led.sm (Led.gFO x.s) (M.take k) ≤ 500000000000000000) ∧ (0 ≤ Led.sm (Led.gKI x.s) (M.take k) ∧ Led.sm (Led.gKI x.s) (M.take k) ≤ 500000000000000000) ∧ (0 ≤ Led.sm (Led.gKO x.s) (M.take k) ∧ Led.sm (Led.gKO x.s) (M.take k) ≤ 500000000000000000)) := fun k => g_rng ha hl k
  clear h ha
  go_enter Try.func46, Try.ntmps46
  go_wp2
  go_loopw [5, 6, 7, 8, 9] (fun s1 s2 s3 s4 ix wr => ∃ k : Nat, k ≤ M.length ∧ s1 = .int .i64 (Led.sm (Led.gFI x.s) (M.take k)) ∧ s2 = .int .i64 (Led.sm (Led.gFO x.s) (M.take k)) ∧ s3 = .int .i64 (Led.sm (Led.gKI x.s) (M.take k)) ∧ s4 = .int .i64 (Led.sm (Led.gKO x.s) (M.take k)) ∧ ix = .int .i64 k ∧ TwoAt wr w.heap.size (.slice adA A.length capA) (.slice adM M.length capM) ∧ AccAt wr (w.heap.size + 1) (.string x.s) (.int .i64 x.a) (.int .i64 x.b) (.int .i64 x.c) (.int .i64 x.x) (.int .i64 x.y) (.int .i64 x.z) ∧ Gr w wr)
      (fun _ _ _ _ ix _ => M.length - (intOf ix).toNat)
  case atStart => exact ⟨0, by omega, rfl, rfl, rfl, rfl, rfl, (TwoAt.new w _ _ _ _ rfl).gr (Gr.refl _).alloc, AccAt.new _ _ _ _ _ _ _ _ _ _ (by simp), (Gr.refl _).alloc.alloc⟩
  case round =>
    obtain ⟨k, hk, rfl, rfl, rfl, rfl, rfl, hbx, hax, hg⟩ := hrel
    have HB : Hid (TwoAt wr w.heap.size (.slice adA A.length capA) (.slice adM M.length capM)) := hbx
    have HX : Hid (AccAt wr (w.heap.size + 1) (.string x.s) (.int .i64 x.a) (.int .i64 x.b) (.int .i64 x.c) (.int .i64 x.x) (.int .i64 x.y) (.int .i64 x.z)) := hax
    have HG : Hid (Gr w wr) := hg
    obtain ⟨b0, b1, _, _, bl⟩ := hbx
    obtain ⟨x0, x1, x2, x3, x4, x5, x6⟩ := hax.cells
    have xl := hax.lt
    clear hg hax
    by_cases hlt : k < M.length
    · obtain ⟨b, off, rfl, hb, c0, c1, c2, c3, c4⟩ := MksAt.at H.out k hlt
      have hki : (k : Int) < (M.length : Int) := by omega
      have e0 := HG.out.keep c0
      have e1 := HG.out.keep c1
      have e2 := HG.out.keep c2
      have e3 := HG.out.keep c3
      have e4 := HG.out.keep c4
      have hbw : b < wr.heap.size := Nat.lt_of_lt_of_le hb HG.out.size
      have hac := HAC.out M[k] (List.getElem_mem hlt)
      have t1 := Led.sm_take (Led.gFI x.s) M k hlt
      have t2 := Led.sm_take (Led.gFO x.s) M k hlt
      have t3 := Led.sm_take (Led.gKI x.s) M k hlt
      have t4 := Led.sm_take (Led.gKO x.s) M k hlt
      have r := HRG.out k
      obtain ⟨⟨z1, y1⟩, ⟨z2, y2⟩, ⟨z3, y3⟩, ⟨z4, y4⟩⟩ := r
      have HRL : Hid (∀ s1 s2 s3 s4 : Int, s1 = Led.sm (Led.gFI x.s) (M.take (k + 1)) → s2 = Led.sm (Led.gFO x.s) (M.take (k + 1)) → s3 = Led.sm (Led.gKI x.s) (M.take (k + 1)) → s4 = Led.sm (Led.gKO x.s) (M.take (k + 1)) → ∀ W, Gr wr W → ∃ j : Nat, j ≤ M.length ∧ Value.int .i64 s1 = .int .i64 (Led.sm (Led.gFI x.s) (M.take j)) ∧ Value.int .i64 s2 = .int .i64 (Led.sm (Led.gFO x.s) (M.take j)) ∧ Value.int .i64 s3 = .int .i64 (Led.sm (Led.gKI x.s) (M.take j)) ∧ Value.int .i64 s4 = .int .i64 (Led.sm (Led.gKO x.s) (M.take j)) ∧ Value.int .i64 ((k : Int) + 1) = .int .i64 j ∧ TwoAt W w.heap.size (.slice adA A.length capA) (.slice (some ⟨b, off, none⟩) M.length capM) ∧ AccAt W (w.heap.size + 1) (.string x.s) (.int .i64 x.a) (.int .i64 x.b) (.int .i64 x.c) (.int .i64 x.x) (.int .i64 x.y) (.int .i64 x.z) ∧ Gr w W) := by
        intro s1 s2 s3 s4 q1 q2 q3 q4 W g
        subst q1 q2 q3 q4
        exact ⟨k + 1, by omega, rfl, rfl, rfl, rfl, by simp, HB.out.gr g, HX.out.gr g, HG.out.trans g⟩
      rw [t1, t2, t3, t4] at HRL
      generalize Led.sm (Led.gFI x.s) (M.take k) = u1 at *
      generalize Led.sm (Led.gFO x.s) (M.take k) = u2 at *
      generalize Led.sm (Led.gKI x.s) (M.take k) = u3 at *
      generalize Led.sm (Led.gKO x.s) (M.take k) = u4 at *
      clear t1 t2 t3 t4 c0 c1 c2 c3 c4 hb
      generalize M[k] = m at *
      obtain ⟨_, _, n1, n2⟩ := (Act.act_iff _ _ _).1 hac
      by_cases hts : m.t = x.s
      · by_cases hst : m.st = 1
        · have hq := g_hit hac hts hst
          have hqt : (m.t.toList == x.s.toList) = true := by rw [hts]; simp
          have p1 : u1 + m.n ≤ 9223372036854775807 := by omega
          have p2 : u2 + m.n ≤ 9223372036854775807 := by omega
          have p3 : u3 + m.n ≤ 9223372036854775807 := by omega
          have p4 : u4 + m.n ≤ 9223372036854775807 := by omega
          clear hts hac
          rcases hq with ⟨hkd, a, b, c, d⟩ | ⟨hkd, a, b, c, d⟩ | ⟨hkd, a, b, c, d⟩ | ⟨hkd, a, b, c, d⟩
          · rw [a, b, c, d] at HRL
            have hk1 : (m.k == 1) = true := by rw [hkd]; decide
            have hk2 : (m.k == 2) = false := by rw [hkd]; decide
            have hk3 : (m.k == 3) = false := by rw [hkd]; decide
            have hk4 : (m.k == 4) = false := by rw [hkd]; decide
            clear hkd a b c d
            go_wp2
            go_roundw
            case rel => exact HRL.out _ _ _ _ (by omega) (by omega) (by omega) (by omega) _ (by (with_reducible repeat' (first | exact Gr.refl _ | refine Gr.set ?_ _ ?_ _ | refine Gr.alloc ?_ | refine Gr.drew ?_ | refine Gr.trans ?_ (by assumption))) <;> (first | (simp; done) | (simp; omega) | omega))
            case measure => simp [intOf]; omega
          · rw [a, b, c, d] at HRL
            have hk1 : (m.k == 1) = false := by rw [hkd]; decide
            have hk2 : (m.k == 2) = true := by rw [hkd]; decide
            have hk3 : (m.k == 3) = false := by rw [hkd]; decide
            have hk4 : (m.k == 4) = false := by rw [hkd]; decide
            clear hkd a b c d
            go_wp2
            go_roundw
            case rel => exact HRL.out _ _ _ _ (by omega) (by omega) (by omega) (by omega) _ (by (with_reducible repeat' (first | exact Gr.refl _ | refine Gr.set ?_ _ ?_ _ | refine Gr.alloc ?_ | refine Gr.drew ?_ | refine Gr.trans ?_ (by assumption))) <;> (first | (simp; done) | (simp; omega) | omega))
            case measure => simp [intOf]; omega
          · rw [a, b, c, d] at HRL
            have hk1 : (m.k == 1) = false := by rw [hkd]; decide
            have hk2 : (m.k == 2) = false := by rw [hkd]; decide
            have hk3 : (m.k == 3) = true := by rw [hkd]; decide
            have hk4 : (m.k == 4) = false := by rw [hkd]; decide
            clear hkd a b c d
            go_wp2
            go_roundw
            case rel => exact HRL.out _ _ _ _ (by omega) (by omega) (by omega) (by omega) _ (by (with_reducible repeat' (first | exact Gr.refl _ | refine Gr.set ?_ _ ?_ _ | refine Gr.alloc ?_ | refine Gr.drew ?_ | refine Gr.trans ?_ (by assumption))) <;> (first | (simp; done) | (simp; omega) | omega))
            case measure => simp [intOf]; omega
          · rw [a, b, c, d] at HRL
            have hk1 : (m.k == 1) = false := by rw [hkd]; decide
            have hk2 : (m.k == 2) = false := by rw [hkd]; decide
            have hk3 : (m.k == 3) = false := by rw [hkd]; decide
            have hk4 : (m.k == 4) = true := by rw [hkd]; decide
            clear hkd a b c d
            go_wp2
            go_roundw
            case rel => exact HRL.out _ _ _ _ (by omega) (by omega) (by omega) (by omega) _ (by (with_reducible repeat' (first | exact Gr.refl _ | refine Gr.set ?_ _ ?_ _ | refine Gr.alloc ?_ | refine Gr.drew ?_ | refine Gr.trans ?_ (by assumption))) <;> (first | (simp; done) | (simp; omega) | omega))
            case measure => simp [intOf]; omega
        · have hq := g_not (s := x.s) (m := m) (fun h => hst h.2)
          obtain ⟨a, b, c, d⟩ := hq
          rw [a, b, c, d] at HRL
          have hqt : (m.t.toList == x.s.toList) = true := by rw [hts]; simp
          have hqs : (m.st == 1) = false := by simpa using hst
          clear hts hst hac a b c d
          go_wp2
          go_roundw
          case rel => exact HRL.out _ _ _ _ (by omega) (by omega) (by omega) (by omega) _ (by (with_reducible repeat' (first | exact Gr.refl _ | refine Gr.set ?_ _ ?_ _ | refine Gr.alloc ?_ | refine Gr.drew ?_ | refine Gr.trans ?_ (by assumption))) <;> (first | (simp; done) | (simp; omega) | omega))
          case measure => simp [intOf]; omega
      · have hq := g_not (s := x.s) (m := m) (fun h => hts h.1)
        obtain ⟨a, b, c, d⟩ := hq
        rw [a, b, c, d] at HRL
        have hqt := neB hts
        clear hts hac a b c d
        go_wp2
        go_roundw
        case rel => exact HRL.out _ _ _ _ (by omega) (by omega) (by omega) (by omega) _ (by (with_reducible repeat' (first | exact Gr.refl _ | refine Gr.set ?_ _ ?_ _ | refine Gr.alloc ?_ | refine Gr.drew ?_ | refine Gr.trans ?_ (by assumption))) <;> (first | (simp; done) | (simp; omega) | omega))
        case measure => simp [intOf]; omega
    · have hki : ¬ (k : Int) < (M.length : Int) := by omega
      have hke : k = M.length := by omega
      have HP : Hid (Led.potsB M x = (decide (x.b = Led.sm (Led.gFI x.s) (M.take k)) && decide (x.c = Led.sm (Led.gFO x.s) (M.take k)) && decide (x.y = Led.sm (Led.gKI x.s) (M.take k)) && decide (x.z = Led.sm (Led.gKO x.s) (M.take k)))) := by
        show _ = _
        rw [hke, List.take_length]; rfl
      clear hke
      generalize Led.sm (Led.gFI x.s) (M.take k) = u1 at *
      generalize Led.sm (Led.gFO x.s) (M.take k) = u2 at *
      generalize Led.sm (Led.gKI x.s) (M.take k) = u3 at *
      generalize Led.sm (Led.gKO x.s) (M.take k) = u4 at *
      by_cases q1 : x.b = u1
      case neg =>
        have hq1 : (x.b == u1) = false := by simpa using q1
        have HV : Hid (Led.potsB M x = false) := by show _ = _; rw [HP.out, decide_eq_false q1]; simp
        clear q1
        go_wp2
        go_ret
        exact ⟨by rw [HV.out]; rfl, HG.out⟩
      rw [decide_eq_true q1] at HP
      have hq1 : (x.b == u1) = true := by simpa using q1
      clear q1
      by_cases q2 : x.c = u2
      case neg =>
        have hq2 : (x.c == u2) = false := by simpa using q2
        have HV : Hid (Led.potsB M x = false) := by show _ = _; rw [HP.out, decide_eq_false q2]; simp
        clear q2
        go_wp2
        go_ret
        exact ⟨by rw [HV.out]; rfl, HG.out⟩
      rw [decide_eq_true q2] at HP
      have hq2 : (x.c == u2) = true := by simpa using q2
      clear q2
      by_cases q3 : x.y = u3
      case neg =>
        have hq3 : (x.y == u3) = false := by simpa using q3
        have HV : Hid (Led.potsB M x = false) := by show _ = _; rw [HP.out, decide_eq_false q3]; simp
        clear q3
        go_wp2
        go_ret
        exact ⟨by rw [HV.out]; rfl, HG.out⟩
      rw [decide_eq_true q3] at HP
      have hq3 : (x.y == u3) = true := by simpa using q3
      clear q3
      by_cases q4 : x.z = u4
      case neg =>
        have hq4 : (x.z == u4) = false := by simpa using q4
        have HV : Hid (Led.potsB M x = false) := by show _ = _; rw [HP.out, decide_eq_false q4]; simp
        clear q4
        go_wp2
        go_ret
        exact ⟨by rw [HV.out]; rfl, HG.out⟩
      rw [decide_eq_true q4] at HP
      have hq4 : (x.z == u4) = true := by simpa using q4
      clear q4
      have HV : Hid (Led.potsB M x = true) := by show _ = _; rw [HP.out]; rfl
      go_wp2
      go_ret
      exact ⟨by rw [HV.out]; rfl, HG.out⟩
end Go.Proofs.Ytgidkmipecfjhaa
