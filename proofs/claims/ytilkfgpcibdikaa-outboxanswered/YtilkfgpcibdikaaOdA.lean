
/- The statements' own: note, few, awake. -/
import Derived.Test.YtilkfgpcibdikaaObJ
namespace Go.Proofs.Ytilkfgpcibdikaa
open Go.RowKit

def ntX (s : Int) : Nt := ⟨2, 0, 1, [(s, 1)], ⟨#[]⟩, 0⟩
/- what note answers -/
def NtX (s : Int) (w : World) (e : Ending) (w' : World) : Prop :=
  ∃ a, e = .returned (Mn.v ⟨ntX s, a, 1⟩) ∧ MnAt w' ⟨ntX s, a, 1⟩ ∧ Gr w w'
set_option maxHeartbeats 2000000 in
set_option maxRecDepth 100000 in
theorem lnote_any (s : Int) (w : World) : Calls Try.prog 23 #[.int .i64 s] w fun e w' => NtX s w e w' := by
  go_enter Try.func23, Try.ntmps23
  go_wp2
  refine bodyPost_ret (v := .agg #[.int .i64 2, .int .i64 0, .int .i64 1, .slice (some ⟨w.heap.size + 1, 0, none⟩) 1 1, .string ⟨#[]⟩, .int .i64 0]) (by simp [results, Try.results23, go_sem]) rfl ?_
  refine ⟨some ⟨w.heap.size + 1, 0, none⟩, rfl, ⟨?_, by simp [ntX], by simp [ntX], by simp [ntX, ByteArray.size]⟩, ?_⟩
  · intro j hj
    have : j = 0 := by have : j < 1 := hj; omega
    subst this
    exact ⟨w.heap.size + 1, 0, rfl, by simp, by simp [go_sem, ntX], by simp [go_sem, ntX]⟩
  · exact (by (repeat' (first | with_reducible exact Gr.refl _ | with_reducible refine Gr.set ?_ _ ?_ _ | with_reducible refine Gr.alloc ?_ | with_reducible refine Gr.drew ?_ | with_reducible refine Gr.trans ?_ (by assumption))) <;> (first | (simp; done) | (simp; omega) | omega))

/- what few answers: yes or no -/
def FewR (w : World) (e : Ending) (w' : World) : Prop := ∃ b, e = .returned (.bool b) ∧ Gr w w'
set_option maxHeartbeats 4000000 in
set_option maxRecDepth 100000 in
theorem few_any (D : List Mi) (Q : List Mn) (ad : Option Addr) (cap : Nat) (adQ : Option Addr) (capQ : Nat) (w : World) (hD : ItsRow w ad D) (hQ : NtsRow w adQ Q) :
    Calls Try.prog 7 #[.slice ad D.length cap, .slice adQ Q.length capQ] w fun e w' => FewR w e w' := by
  have HD := Lib.hid hD
  have HQ := Lib.hid hQ
  clear hD hQ
  by_cases h1 : 100 < D.length
  · have h1' : (100 : Int) < (D.length : Int) := by omega
    go_enter Try.func7, Try.ntmps7
    go_wp2
    go_ret
    exact ⟨_, rfl, (by repeat (first | exact Gr.refl _ | refine Gr.alloc ?_ | refine Gr.drew ?_ | refine Gr.trans ?_ (by assumption)))⟩
  · have h1' : ¬ (100 : Int) < (D.length : Int) := by omega
    by_cases h2 : 100 < Q.length
    · have h2' : (100 : Int) < (Q.length : Int) := by omega
      go_enter Try.func7, Try.ntmps7
      go_wp2
      go_ret
      exact ⟨_, rfl, (by repeat (first | exact Gr.refl _ | refine Gr.alloc ?_ | refine Gr.drew ?_ | refine Gr.trans ?_ (by assumption)))⟩
    · have h2' : ¬ (100 : Int) < (Q.length : Int) := by omega
      go_enter Try.func7, Try.ntmps7
      go_wp2
      go_loop [5] (fun s5 => ∃ j : Nat, s5 = .int .i64 j ∧ j ≤ D.length) (fun s5 => D.length - (intOf s5).toNat)
      case atStart => exact ⟨0, rfl, Nat.zero_le _⟩
      case round =>
        obtain ⟨j, rfl, hj⟩ := hrel
        by_cases hlt : j < D.length
        · obtain ⟨b, off, rfl, hbl, d0, d1, d2, d3, d4, d5, d6, d7, d8⟩ := ItsRow.at HD.out j hlt
          have hji : (j : Int) < (D.length : Int) := by omega
          have hj0 : (0 : Int) ≤ (j : Int) := by omega
          generalize D[j] = x at *
          clear d0 d1 d2 d3 d4 d5 d7 d8
          generalize x.m.x.L.length = ll at *
          by_cases hb : (100 : Int) < (ll : Int)
          · have hb' : 100 < ll := by omega
            go_wp2
            go_ret
            exact ⟨_, rfl, (by repeat (first | exact Gr.refl _ | refine Gr.alloc ?_ | refine Gr.drew ?_ | refine Gr.trans ?_ (by assumption)))⟩
          · have hb' : ¬ 100 < ll := by omega
            go_wp2
            go_round
            case rel => exact ⟨j + 1, by go_num, by omega⟩
            case measure => simp [intOf]; omega
        · have hge : ¬ ((j : Int) < (D.length : Int)) := by omega
          go_wp2
          go_loop [6] (fun s6 => ∃ j : Nat, s6 = .int .i64 j ∧ j ≤ Q.length) (fun s6 => Q.length - (intOf s6).toNat)
          case atStart => exact ⟨0, rfl, Nat.zero_le _⟩
          case round =>
            obtain ⟨i, rfl, hi⟩ := hrel
            by_cases hlt2 : i < Q.length
            · obtain ⟨b, off, rfl, hbl, d0, d1, d2, d3, d4, d5⟩ := NtsRow.at HQ.out i hlt2
              have hji : (i : Int) < (Q.length : Int) := by omega
              have hj0 : (0 : Int) ≤ (i : Int) := by omega
              generalize Q[i] = x at *
              clear d0 d1 d2 d4 d5
              generalize x.x.L.length = ll at *
              by_cases hb : (100 : Int) < (ll : Int)
              · have hb' : 100 < ll := by omega
                go_wp2
                go_ret
                exact ⟨_, rfl, (by repeat (first | exact Gr.refl _ | refine Gr.alloc ?_ | refine Gr.drew ?_ | refine Gr.trans ?_ (by assumption)))⟩
              · have hb' : ¬ 100 < ll := by omega
                go_wp2
                go_round
                case rel => exact ⟨i + 1, by go_num, by omega⟩
                case measure => simp [intOf]; omega
            · have hge2 : ¬ ((i : Int) < (Q.length : Int)) := by omega
              go_wp2
              go_ret
              exact ⟨_, rfl, (by repeat (first | exact Gr.refl _ | refine Gr.alloc ?_ | refine Gr.drew ?_ | refine Gr.trans ?_ (by assumption)))⟩

theorem n0_ok : okN (pk (ntX 0)) = true := by decide
theorem n1_ok : okN (pk (ntX 1)) = true := by decide
theorem z_no : okN (pk Nt.zeroN) = false := by decide
def L2 : List (Ox.It Nx) := [⟨1, 5, 0, pk (ntX 0)⟩, ⟨2, 5, 0, pk (ntX 1)⟩]
theorem aw_push : Ox.push okN (its []) 1 5 [pk (ntX 0), pk (ntX 1), pk (ntX 0)] = (L2, 0) := by kernel_rfl
theorem aw_due : (Ox.dueL okN L2 5).map (fun x => (x.d, x.s)) = [(7, 1), (7, 1)] ∧ (Ox.dueD okN L2 5).length = 2 := by decide
theorem aw_bad : Ox.push okN L2 1 5 [pk Nt.zeroN] = ([], 130) := by kernel_rfl
theorem aw_has : Ox.hasB okN L2 (pk (ntX 1)) = true := by decide
theorem aw_ans : (Ox.ans okN L2 1).length = 1 := by decide
theorem aw_may (m : Mn) (h : m.x = Nt.zeroN) : mayE [⟨0, 0, 0, m⟩] = 2 := by
  have e : its [⟨0, 0, 0, m⟩] = [⟨0, 0, 0, pk Nt.zeroN⟩] := by simp [its, Mi.it, h]
  unfold mayE
  rw [e]
  decide

/- the statement that some answers are as the document fixes them -/
def AwR (w : World) (e : Ending) (w' : World) : Prop := e = .returned (.bool true) ∧ Gr w w'
theorem nts3 {w : World} {m0 m1 m2 : Mn} {g : Nat} {t : TypeId} (hg : g = w.heap.size) (h0 : MnAt w m0) (h1 : MnAt w m1) (h2 : MnAt w m2) : NtsAt (w.alloc (.cells (nC m0 ++ nC m1 ++ nC m2).toArray t)) (some ⟨g, 0, none⟩) [m0, m1, m2] := by
  subst hg
  refine ⟨fun j u hu => ⟨w.heap.size, 0, rfl, by simp, ?_⟩, ?_⟩
  · rw [Nat.zero_add, cell_of_row _ w.heap.size j _ _ _ (heap_alloc_new w _)]
    simpa using hu
  · intro m hm
    simp at hm
    rcases hm with rfl | rfl | rfl
    · exact h0.gr (Gr.refl _).alloc
    · exact h1.gr (Gr.refl _).alloc
    · exact h2.gr (Gr.refl _).alloc
theorem nts1 {w : World} {m0 : Mn} {g : Nat} {t : TypeId} (hg : g = w.heap.size) (h0 : MnAt w m0) : NtsAt (w.alloc (.cells (nC m0).toArray t)) (some ⟨g, 0, none⟩) [m0] := by
  subst hg
  refine ⟨fun j u hu => ⟨w.heap.size, 0, rfl, by simp, ?_⟩, ?_⟩
  · rw [Nat.zero_add, cell_of_row _ w.heap.size j _ _ _ (heap_alloc_new w _)]
    simpa using hu
  · intro m hm
    simp at hm
    subst hm
    exact h0.gr (Gr.refl _).alloc
theorem zAt (w : World) : MnAt w ⟨Nt.zeroN, none, 0⟩ := ⟨HopsAt.nil, by simp [Nt.zeroN], by simp [Nt.zeroN], by simp [Nt.zeroN, ByteArray.size]⟩
theorem its1 {w : World} {x : Mi} {g : Nat} {t : TypeId} (hg : g = w.heap.size) (h0 : MnAt w x.m) : ItsAt (w.alloc (.cells (iC x).toArray t)) (some ⟨g, 0, none⟩) [x] := by
  subst hg
  refine ⟨fun j u hu => ⟨w.heap.size, 0, rfl, by simp, ?_⟩, ?_⟩
  · rw [Nat.zero_add, cell_of_row _ w.heap.size j _ _ _ (heap_alloc_new w _)]
    simpa using hu
  · intro m hm
    simp at hm
    subst hm
    exact h0.gr (Gr.refl _).alloc
/- the row of two items of which the statements' own answers speak -/
structure LAt (w : World) (b off c : Nat) (E : List Mi) : Prop where
  it : ItsAt w (some ⟨b, off, none⟩) E
  e : its E = L2
  n : E.length = 2
  c : 2 ≤ c
theorem LAt.gr {w w' : World} {b off c : Nat} {E : List Mi} (h : LAt w b off c E) (g : Gr w w') : LAt w' b off c E := ⟨h.it.gr g, h.e, h.n, h.c⟩
theorem its_two {E : List Mi} {x y : Ox.It Nx} (h : its E = [x, y]) : ∃ m n : Mi, E = [m, n] ∧ m.it = x ∧ n.it = y := by
  match E, h with
  | [m, n], h =>
    simp [its] at h
    exact ⟨m, n, rfl, h.1, h.2⟩
theorem LAt.at {w : World} {b off c : Nat} {E : List Mi} (h : LAt w b off c E) : w.cell? ⟨b, off + 9, none⟩ = some (.int .i64 2) ∧ w.cell? ⟨b, off + 9 + 1, none⟩ = some (.int .i64 5) ∧ b < w.heap.size := by
  obtain ⟨hit, he, hn, _⟩ := h
  obtain ⟨m, n, rfl, h1, h2⟩ := its_two he
  obtain ⟨b', off', e, hb, c0, c1, _⟩ := ItsRow.at hit.row 1 (by simp)
  cases e
  have e0 : n.q = 2 := congrArg Ox.It.q h2
  have e1 : n.d = 5 := congrArg Ox.It.d h2
  simp only [List.getElem_cons_succ, List.getElem_cons_zero, Nat.one_mul] at c0 c1
  rw [e0] at c0
  rw [e1] at c1
  exact ⟨c0, c1, hb⟩
theorem aw1 (p0 p1 p2 : Option Addr) (w : World) (h0 : MnAt w ⟨ntX 0, p0, 1⟩) (h1 : MnAt w ⟨ntX 1, p1, 1⟩) (h2 : MnAt w ⟨ntX 0, p2, 1⟩) :
    Calls Try.prog 9 #[.slice none 0 0, .int .i64 1, .int .i64 5, .slice (some ⟨w.heap.size, 0, none⟩) 3 3] (w.alloc (.cells #[.int .i64 2, .int .i64 0, .int .i64 1, .slice p0 1 1, .string ⟨#[]⟩, .int .i64 0, .int .i64 2, .int .i64 0, .int .i64 1, .slice p1 1 1, .string ⟨#[]⟩, .int .i64 0, .int .i64 2, .int .i64 0, .int .i64 1, .slice p2 1 1, .string ⟨#[]⟩, .int .i64 0] 37)) fun e w' => ∃ b off c E, e = .returned (.tuple #[.slice (some ⟨b, off, none⟩) 2 c, .int .i64 0]) ∧ LAt w' b off c E ∧ Gr w w' := by
  have := push_any [] 1 5 [⟨ntX 0, p0, 1⟩, ⟨ntX 1, p1, 1⟩, ⟨ntX 0, p2, 1⟩] none 0 (some ⟨w.heap.size, 0, none⟩) 3 _ ItsAt.nil (by simp) (by simp) (nts3 (t := 37) rfl h0 h1 h2) (by simp)
  refine this.mono ?_
  rintro e w' ⟨a, c, E, rfl, hb, he, hg⟩
  have hp : Ox.push okN (its []) 1 5 (pks [⟨ntX 0, p0, 1⟩, ⟨ntX 1, p1, 1⟩, ⟨ntX 0, p2, 1⟩]) = (L2, 0) := aw_push
  rw [hp] at he ⊢
  obtain ⟨ad, cap, e2, h3, _, hit, _⟩ := hb.at
  cases e2
  have hn : E.length = 2 := by
    have := congrArg List.length he
    rw [its_len] at this
    exact this
  obtain ⟨b, off, rfl, _⟩ := ItsRow.at hit.row 0 (by omega)
  rw [hn] at h3 ⊢
  exact ⟨b, off, c, E, rfl, ⟨hit, he, hn, h3⟩, (Gr.refl _).alloc.trans hg⟩
theorem aw2 {w : World} {b off c : Nat} {E : List Mi} (h : LAt w b off c E) : Calls Try.prog 16 #[.slice (some ⟨b, off, none⟩) 2 c, .int .i64 5] w fun e w' => ∃ b2 off2 c2 a3 c3, e = .returned (.tuple #[.slice (some ⟨b2, off2, none⟩) 2 c2, .slice a3 2 c3]) ∧ (w'.cell? ⟨b2, off2 + 1, none⟩ = some (.int .i64 7) ∧ w'.cell? ⟨b2, off2 + 2, none⟩ = some (.int .i64 1) ∧ b2 < w'.heap.size) ∧ Gr w w' := by
  have := due_any E 5 (some ⟨b, off, none⟩) c w h.it (by rw [h.n]; exact h.c) (by rw [h.n]; decide)
  rw [h.n] at this
  refine this.mono ?_
  rintro e w' ⟨a2, c2, E2, a3, c3, E3, rfl, hb2, hb3, he2, he3, hg⟩
  rw [h.e] at he2 he3
  obtain ⟨ad, cap, e2, _, _, hit, _⟩ := hb2.at
  cases e2
  have hn2 : E2.length = 2 := by
    have := congrArg List.length he2
    rw [its_len] at this
    exact this
  have hn3 : E3.length = 2 := by
    have := congrArg List.length he3
    rw [its_len] at this
    exact this
  obtain ⟨b2, off2, rfl, hl, c0, c1, c2', _⟩ := ItsRow.at hit.row 0 (by omega)
  have hx : its E2 = [⟨1, 7, 1, pk (ntX 0)⟩, ⟨2, 7, 1, pk (ntX 1)⟩] := he2.trans (by kernel_rfl)
  obtain ⟨m, n, rfl, h1, h2⟩ := its_two hx
  have e0 : m.d = 7 := congrArg Ox.It.d h1
  have e1 : m.s = 1 := congrArg Ox.It.s h1
  simp only [List.getElem_cons_zero, Nat.zero_mul, Nat.add_zero] at c1 c2'
  rw [e0] at c1
  rw [e1] at c2'
  rw [hn3]
  exact ⟨b2, off2, c2, a3, c3, rfl, ⟨c1, c2', hl⟩, hg⟩
theorem aw3 {w : World} {b off c : Nat} {E : List Mi} (h : LAt w b off c E) : Calls Try.prog 9 #[.slice (some ⟨b, off, none⟩) 2 c, .int .i64 1, .int .i64 5, .slice (some ⟨w.heap.size, 0, none⟩) 1 1] (w.alloc (.cells #[.int .i64 0, .int .i64 0, .int .i64 0, .slice none 0 0, .string ⟨#[]⟩, .int .i64 0] 37)) fun e w' => ∃ v, e = .returned (.tuple #[v, .int .i64 130]) ∧ Gr w w' := by
  have := push_any E 1 5 [⟨Nt.zeroN, none, 0⟩] (some ⟨b, off, none⟩) c (some ⟨w.heap.size, 0, none⟩) 1 _ (h.it.gr (Gr.refl _).alloc) (by rw [h.n]; exact h.c) (by rw [h.n]; decide) (nts1 (t := 37) rfl (zAt w)) (by simp)
  rw [h.n] at this
  refine this.mono ?_
  rintro e w' ⟨a2, c2, E2, rfl, hb2, he2, hg⟩
  have hp : Ox.push okN (its E) 1 5 (pks [⟨Nt.zeroN, none, 0⟩]) = ([], 130) := by rw [h.e]; exact aw_bad
  rw [hp]
  exact ⟨_, rfl, (Gr.refl _).alloc.trans hg⟩
theorem aw4 {w : World} {b off c : Nat} {E : List Mi} (h : LAt w b off c E) (p : Option Addr) (hm : MnAt w ⟨ntX 1, p, 1⟩) : Calls Try.prog 11 #[.slice (some ⟨b, off, none⟩) 2 c, .agg #[.int .i64 2, .int .i64 0, .int .i64 1, .slice p 1 1, .string ⟨#[]⟩, .int .i64 0]] w fun e w' => e = .returned (.bool true) ∧ Gr w w' := by
  have := hasO_any E ⟨ntX 1, p, 1⟩ (some ⟨b, off, none⟩) c w h.it (by rw [h.n]; exact h.c) (by rw [h.n]; decide) hm
  rw [h.n, h.e, show Ox.hasB okN L2 (pk (Mn.mk (ntX 1) p 1).x) = true from aw_has] at this
  exact this
theorem aw5 {w : World} {b off c : Nat} {E : List Mi} (h : LAt w b off c E) : Calls Try.prog 18 #[.slice (some ⟨b, off, none⟩) 2 c, .int .i64 1] w fun e w' => ∃ a2 c2, e = .returned (.slice a2 1 c2) ∧ Gr w w' := by
  have := answered_any E 1 (some ⟨b, off, none⟩) c w h.it (by rw [h.n]; exact h.c) (by rw [h.n]; decide)
  rw [h.n] at this
  refine this.mono ?_
  rintro e w' ⟨a2, c2, E2, rfl, hb2, he2, hg⟩
  have hn2 : E2.length = 1 := by
    have := congrArg List.length he2
    rw [its_len, h.e] at this
    exact this.trans aw_ans
  rw [hn2]
  exact ⟨a2, c2, rfl, hg⟩
theorem aw6 (w : World) : Calls Try.prog 13 #[.slice (some ⟨w.heap.size, 0, none⟩) 1 1] (w.alloc (.cells #[.int .i64 0, .int .i64 0, .int .i64 0, .int .i64 0, .int .i64 0, .int .i64 0, .slice none 0 0, .string ⟨#[]⟩, .int .i64 0] 48)) fun e w' => e = .returned (.int .i64 2) ∧ Gr w w' := by
  have := may_any [⟨0, 0, 0, ⟨Nt.zeroN, none, 0⟩⟩] (some ⟨w.heap.size, 0, none⟩) 1 _ (its1 (t := 48) rfl (zAt w)) (by simp) (by simp)
  refine this.mono ?_
  rintro e w' ⟨rfl, hg⟩
  rw [aw_may _ rfl]
  exact ⟨rfl, (Gr.refl _).alloc.trans hg⟩
theorem lnote2 (s : Int) (w : World) : Calls Try.prog 23 #[.int .i64 s] w fun e w' => ∃ p, e = .returned (.agg #[.int .i64 2, .int .i64 0, .int .i64 1, .slice p 1 1, .string ⟨#[]⟩, .int .i64 0]) ∧ MnAt w' ⟨ntX s, p, 1⟩ ∧ Gr w w' := lnote_any s w
set_option maxHeartbeats 16000000 in
set_option maxRecDepth 100000 in
theorem awake_any (w : World) : Calls Try.prog 8 #[] w fun e w' => AwR w e w' := by
  have HN : Hid (∀ s w', Calls Try.prog 23 #[.int .i64 s] w' fun e w2 => ∃ p, e = .returned (.agg #[.int .i64 2, .int .i64 0, .int .i64 1, .slice p 1 1, .string ⟨#[]⟩, .int .i64 0]) ∧ MnAt w2 ⟨ntX s, p, 1⟩ ∧ Gr w' w2) := fun s w' => lnote2 s w'
  go_enter Try.func8, Try.ntmps8
  go_wp2_with fail
  refine (HN.out 0 _).mono ?_
  rintro e0 w1 ⟨p0, rfl, hm0, hg0⟩
  have HM0 := Lib.hid hm0
  have HG1 := Lib.hid hg0
  clear hm0 hg0
  go_wp2_with fail
  refine (HN.out 1 _).mono ?_
  rintro e1 w2 ⟨p1, rfl, hm1, hg1⟩
  have HM1 := Lib.hid hm1
  have HM0b := Lib.hid (HM0.out.gr hg1)
  have HG2 := Lib.hid (HG1.out.trans hg1)
  clear hm1 hg1 HM0 HG1
  go_wp2_with fail
  refine (HN.out 0 _).mono ?_
  rintro e2 w3 ⟨p2, rfl, hm2, hg2⟩
  have HPs := Lib.hid (aw1 p0 p1 p2 w3 (HM0b.out.gr hg2) (HM1.out.gr hg2) hm2)
  have HG3 := Lib.hid (HG2.out.trans hg2)
  clear hm2 hg2 HM0b HM1 HG2
  go_wp2_with fail
  refine HPs.out.mono ?_
  rintro e3 w4 ⟨b, off, c, E, rfl, hl, hg3⟩
  have HL := Lib.hid hl
  have HG4 := Lib.hid (HG3.out.trans hg3)
  clear hl hg3 HPs HG3
  go_wp2_with fail
  refine (aw2 HL.out).mono ?_
  rintro e4 w5 ⟨b2, off2, c2, a3, c3, rfl, ⟨k1, k2, kl⟩, hg4⟩
  have HL5 := Lib.hid (HL.out.gr hg4)
  have HG5 := Lib.hid (HG4.out.trans hg4)
  have HK := Lib.hid (And.intro k1 (And.intro k2 kl))
  clear hg4 HL HG4 k1 k2 kl
  go_wp2_with fail
  refine (aw3 HL5.out).mono ?_
  rintro e5 w6 ⟨v, rfl, hg5⟩
  have hl6 := HL5.out.gr hg5
  obtain ⟨c0, c1, cl⟩ := hl6.at
  obtain ⟨k1, k2, kl⟩ := HK.out
  have k1 := hg5.keep k1
  have k2 := hg5.keep k2
  have kl := Nat.lt_of_lt_of_le kl hg5.size
  have HL6 := Lib.hid hl6
  have HG6 := Lib.hid (HG5.out.trans hg5)
  clear hg5 hl6 HL5 HG5 HK
  go_wp2_with fail
  refine (HN.out 1 _).mono ?_
  rintro e6 w7 ⟨p, rfl, hm, hg6⟩
  have HM := Lib.hid hm
  have HL7 := Lib.hid (HL6.out.gr hg6)
  have HG7 := Lib.hid (HG6.out.trans hg6)
  clear hm hg6 HL6 HG6 c0 c1 cl k1 k2 kl
  go_wp2_with fail
  refine (aw4 HL7.out p HM.out).mono ?_
  rintro e7 w8 ⟨rfl, hg7⟩
  have HL8 := Lib.hid (HL7.out.gr hg7)
  have HG8 := Lib.hid (HG7.out.trans hg7)
  clear hg7 HL7 HG7 HM
  go_wp2_with fail
  refine (aw5 HL8.out).mono ?_
  rintro e8 w9 ⟨a9, c9, rfl, hg8⟩
  have HG9 := Lib.hid (HG8.out.trans hg8)
  clear hg8 HL8 HG8
  go_wp2_with fail
  refine (aw6 _).mono ?_
  rintro e9 w10 ⟨rfl, hg9⟩
  have HG10 := Lib.hid (HG9.out.trans hg9)
  clear hg9 HG9
  go_wp2
  go_ret
  exact ⟨rfl, HG10.out⟩
end Go.Proofs.Ytilkfgpcibdikaa
