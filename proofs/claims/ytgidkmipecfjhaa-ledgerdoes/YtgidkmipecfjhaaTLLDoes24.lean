/- What the proof is made of, part 24. -/
import Derived.Test.YtgidkmipecfjhaaTLLDoes23
import Derived.Deep.DeepCutAuto
namespace Go.Proofs.Ytgidkmipecfjhaa
open Go.RowKit
open Led (Acc Mk)
theorem refOpen_no (A : List Acc) (M : List Mk) (s : ByteArray) (n : Int) (adA : Option Addr) (capA : Nat) (adM : Option Addr) (capM : Nat) (w : World) (h : LedAt w adA adM A M) (hs : s.size ≤ 9223372036854775807) (he : openE A M s n ≠ 0) :
    Calls Try.prog 19 #[.agg #[.slice adA A.length capA, .slice adM M.length capM], .string s, .int .i64 n] w fun e w' => e = .returned (.tuple #[.agg #[.slice none 0 0, .slice none 0 0], .int .i64 (openE A M s n)]) ∧ Gr w w' := by
  have HM : Hid (∀ w', Gr w w' → Calls Try.prog 15 #[.agg #[.slice adA A.length capA, .slice adM M.length capM]] w' fun e w2 => e = .returned (.int .i64 (mayL A M)) ∧ Gr w' w2) := fun w' g => refMay7_any A M adA capA adM capM w' (h.gr g)
  have HN : Hid (∀ w', Calls Try.prog 53 #[.string s] w' fun e w2 => e = .returned (.bool (Act.nameB s)) ∧ w2 = w') := fun w' => refName_any s w' hs
  have HT : Hid (∀ w', Calls Try.prog 54 #[.int .i64 n] w' fun e w2 => e = .returned (.bool (fitsB n)) ∧ w2 = w') := fun w' => refFits_any n w'
  have HI : Hid (∀ w', Gr w w' → Calls Try.prog 32 #[.agg #[.slice adA A.length capA, .slice adM M.length capM], .string s] w' fun e w2 => e = .returned (.int .i64 (firstI (Led.nm A) s)) ∧ Gr w' w2) := fun w' g => refAcc_any A M s adA capA adM capM w' (h.a.gr g) h.la
  cases hm : Led.mayB A M with
  | false =>
    have HE : Hid (openE A M s n = 2) := by show _ = _; unfold openE; rw [hm]; rfl
    rw [mayL_no hm] at HM
    clear h hm he HN HT HI
    go_enter Try.func19, Try.ntmps19
    go_wp2_with fail
    refine (HM.out _ ((Gr.refl _).alloc.alloc)).mono ?_
    rintro e w1 ⟨rfl, hg1⟩
    have HL1 : Hid (TwoAt w1 w.heap.size (.slice adA A.length capA) (.slice adM M.length capM)) := ((TwoAt.new w _ _ _ _ rfl).gr (Gr.refl _).alloc).gr hg1
    have HR1 : Hid (TwoAt w1 (w.heap.size + 1) (.slice none 0 0) (.slice none 0 0)) := (TwoAt.new _ _ _ _ (w.heap.size + 1) (by simp)).gr hg1
    have g1 : Gr w w1 := (by repeat (first | exact Gr.refl _ | refine Gr.alloc ?_ | refine Gr.drew ?_ | refine Gr.trans ?_ (by assumption)))
    clear hg1
    obtain ⟨r0, r1, f0, f1, rl⟩ := HR1.out
    go_wp2
    exact bodyPost_ret (v := .tuple #[.agg #[.slice none 0 0, .slice none 0 0], .int .i64 2]) (by simp [results, Try.results19, go_sem, *]) rfl ⟨by rw [HE.out], (g1.set _ (by simp) _).set _ (by simp) _⟩
  | true =>
    rw [mayL_yes hm] at HM
    have hM := (Led.may_iff A M).1 hm
    cases hn : Act.nameB s with
    | false =>
      have HE : Hid (openE A M s n = 2) := by show _ = _; unfold openE; rw [hm, hn]; rfl
      rw [hn] at HN
      clear h hm he HT HI hn hM
      go_enter Try.func19, Try.ntmps19
      go_wp2_with fail
      refine (HM.out _ ((Gr.refl _).alloc.alloc)).mono ?_
      rintro e w1 ⟨rfl, hg1⟩
      have HL1 : Hid (TwoAt w1 w.heap.size (.slice adA A.length capA) (.slice adM M.length capM)) := ((TwoAt.new w _ _ _ _ rfl).gr (Gr.refl _).alloc).gr hg1
      have HR1 : Hid (TwoAt w1 (w.heap.size + 1) (.slice none 0 0) (.slice none 0 0)) := (TwoAt.new _ _ _ _ (w.heap.size + 1) (by simp)).gr hg1
      have g1 : Gr w w1 := (by repeat (first | exact Gr.refl _ | refine Gr.alloc ?_ | refine Gr.drew ?_ | refine Gr.trans ?_ (by assumption)))
      clear hg1
      go_wp2_with fail
      refine (HN.out _).mono ?_
      rintro e w2 ⟨rfl, hw2⟩; obtain rfl := hw2.symm
      obtain ⟨r0, r1, f0, f1, rl⟩ := HR1.out
      go_wp2
      exact bodyPost_ret (v := .tuple #[.agg #[.slice none 0 0, .slice none 0 0], .int .i64 2]) (by simp [results, Try.results19, go_sem, *]) rfl ⟨by rw [HE.out], (g1.set _ (by simp) _).set _ (by simp) _⟩
    | true =>
      rw [hn] at HN
      cases hf : fitsB n with
      | false =>
        have HE : Hid (openE A M s n = 2) := by show _ = _; unfold openE; rw [hm, hn, hf]; rfl
        rw [hf] at HT
        clear h hm he HI hn hf hM
        go_enter Try.func19, Try.ntmps19
        go_wp2_with fail
        refine (HM.out _ ((Gr.refl _).alloc.alloc)).mono ?_
        rintro e w1 ⟨rfl, hg1⟩
        have HL1 : Hid (TwoAt w1 w.heap.size (.slice adA A.length capA) (.slice adM M.length capM)) := ((TwoAt.new w _ _ _ _ rfl).gr (Gr.refl _).alloc).gr hg1
        have HR1 : Hid (TwoAt w1 (w.heap.size + 1) (.slice none 0 0) (.slice none 0 0)) := (TwoAt.new _ _ _ _ (w.heap.size + 1) (by simp)).gr hg1
        have g1 : Gr w w1 := (by repeat (first | exact Gr.refl _ | refine Gr.alloc ?_ | refine Gr.drew ?_ | refine Gr.trans ?_ (by assumption)))
        clear hg1
        go_wp2_with fail
        refine (HN.out _).mono ?_
        rintro e w2 ⟨rfl, hw2⟩; obtain rfl := hw2.symm
        go_wp2_with fail
        refine (HT.out _).mono ?_
        rintro e w2 ⟨rfl, hw2⟩; obtain rfl := hw2.symm
        obtain ⟨r0, r1, f0, f1, rl⟩ := HR1.out
        go_wp2
        exact bodyPost_ret (v := .tuple #[.agg #[.slice none 0 0, .slice none 0 0], .int .i64 2]) (by simp [results, Try.results19, go_sem, *]) rfl ⟨by rw [HE.out], (g1.set _ (by simp) _).set _ (by simp) _⟩
      | true =>
        rw [hf] at HT
        cases hh : Led.hasB (Led.nm A) s with
        | true =>
          have HE : Hid (openE A M s n = 71) := by show _ = _; unfold openE; rw [hm, hn, hf, hh]; rfl
          rw [first_pos hM.ua hh] at HI
          clear h hm he hn hf hh hM
          have hp0 : (0 : Int) ≤ ((Led.pos (Led.nm A) s : Nat) : Int) := by omega
          generalize Led.pos (Led.nm A) s = p at *
          go_enter Try.func19, Try.ntmps19
          go_wp2_with fail
          refine (HM.out _ ((Gr.refl _).alloc.alloc)).mono ?_
          rintro e w1 ⟨rfl, hg1⟩
          have HL1 : Hid (TwoAt w1 w.heap.size (.slice adA A.length capA) (.slice adM M.length capM)) := ((TwoAt.new w _ _ _ _ rfl).gr (Gr.refl _).alloc).gr hg1
          have HR1 : Hid (TwoAt w1 (w.heap.size + 1) (.slice none 0 0) (.slice none 0 0)) := (TwoAt.new _ _ _ _ (w.heap.size + 1) (by simp)).gr hg1
          have g1 : Gr w w1 := (by repeat (first | exact Gr.refl _ | refine Gr.alloc ?_ | refine Gr.drew ?_ | refine Gr.trans ?_ (by assumption)))
          clear hg1
          go_wp2_with fail
          refine (HN.out _).mono ?_
          rintro e w2 ⟨rfl, hw2⟩; obtain rfl := hw2.symm
          go_wp2_with fail
          refine (HT.out _).mono ?_
          rintro e w2 ⟨rfl, hw2⟩; obtain rfl := hw2.symm
          obtain ⟨b0, b1, _, _, bl⟩ := HL1.out
          go_wp2_with fail
          refine (HI.out _ g1).mono ?_
          rintro e w3 ⟨rfl, hg3⟩
          have HL3 : Hid (TwoAt w3 w.heap.size (.slice adA A.length capA) (.slice adM M.length capM)) := HL1.out.gr hg3
          have HR3 : Hid (TwoAt w3 (w.heap.size + 1) (.slice none 0 0) (.slice none 0 0)) := HR1.out.gr hg3
          have g3 : Gr w w3 := g1.trans hg3
          clear hg3 b0 b1 bl HL1 HR1 g1
          obtain ⟨b0, b1, _, _, bl⟩ := HL3.out
          obtain ⟨r0, r1, f0, f1, rl⟩ := HR3.out
          go_wp2
          exact bodyPost_ret (v := .tuple #[.agg #[.slice none 0 0, .slice none 0 0], .int .i64 71]) (by simp [results, Try.results19, go_sem, *]) rfl ⟨by rw [HE.out], (g3.set _ (by simp) _).set _ (by simp) _⟩
        | false =>
          have h12 : 12 ≤ A.length := by
            by_cases h9 : 12 ≤ A.length
            · exact h9
            · exact absurd (by unfold openE; rw [hm, hn, hf, hh]; simp; omega) he
          have HE : Hid (openE A M s n = 3) := by show _ = _; unfold openE; rw [hm, hn, hf, hh]; simp; omega
          rw [first_neg hh] at HI
          have hq : ((A.length : Int) == 12) = true := by rw [beq_iff_eq]; have := hM.la; omega
          clear h hm he hn hf hh hM h12
          go_enter Try.func19, Try.ntmps19
          go_wp2_with fail
          refine (HM.out _ ((Gr.refl _).alloc.alloc)).mono ?_
          rintro e w1 ⟨rfl, hg1⟩
          have HL1 : Hid (TwoAt w1 w.heap.size (.slice adA A.length capA) (.slice adM M.length capM)) := ((TwoAt.new w _ _ _ _ rfl).gr (Gr.refl _).alloc).gr hg1
          have HR1 : Hid (TwoAt w1 (w.heap.size + 1) (.slice none 0 0) (.slice none 0 0)) := (TwoAt.new _ _ _ _ (w.heap.size + 1) (by simp)).gr hg1
          have g1 : Gr w w1 := (by repeat (first | exact Gr.refl _ | refine Gr.alloc ?_ | refine Gr.drew ?_ | refine Gr.trans ?_ (by assumption)))
          clear hg1
          go_wp2_with fail
          refine (HN.out _).mono ?_
          rintro e w2 ⟨rfl, hw2⟩; obtain rfl := hw2.symm
          go_wp2_with fail
          refine (HT.out _).mono ?_
          rintro e w2 ⟨rfl, hw2⟩; obtain rfl := hw2.symm
          obtain ⟨b0, b1, _, _, bl⟩ := HL1.out
          go_wp2_with fail
          refine (HI.out _ g1).mono ?_
          rintro e w3 ⟨rfl, hg3⟩
          have HL3 : Hid (TwoAt w3 w.heap.size (.slice adA A.length capA) (.slice adM M.length capM)) := HL1.out.gr hg3
          have HR3 : Hid (TwoAt w3 (w.heap.size + 1) (.slice none 0 0) (.slice none 0 0)) := HR1.out.gr hg3
          have g3 : Gr w w3 := g1.trans hg3
          clear hg3 b0 b1 bl HL1 HR1 g1
          obtain ⟨b0, b1, _, _, bl⟩ := HL3.out
          obtain ⟨r0, r1, f0, f1, rl⟩ := HR3.out
          go_wp2
          exact bodyPost_ret (v := .tuple #[.agg #[.slice none 0 0, .slice none 0 0], .int .i64 3]) (by simp [results, Try.results19, go_sem, *]) rfl ⟨by rw [HE.out], (g3.set _ (by simp) _).set _ (by simp) _⟩
def opR (A : List Acc) (s : ByteArray) (n : Int) (k : Nat) : List Acc := if k ≤ Led.pos (Led.nm A) s then A.take k else A.take (Led.pos (Led.nm A) s) ++ newA s n :: (A.drop (Led.pos (Led.nm A) s)).take (k - Led.pos (Led.nm A) s)
theorem opR_len (A : List Acc) (s : ByteArray) (n : Int) (k : Nat) (hk : k ≤ A.length) : (opR A s n k).length ≤ A.length + 1 := by
  have := Led.pos_le (Led.nm A) s
  rw [Led.nm_len] at this
  unfold opR
  split
  · rw [List.length_take]; omega
  · rw [List.length_append, List.length_cons, List.length_take, List.length_take, List.length_drop]; omega
theorem opR_low (A : List Acc) (s : ByteArray) (n : Int) (k : Nat) (hk : k < Led.pos (Led.nm A) s) (hl : k < A.length) : opR A s n (k + 1) = opR A s n k ++ [A[k]] := by
  unfold opR
  rw [if_pos (by omega), if_pos (by omega), List.take_succ_eq_append_getElem hl]
theorem opR_at (A : List Acc) (s : ByteArray) (n : Int) (k : Nat) (hk : k = Led.pos (Led.nm A) s) (hl : k < A.length) : opR A s n (k + 1) = opR A s n k ++ [newA s n] ++ [A[k]] := by
  unfold opR
  subst hk
  rw [if_neg (by omega), if_pos (Nat.le_refl _), show Led.pos (Led.nm A) s + 1 - Led.pos (Led.nm A) s = 1 by omega]
  have e : (A.drop (Led.pos (Led.nm A) s)).take 1 = [A[Led.pos (Led.nm A) s]] := by rw [List.drop_eq_getElem_cons hl]; rfl
  rw [e, List.append_assoc]; rfl
theorem opR_high (A : List Acc) (s : ByteArray) (n : Int) (k : Nat) (hk : Led.pos (Led.nm A) s < k) (hl : k < A.length) : opR A s n (k + 1) = opR A s n k ++ [A[k]] := by
  unfold opR
  rw [if_neg (by omega), if_neg (by omega), show k + 1 - Led.pos (Led.nm A) s = (k - Led.pos (Led.nm A) s) + 1 by omega, List.take_succ_eq_append_getElem (by rw [List.length_drop]; omega), List.getElem_drop]
  have e : Led.pos (Led.nm A) s + (k - Led.pos (Led.nm A) s) = k := by omega
  simp only [e]
  simp
theorem opR_end (A : List Acc) (s : ByteArray) (n : Int) : openA A s n = if A.length ≤ Led.pos (Led.nm A) s then opR A s n A.length ++ [newA s n] else opR A s n A.length := by
  unfold openA opR
  split
  · rename_i h
    have h2 := Led.pos_le (Led.nm A) s
    rw [Led.nm_len] at h2
    have e : Led.pos (Led.nm A) s = A.length := by omega
    rw [e, List.take_length, List.drop_length]
  · rename_i h
    rw [List.take_of_length_le (l := A.drop _) (by rw [List.length_drop]; omega)]
theorem accs_lit (w : World) (x : Acc) (t : TypeId) : ∀ j u, ([x].flatMap accC)[j]? = some u → (w.alloc (.cells #[.string x.s, .int .i64 x.a, .int .i64 x.b, .int .i64 x.c, .int .i64 x.x, .int .i64 x.y, .int .i64 x.z] t)).cell? ((⟨w.heap.size, 0, none⟩ : Addr).add j) = some u := by
  intro j u hu
  have hj : j < 7 := by
    have := (List.getElem?_eq_some_iff.1 hu).1
    simpa [accC] using this
  rw [Addr.add_lit]
  match j, hj with
  | 0, _ => simp [accC] at hu; subst hu; simp
  | 1, _ => simp [accC] at hu; subst hu; simp
  | 2, _ => simp [accC] at hu; subst hu; simp
  | 3, _ => simp [accC] at hu; subst hu; simp
  | 4, _ => simp [accC] at hu; subst hu; simp
  | 5, _ => simp [accC] at hu; subst hu; simp
  | 6, _ => simp [accC] at hu; subst hu; simp
theorem TwoAt.set0 {w : World} {g : Nat} {a b : Value} (h : TwoAt w g a b) (x : Value) : TwoAt (w.setCell ⟨g, 0, none⟩ x) g x b := by
  obtain ⟨h0, h1, f0, f1, hl⟩ := h
  exact ⟨by simp [go_sem, *], by simp [go_sem, *], by simp [go_sem, *], by simp [go_sem, *], by simpa using hl⟩
theorem TwoAt.set1 {w : World} {g : Nat} {a b : Value} (h : TwoAt w g a b) (x : Value) : TwoAt (w.setCell ⟨g, 1, none⟩ x) g a x := by
  obtain ⟨h0, h1, f0, f1, hl⟩ := h
  exact ⟨by simp [go_sem, *], by simp [go_sem, *], by simp [go_sem, *], by simp [go_sem, *], by simpa using hl⟩
theorem keep9 {a b : World} {q0 q1 q2 q3 q4 q5 q6 q7 q8 : Addr} {v0 v1 v2 v3 v4 v5 v6 v7 v8 : Value} (h : a.cell? q0 = some v0 ∧ a.cell? q1 = some v1 ∧ a.cell? q2 = some v2 ∧ a.cell? q3 = some v3 ∧ a.cell? q4 = some v4 ∧ a.cell? q5 = some v5 ∧ a.cell? q6 = some v6 ∧ a.cell? q7 = some v7 ∧ a.cell? q8 = some v8) (g : Gr a b) :
    b.cell? q0 = some v0 ∧ b.cell? q1 = some v1 ∧ b.cell? q2 = some v2 ∧ b.cell? q3 = some v3 ∧ b.cell? q4 = some v4 ∧ b.cell? q5 = some v5 ∧ b.cell? q6 = some v6 ∧ b.cell? q7 = some v7 ∧ b.cell? q8 = some v8 :=
  ⟨g.keep h.1, g.keep h.2.1, g.keep h.2.2.1, g.keep h.2.2.2.1, g.keep h.2.2.2.2.1, g.keep h.2.2.2.2.2.1, g.keep h.2.2.2.2.2.2.1, g.keep h.2.2.2.2.2.2.2.1, g.keep h.2.2.2.2.2.2.2.2⟩
theorem keep9g {a b : World} {q0 q1 q2 q3 q4 q5 q6 q7 q8 : Addr} {v0 v1 v2 v3 v4 v5 v6 v7 v8 : Value} (h : a.cell? q0 = some v0 ∧ a.cell? q1 = some v1 ∧ a.cell? q2 = some v2 ∧ a.cell? q3 = some v3 ∧ a.cell? q4 = some v4 ∧ a.cell? q5 = some v5 ∧ a.cell? q6 = some v6 ∧ a.cell? q7 = some v7 ∧ a.cell? q8 = some v8) {r : Option Nat} (g : a.grownBy b r) (n0 : some q0.block ≠ r) (n1 : some q1.block ≠ r) (n2 : some q2.block ≠ r) (n3 : some q3.block ≠ r) (n4 : some q4.block ≠ r) (n5 : some q5.block ≠ r) (n6 : some q6.block ≠ r) (n7 : some q7.block ≠ r) (n8 : some q8.block ≠ r) :
    b.cell? q0 = some v0 ∧ b.cell? q1 = some v1 ∧ b.cell? q2 = some v2 ∧ b.cell? q3 = some v3 ∧ b.cell? q4 = some v4 ∧ b.cell? q5 = some v5 ∧ b.cell? q6 = some v6 ∧ b.cell? q7 = some v7 ∧ b.cell? q8 = some v8 :=
  ⟨g.cell h.1 n0, g.cell h.2.1 n1, g.cell h.2.2.1 n2, g.cell h.2.2.2.1 n3, g.cell h.2.2.2.2.1 n4, g.cell h.2.2.2.2.2.1 n5, g.cell h.2.2.2.2.2.2.1 n6, g.cell h.2.2.2.2.2.2.2.1 n7, g.cell h.2.2.2.2.2.2.2.2 n8⟩
structure OoI (w : World) (Bo : Nat) (wr : World) (l0 l1 v u : Value) (R : List Acc) : Prop where
  lb : TwoAt wr w.heap.size l0 l1
  rs : TwoAt wr (w.heap.size + 1) (.slice none 0 0) (.slice none 0 0)
  ob : TwoAt wr Bo v u
  own : wr.ownsRow (Bo + 1) 31 7 v R.length (R.flatMap accC)
  g : Gr w wr
theorem OoI.gr {w : World} {Bo : Nat} {wr w' : World} {l0 l1 v u : Value} {R : List Acc} (h : OoI w Bo wr l0 l1 v u R) (k : Gr wr w') : OoI w Bo w' l0 l1 v u R :=
  ⟨h.lb.gr k, h.rs.gr k, h.ob.gr k, own_gr2 h.own k, h.g.trans k⟩
theorem OoI.app {w : World} {Bo : Nat} {wr w' : World} {l0 l1 v u v' : Value} {R : List Acc} {x : Acc} (h : OoI w Bo wr l0 l1 v u R) (hb : w.heap.size + 1 < Bo) (ho : w'.ownsRow (Bo + 1) 31 7 v' (R.length + 1) (R.flatMap accC ++ [x].flatMap accC)) (hg : wr.grownBy w' v.ownBlock) : OoI w Bo (w'.setCell ⟨Bo, 0, none⟩ v') l0 l1 v' u (R ++ [x]) := by
  have ne : ∀ i, i ≤ Bo → some i ≠ v.ownBlock := fun i hi e => by have := (h.own.lt _ e.symm).1; omega
  have ne2 : v'.ownBlock ≠ some Bo := fun e => by have := (ho.lt _ e).1; omega
  refine ⟨(h.lb.grown hg (ne _ (by omega))).far _ _ (by simp; omega), (h.rs.grown hg (ne _ (by omega))).far _ _ (by simp; omega), (h.ob.grown hg (ne _ (by omega))).set0 _, ?_, (h.g.grown hg (fun g e => by have := (h.own.lt g e).1; omega)).set _ (by simp; omega) _⟩
  rw [List.length_append, List.length_singleton, List.flatMap_append]
  exact own_far ho _ _ ne2
def OpnR (w : World) (X : List Acc) (v : Value) (e : Ending) (w' : World) : Prop := ∃ b1 d1, e = .returned (.tuple #[.agg #[.slice b1 X.length d1, v], .int .i64 0]) ∧ AccsAt w' b1 X ∧ Gr w w'
set_option maxHeartbeats 8000000 in
set_option maxRecDepth 100000 in
theorem refOpen_yes (A : List Acc) (M : List Mk) (s : ByteArray) (n : Int) (adA : Option Addr) (capA : Nat) (adM : Option Addr) (capM : Nat) (w : World) (h : LedAt w adA adM A M) (hs : s.size ≤ 9223372036854775807) (he : openE A M s n = 0) :
    Calls Try.prog 19 #[.agg #[.slice adA A.length capA, .slice adM M.length capM], .string s, .int .i64 n] w fun e w' => OpnR w (openA A s n) (.slice adM M.length capM) e w' := by
  obtain ⟨i0, hi, hz0, hz1, hz2⟩ := info_parts infoAcc
  obtain ⟨hm, hnm, hft, hh, hl12⟩ := open_parts he
  have hM := (Led.may_iff A M).1 hm
  have HM : Hid (∀ w', Gr w w' → Calls Try.prog 15 #[.agg #[.slice adA A.length capA, .slice adM M.length capM]] w' fun e w2 => e = .returned (.int .i64 0) ∧ Gr w' w2) := fun w' g => by have := refMay7_any A M adA capA adM capM w' (h.gr g); rw [mayL_yes hm] at this; exact this
  have HN : Hid (∀ w', Calls Try.prog 53 #[.string s] w' fun e w2 => e = .returned (.bool true) ∧ w2 = w') := fun w' => by have := refName_any s w' hs; rw [hnm] at this; exact this
  have HT : Hid (∀ w', Calls Try.prog 54 #[.int .i64 n] w' fun e w2 => e = .returned (.bool true) ∧ w2 = w') := fun w' => by have := refFits_any n w'; change Calls _ _ _ _ (fun e w2 => e = .returned (.bool (fitsB n)) ∧ w2 = w') at this; rw [hft] at this; exact this
  have HI : Hid (∀ w', Gr w w' → Calls Try.prog 32 #[.agg #[.slice adA A.length capA, .slice adM M.length capM], .string s] w' fun e w2 => e = .returned (.int .i64 (-1)) ∧ Gr w' w2) := fun w' g => by have := refAcc_any A M s adA capA adM capM w' (h.a.gr g) h.la; rw [first_neg hh] at this; exact this
  have HAA : Hid (AccsAt w adA A) := h.a
  have hAl : A.length ≤ 11 := by omega
  have hq : ((A.length : Int) == 12) = false := by rw [beq_eq_false_iff_ne]; omega
  have hns : s ∉ Led.nm A := fun hx => by rw [(Led.has_iff _ _).2 hx] at hh; cases hh
  have HLO : Hid (∀ k (hk : k < A.length), k < Led.pos (Led.nm A) s → Op.bytesLess A[k].s.toList s.toList = true ∧ opR A s n (k + 1) = opR A s n k ++ [A[k]]) := fun k hk hp => by
    have h1 := (Led.pos_iff (Led.nm A) s hM.ua k (by rw [Led.nm_len]; exact hk)).2 hp
    rw [Led.nm_get A k hk] at h1
    exact ⟨h1, opR_low A s n k hp hk⟩
  have HAT : Hid (∀ k (hk : k < A.length), k = Led.pos (Led.nm A) s → (Op.bytesLess A[k].s.toList s.toList = false ∧ (A[k].s.toList == s.toList) = false) ∧ opR A s n (k + 1) = opR A s n k ++ [newA s n] ++ [A[k]]) := fun k hk hp => by
    have h1 := Led.pos_gt hM.ua hns k (by rw [Led.nm_len]; exact hk) (by omega)
    rw [Led.nm_get A k hk] at h1
    exact ⟨⟨Led.lt_asymm h1, neB (Ne.symm (Led.lt_ne h1))⟩, opR_at A s n k hp hk⟩
  have HHI : Hid (∀ k (hk : k < A.length), Led.pos (Led.nm A) s < k → opR A s n (k + 1) = opR A s n k ++ [A[k]]) := fun k hk hp => opR_high A s n k hp hk
  have HEN : Hid (openA A s n = if A.length ≤ Led.pos (Led.nm A) s then opR A s n A.length ++ [newA s n] else opR A s n A.length) := opR_end A s n
  have HOL : Hid (∀ k, k ≤ A.length → (opR A s n k).length ≤ A.length + 1) := fun k hk => opR_len A s n k hk
  have HO0 : Hid (opR A s n 0 = []) := by show _ = _; unfold opR; rw [if_pos (by omega)]; rfl
  clear h he hm hnm hft hh hl12 hM hns
  generalize Led.pos (Led.nm A) s = p at *
  generalize openA A s n = OA at *
  generalize hRR : opR A s n = RR at *
  clear hRR
  go_enter Try.func19, Try.ntmps19
  go_wp2_with fail
  refine (HM.out _ ((Gr.refl _).alloc.alloc)).mono ?_
  rintro e w1 ⟨rfl, hg1⟩
  have HL1 : Hid (TwoAt w1 w.heap.size (.slice adA A.length capA) (.slice adM M.length capM)) := ((TwoAt.new w _ _ _ _ rfl).gr (Gr.refl _).alloc).gr hg1
  have HR1 : Hid (TwoAt w1 (w.heap.size + 1) (.slice none 0 0) (.slice none 0 0)) := (TwoAt.new _ _ _ _ (w.heap.size + 1) (by simp)).gr hg1
  have g1 : Gr w w1 := (by repeat (first | exact Gr.refl _ | refine Gr.alloc ?_ | refine Gr.drew ?_ | refine Gr.trans ?_ (by assumption)))
  clear hg1
  go_wp2_with fail
  refine (HN.out _).mono ?_
  rintro e w2 ⟨rfl, hw2⟩; obtain rfl := hw2.symm
  go_wp2_with fail
  refine (HT.out _).mono ?_
  rintro e w2 ⟨rfl, hw2⟩; obtain rfl := hw2.symm
  obtain ⟨b0, b1, _, _, bl⟩ := HL1.out
  go_wp2_with fail
  refine (HI.out _ g1).mono ?_
  rintro e w3 ⟨rfl, hg3⟩
  have HL3 : Hid (TwoAt w3 w.heap.size (.slice adA A.length capA) (.slice adM M.length capM)) := HL1.out.gr hg3
  have HR3 : Hid (TwoAt w3 (w.heap.size + 1) (.slice none 0 0) (.slice none 0 0)) := HR1.out.gr hg3
  have g3 : Gr w w3 := g1.trans hg3
  clear hg3 b0 b1 bl HL1 HR1 g1
  obtain ⟨b0, b1, _, _, bl⟩ := HL3.out
  have HI3 : Hid (OoI w w3.heap.size (w3.alloc (.cells #[.slice none 0 0, .slice adM M.length capM] 25)) (.slice adA A.length capA) (.slice adM M.length capM) (.slice none 0 0) (.slice adM M.length capM) []) :=
    ⟨HL3.out.gr (Gr.refl _).alloc, HR3.out.gr (Gr.refl _).alloc, TwoAt.new w3 _ _ _ _ rfl, World.ownsRow_nil _ _ _ _, g3.alloc⟩
  have hB3 : w.heap.size + 1 < w3.heap.size := HR3.out.lt
  go_wp2
  obtain ⟨Bo, hBo⟩ : ∃ x, w3.heap.size = x := ⟨_, rfl⟩
  rw [hBo] at HI3 hB3 ⊢
  clear hBo
  go_loopw [9, 10] (fun dn ix wr => ∃ (k : Nat) (v : Value), k ≤ A.length ∧ ix = .int .i64 (k : Int) ∧ dn = .bool (decide (p < k)) ∧ OoI w Bo wr (.slice adA A.length capA) (.slice adM M.length capM) v (.slice adM M.length capM) (RR k)) (fun _ ix _ => A.length - (intOf ix).toNat)
  case atStart => exact ⟨0, .slice none 0 0, by omega, rfl, by simp, by rw [HO0.out]; exact HI3.out⟩
  case round =>
    obtain ⟨k, v, hk, rfl, rfl, hI⟩ := hrel
    have HIr : Hid (OoI w Bo wr (.slice adA A.length capA) (.slice adM M.length capM) v (.slice adM M.length capM) (RR k)) := hI
    clear hI HI3 HL3 HR3 g3 b0 b1 bl
    have hRl := HOL.out k hk
    by_cases hlt : k < A.length
    · skip
      obtain ⟨ba, oa, rfl, hba0, _⟩ := AccsAt.at HAA.out k hlt
      obtain ⟨av, cv, hv⟩ := own_slice HIr.out.own
      subst hv
      obtain ⟨l0, l1, _, _, ll⟩ := HIr.out.lb
      obtain ⟨o0, o1, of0, of1, ol⟩ := HIr.out.ob
      obtain ⟨_, _, ee, hba, e0, _⟩ := AccsAt.at (RowAt.gr HAA.out HIr.out.g) k hlt
      cases ee
      by_cases hp : k < p
      · obtain ⟨hgt, hst⟩ := HLO.out k hlt hp
        have HST : Hid (RR (k + 1) = RR k ++ [A[k]]) := hst
        have hd : decide (p < k) = false := decide_eq_false (by omega)
        rw [hd]
        clear hst hd
        go_upto_region 15 with fail
        clear l0 l1 o0 o1 of0 of1 e0 hgt
        obtain ⟨l0, l1, _, _, ll⟩ := HIr.out.lb
        obtain ⟨o0, o1, of0, of1, ol⟩ := HIr.out.ob
        obtain ⟨_, _, ee, hba, e0, e1, e2, e3, e4, e5, e6⟩ := AccsAt.at (RowAt.gr HAA.out HIr.out.g) k hlt
        cases ee
        have hk9 : wr.drew.cell? ⟨Bo, 0, none⟩ = some (.slice av (RR k).length cv) ∧ wr.drew.cell? ⟨w.heap.size, 0, none⟩ = some (.slice (some ⟨ba, oa, none⟩) A.length capA) ∧ wr.drew.cell? ⟨ba, oa + k * 7, none⟩ = some (.string A[k].s) ∧ wr.drew.cell? ⟨ba, oa + k * 7 + 1, none⟩ = some (.int .i64 A[k].a) ∧ wr.drew.cell? ⟨ba, oa + k * 7 + 2, none⟩ = some (.int .i64 A[k].b) ∧ wr.drew.cell? ⟨ba, oa + k * 7 + 3, none⟩ = some (.int .i64 A[k].c) ∧ wr.drew.cell? ⟨ba, oa + k * 7 + 4, none⟩ = some (.int .i64 A[k].x) ∧ wr.drew.cell? ⟨ba, oa + k * 7 + 5, none⟩ = some (.int .i64 A[k].y) ∧ wr.drew.cell? ⟨ba, oa + k * 7 + 6, none⟩ = some (.int .i64 A[k].z) := ⟨o0, l0, e0, e1, e2, e3, e4, e5, e6⟩
        clear o0 o1 of0 of1 l0 l1 e0 e1 e2 e3 e4 e5 e6
        refine beginL 10 (fun w' => w'.cell? ⟨Bo, 0, none⟩ = some (.slice av (RR k).length cv) ∧ w'.cell? ⟨w.heap.size, 0, none⟩ = some (.slice (some ⟨ba, oa, none⟩) A.length capA) ∧ w'.cell? ⟨ba, oa + k * 7, none⟩ = some (.string A[k].s) ∧ w'.cell? ⟨ba, oa + k * 7 + 1, none⟩ = some (.int .i64 A[k].a) ∧ w'.cell? ⟨ba, oa + k * 7 + 2, none⟩ = some (.int .i64 A[k].b) ∧ w'.cell? ⟨ba, oa + k * 7 + 3, none⟩ = some (.int .i64 A[k].c) ∧ w'.cell? ⟨ba, oa + k * 7 + 4, none⟩ = some (.int .i64 A[k].x) ∧ w'.cell? ⟨ba, oa + k * 7 + 5, none⟩ = some (.int .i64 A[k].y) ∧ w'.cell? ⟨ba, oa + k * 7 + 6, none⟩ = some (.int .i64 A[k].z)) (by kernel_rfl) (by first | with_reducible exact hk9 | with_reducible exact keep9 hk9 (Gr.refl _).alloc) (fun hHeld => ?_)
        obtain ⟨W, hW⟩ : ∃ W, W = wr.drew := ⟨_, rfl⟩
        rw [← hW] at hk9 hHeld ⊢
        have gW : Gr wr W := by rw [hW]; exact (Gr.refl _).drew
        clear hW
        refine takeW 0 66 (v := ?_) rfl rfl (by decide) (by kernel_rfl) (by kernel_rfl) (by kernel_rfl) (fun _ _ _ h => h) (by rfl) ?_ (fun _ => hHeld) ?_
        rotate_left
        · (intro w; (try intro hSw); (try dsimp only at hSw); go_simp; try with_reducible rfl)
        simp only [Act.put, List.setIfInBounds_toArray, List.set_cons_zero, List.set_cons_succ]
        refine takeS 1 67 (v := ?_) rfl rfl (by decide) (by kernel_rfl) (by kernel_rfl) (by kernel_rfl) (by kernel_rfl) (by kernel_rfl) (fun _ _ _ h => h) (by rfl) ?_ hHeld ?_
        rotate_left
        · (intro w; (try intro hSw); (try dsimp only at hSw); go_simp; try with_reducible rfl)
        simp only [Act.put, List.setIfInBounds_toArray, List.set_cons_zero, List.set_cons_succ]
        refine takeW 2 68 (v := ?_) rfl rfl (by decide) (by kernel_rfl) (by kernel_rfl) (by kernel_rfl) (fun _ _ _ h => h) (by rfl) ?_ (fun _ => hHeld) ?_
        rotate_left
        · (intro w; (try intro hSw); (try dsimp only at hSw); go_simp; try with_reducible rfl)
        simp only [Act.put, List.setIfInBounds_toArray, List.set_cons_zero, List.set_cons_succ]
        refine takeS 3 69 (v := ?_) rfl rfl (by decide) (by kernel_rfl) (by kernel_rfl) (by kernel_rfl) (by kernel_rfl) (by kernel_rfl) (fun _ _ _ h => h) (by rfl) ?_ hHeld ?_
        rotate_left
        · (intro w; (try intro hSw); (try dsimp only at hSw); go_simp; try with_reducible rfl)
        simp only [Act.put, List.setIfInBounds_toArray, List.set_cons_zero, List.set_cons_succ]
        refine takeW 4 70 (v := ?_) rfl rfl (by decide) (by kernel_rfl) (by kernel_rfl) (by kernel_rfl) (fun _ _ _ h => h) (by rfl) ?_ (fun _ => hHeld) ?_
        rotate_left
        · (intro w; (try intro hSw); (try dsimp only at hSw); go_simp; try with_reducible rfl)
        simp only [Act.put, List.setIfInBounds_toArray, List.set_cons_zero, List.set_cons_succ]
        refine takeW 5 71 (v := ?_) rfl rfl (by decide) (by kernel_rfl) (by kernel_rfl) (by kernel_rfl) (fun _ _ _ h => h) (by rfl) ?_ (fun _ => hHeld) ?_
        rotate_left
        · (intro w; (try intro hSw); (try dsimp only at hSw); go_simp; try with_reducible rfl)
        simp only [Act.put, List.setIfInBounds_toArray, List.set_cons_zero, List.set_cons_succ]
        refine takeS 6 72 (v := ?_) rfl rfl (by decide) (by kernel_rfl) (by kernel_rfl) (by kernel_rfl) (by kernel_rfl) (by kernel_rfl) (fun _ _ _ h => h) (by rfl) ?_ hHeld ?_
        rotate_left
        · (intro w; (try intro hSw); (try dsimp only at hSw); go_simp; try with_reducible rfl)
        simp only [Act.put, List.setIfInBounds_toArray, List.set_cons_zero, List.set_cons_succ]
        refine stepC 7 (by kernel_rfl) rfl (fun K hK => ?_)
        go_simp
        refine hK.out _ _ (by first | with_reducible exact hk9 | with_reducible exact keep9 hk9 (Gr.refl _).alloc) (fun hHeldN => ?_)
        clear hHeld hK K
        have hHeld := hHeldN
        clear hHeldN
        have HI6 : Hid (OoI w Bo (W.alloc (.cells #[.string A[k].s, .int .i64 A[k].a, .int .i64 A[k].b, .int .i64 A[k].c, .int .i64 A[k].x, .int .i64 A[k].y, .int .i64 A[k].z] 31)) (.slice (some ⟨ba, oa, none⟩) A.length capA) (.slice adM M.length capM) (.slice av (RR k).length cv) (.slice adM M.length capM) (RR k)) := HIr.out.gr gW.alloc
        have HN6 : Hid (∀ j u, ([A[k]].flatMap accC)[j]? = some u → (W.alloc (.cells #[.string A[k].s, .int .i64 A[k].a, .int .i64 A[k].b, .int .i64 A[k].c, .int .i64 A[k].x, .int .i64 A[k].y, .int .i64 A[k].z] 31)).cell? ((⟨W.heap.size, 0, none⟩ : Addr).add j) = some u) := accs_lit W A[k] 31
        have hwz : Bo + 1 ≤ (W.alloc (.cells #[.string A[k].s, .int .i64 A[k].a, .int .i64 A[k].b, .int .i64 A[k].c, .int .i64 A[k].x, .int .i64 A[k].y, .int .i64 A[k].z] 31)).heap.size := by have := HI6.out.ob.lt; omega
        have nbl : ∀ i, i ≤ Bo → some i ≠ (Value.slice av (RR k).length cv).ownBlock := fun i hi e => by have := (HI6.out.own.lt _ e.symm).1; omega
        refine stepC 8 (by kernel_rfl) rfl (fun K hK => ?_)
        (refine step_append_own (by rfl) _ _ 22 (by rfl) (Bo + 1) 31 i0 (.agg #[.string ⟨#[]⟩, .int .i64 0, .int .i64 0, .int .i64 0, .int .i64 0, .int .i64 0, .int .i64 0]) 7 64 Try.underlying22 hi hz0 hz1 hz2 rfl (by decide) _ _ _ (by rfl) HI6.out.own ⟨W.heap.size, 0, none⟩ 1 1 ([A[k]].flatMap accC) (by rfl) (by rfl) HN6.out (acc_one _) (by unfold maxLen; omega) (by omega) hwz ?_; intro v6 w6 ho6 hgr6 hn6; replace hk9 := keep9g (keep9 hk9 (Gr.refl W).alloc) hgr6 (nbl _ (by simp)) (nbl _ (by simp; omega)) (nbl _ (by simp; omega)) (nbl _ (by simp; omega)) (nbl _ (by simp; omega)) (nbl _ (by simp; omega)) (nbl _ (by simp; omega)) (nbl _ (by simp; omega)) (nbl _ (by simp; omega)))
        refine hK.out (Act.put _ (some 74) v6) _ (by first | with_reducible exact hk9 | with_reducible exact keep9 hk9 (Gr.refl _).alloc) (fun hHeldN => ?_)
        clear hHeld hK K
        have hHeld := hHeldN
        clear hHeldN
        simp only [Act.put, List.setIfInBounds_toArray, List.set_cons_zero, List.set_cons_succ]
        obtain ⟨a6, c6, rfl⟩ := own_slice ho6
        have HI7 : Hid (OoI w Bo (w6.setCell ⟨Bo, 0, none⟩ (.slice a6 ((RR k).length + 1) c6)) (.slice (some ⟨ba, oa, none⟩) A.length capA) (.slice adM M.length capM) (.slice a6 ((RR k).length + 1) c6) (.slice adM M.length capM) ((RR k) ++ [A[k]])) := HI6.out.app hB3 ho6 hgr6
        obtain ⟨o0, o1, of0, of1, ol⟩ := HI6.out.ob.grown hgr6 (nbl _ (by omega))
        clear ho6 hgr6 hn6 HI6 HN6 hwz gW nbl
        refine takeW 9 75 (v := ?_) rfl rfl (by decide) (by kernel_rfl) (by kernel_rfl) (by kernel_rfl) (fun _ _ _ h => h) (by rfl) ?_ (fun _ => hHeld) ?_
        rotate_left
        · (intro w; (try intro hSw); (try dsimp only at hSw); go_simp; try with_reducible rfl)
        simp only [Act.put, List.setIfInBounds_toArray, List.set_cons_zero, List.set_cons_succ]
        refine stepS (by kernel_rfl) rfl (by kernel_rfl) (fun K hK => ?_)
        go_simp
        refine hK.out _ _ ?_
        clear hHeld hK K
        refine doneL (by kernel_rfl) ?_ _
        clear hk9 o0 o1 of0 of1 ol
        go_wp2
        go_roundw
        case rel => exact ⟨k + 1, _, by omega, by go_num, by simp; omega, by rw [HST.out]; exact HI7.out⟩
        case measure => simp [intOf]; omega
      by_cases hp2 : k = p
      · obtain ⟨⟨hgt, hgt2⟩, hst⟩ := HAT.out k hlt hp2
        have HST : Hid (RR (k + 1) = RR k ++ [newA s n] ++ [A[k]]) := hst
        have hd : decide (p < k) = false := decide_eq_false (by omega)
        have hpk : p < k + 1 := by omega
        rw [hd]
        clear hst hd hp2 hp
        have HN4 : Hid (∀ j u, ([newA s n].flatMap accC)[j]? = some u → (wr.alloc (.cells #[.string s, .int .i64 n, .int .i64 0, .int .i64 0, .int .i64 0, .int .i64 0, .int .i64 0] 31)).cell? ((⟨wr.heap.size, 0, none⟩ : Addr).add j) = some u) := accs_lit wr (newA s n) 31
        have HI4 : Hid (OoI w Bo (wr.alloc (.cells #[.string s, .int .i64 n, .int .i64 0, .int .i64 0, .int .i64 0, .int .i64 0, .int .i64 0] 31)) (.slice (some ⟨ba, oa, none⟩) A.length capA) (.slice adM M.length capM) (.slice av (RR k).length cv) (.slice adM M.length capM) (RR k)) := HIr.out.gr (Gr.refl _).alloc
        have hwz : Bo + 1 ≤ (wr.alloc (.cells #[.string s, .int .i64 n, .int .i64 0, .int .i64 0, .int .i64 0, .int .i64 0, .int .i64 0] 31)).heap.size := by have := HI4.out.ob.lt; omega
        go_wp2_with (first
          | (at_builtin; refine wpList_append_own _ rfl _ _ 22 rfl (Bo + 1) 31 i0 (.agg #[.string ⟨#[]⟩, .int .i64 0, .int .i64 0, .int .i64 0, .int .i64 0, .int .i64 0, .int .i64 0]) 7 64 Try.underlying22 hi hz0 hz1 hz2 rfl (by decide) _ _ _ rfl HI4.out.own ⟨wr.heap.size, 0, none⟩ 1 1 ([newA s n].flatMap accC) rfl rfl HN4.out (acc_one _) (by unfold maxLen; omega) (by omega) hwz ?_)
          | fail)
        intro v5 w5 ho5 hgr5 _
        obtain ⟨a5, c5, rfl⟩ := own_slice ho5
        have HI5a : Hid (OoI w Bo (w5.setCell ⟨Bo, 0, none⟩ (.slice a5 ((RR k).length + 1) c5)) (.slice (some ⟨ba, oa, none⟩) A.length capA) (.slice adM M.length capM) (.slice a5 ((RR k).length + 1) c5) (.slice adM M.length capM) (RR k ++ [newA s n])) := HI4.out.app hB3 ho5 hgr5
        obtain ⟨o0, o1, of0, of1, ol⟩ := HI4.out.ob.grown hgr5 (fun e => by have := (HI4.out.own.lt _ e.symm).1; omega)
        obtain ⟨l0, l1, _, _, ll⟩ := HI4.out.lb.grown hgr5 (fun e => by have := (HI4.out.own.lt _ e.symm).1; omega)
        clear ho5 hgr5 HI4 HN4 hwz e0 hgt hgt2
        go_upto_region 15 with fail
        obtain ⟨wx, hwx⟩ : ∃ x, x = w5.setCell ⟨Bo, 0, none⟩ (.slice a5 ((RR k).length + 1) c5) := ⟨_, rfl⟩
        rw [← hwx] at HI5a ⊢
        clear hwx o0 o1 of0 of1 ol l0 l1 ll
        obtain ⟨R2, hR2⟩ : ∃ R, RR k ++ [newA s n] = R := ⟨_, rfl⟩
        have hln : (RR k).length + 1 = R2.length := by rw [← hR2]; simp
        rw [hln] at HI5a ⊢
        rw [hR2] at HI5a HST
        have hRl : R2.length ≤ A.length + 1 + 1 := by omega
        clear hln hR2
        obtain ⟨l0, l1, _, _, ll⟩ := HI5a.out.lb
        obtain ⟨o0, o1, of0, of1, ol⟩ := HI5a.out.ob
        obtain ⟨_, _, ee, hba, e0, e1, e2, e3, e4, e5, e6⟩ := AccsAt.at (RowAt.gr HAA.out HI5a.out.g) k hlt
        cases ee
        have hk9 : wx.drew.cell? ⟨Bo, 0, none⟩ = some (.slice a5 (R2).length c5) ∧ wx.drew.cell? ⟨w.heap.size, 0, none⟩ = some (.slice (some ⟨ba, oa, none⟩) A.length capA) ∧ wx.drew.cell? ⟨ba, oa + k * 7, none⟩ = some (.string A[k].s) ∧ wx.drew.cell? ⟨ba, oa + k * 7 + 1, none⟩ = some (.int .i64 A[k].a) ∧ wx.drew.cell? ⟨ba, oa + k * 7 + 2, none⟩ = some (.int .i64 A[k].b) ∧ wx.drew.cell? ⟨ba, oa + k * 7 + 3, none⟩ = some (.int .i64 A[k].c) ∧ wx.drew.cell? ⟨ba, oa + k * 7 + 4, none⟩ = some (.int .i64 A[k].x) ∧ wx.drew.cell? ⟨ba, oa + k * 7 + 5, none⟩ = some (.int .i64 A[k].y) ∧ wx.drew.cell? ⟨ba, oa + k * 7 + 6, none⟩ = some (.int .i64 A[k].z) := ⟨o0, l0, e0, e1, e2, e3, e4, e5, e6⟩
        clear o0 o1 of0 of1 l0 l1 e0 e1 e2 e3 e4 e5 e6
        refine beginL 10 (fun w' => w'.cell? ⟨Bo, 0, none⟩ = some (.slice a5 (R2).length c5) ∧ w'.cell? ⟨w.heap.size, 0, none⟩ = some (.slice (some ⟨ba, oa, none⟩) A.length capA) ∧ w'.cell? ⟨ba, oa + k * 7, none⟩ = some (.string A[k].s) ∧ w'.cell? ⟨ba, oa + k * 7 + 1, none⟩ = some (.int .i64 A[k].a) ∧ w'.cell? ⟨ba, oa + k * 7 + 2, none⟩ = some (.int .i64 A[k].b) ∧ w'.cell? ⟨ba, oa + k * 7 + 3, none⟩ = some (.int .i64 A[k].c) ∧ w'.cell? ⟨ba, oa + k * 7 + 4, none⟩ = some (.int .i64 A[k].x) ∧ w'.cell? ⟨ba, oa + k * 7 + 5, none⟩ = some (.int .i64 A[k].y) ∧ w'.cell? ⟨ba, oa + k * 7 + 6, none⟩ = some (.int .i64 A[k].z)) (by kernel_rfl) (by first | with_reducible exact hk9 | with_reducible exact keep9 hk9 (Gr.refl _).alloc) (fun hHeld => ?_)
        obtain ⟨W, hW⟩ : ∃ W, W = wx.drew := ⟨_, rfl⟩
        rw [← hW] at hk9 hHeld ⊢
        have gW : Gr wx W := by rw [hW]; exact (Gr.refl _).drew
        clear hW
        refine takeW 0 66 (v := ?_) rfl rfl (by decide) (by kernel_rfl) (by kernel_rfl) (by kernel_rfl) (fun _ _ _ h => h) (by rfl) ?_ (fun _ => hHeld) ?_
        rotate_left
        · (intro w; (try intro hSw); (try dsimp only at hSw); go_simp; try with_reducible rfl)
        simp only [Act.put, List.setIfInBounds_toArray, List.set_cons_zero, List.set_cons_succ]
        refine takeS 1 67 (v := ?_) rfl rfl (by decide) (by kernel_rfl) (by kernel_rfl) (by kernel_rfl) (by kernel_rfl) (by kernel_rfl) (fun _ _ _ h => h) (by rfl) ?_ hHeld ?_
        rotate_left
        · (intro w; (try intro hSw); (try dsimp only at hSw); go_simp; try with_reducible rfl)
        simp only [Act.put, List.setIfInBounds_toArray, List.set_cons_zero, List.set_cons_succ]
        refine takeW 2 68 (v := ?_) rfl rfl (by decide) (by kernel_rfl) (by kernel_rfl) (by kernel_rfl) (fun _ _ _ h => h) (by rfl) ?_ (fun _ => hHeld) ?_
        rotate_left
        · (intro w; (try intro hSw); (try dsimp only at hSw); go_simp; try with_reducible rfl)
        simp only [Act.put, List.setIfInBounds_toArray, List.set_cons_zero, List.set_cons_succ]
        refine takeS 3 69 (v := ?_) rfl rfl (by decide) (by kernel_rfl) (by kernel_rfl) (by kernel_rfl) (by kernel_rfl) (by kernel_rfl) (fun _ _ _ h => h) (by rfl) ?_ hHeld ?_
        rotate_left
        · (intro w; (try intro hSw); (try dsimp only at hSw); go_simp; try with_reducible rfl)
        simp only [Act.put, List.setIfInBounds_toArray, List.set_cons_zero, List.set_cons_succ]
        refine takeW 4 70 (v := ?_) rfl rfl (by decide) (by kernel_rfl) (by kernel_rfl) (by kernel_rfl) (fun _ _ _ h => h) (by rfl) ?_ (fun _ => hHeld) ?_
        rotate_left
        · (intro w; (try intro hSw); (try dsimp only at hSw); go_simp; try with_reducible rfl)
        simp only [Act.put, List.setIfInBounds_toArray, List.set_cons_zero, List.set_cons_succ]
        refine takeW 5 71 (v := ?_) rfl rfl (by decide) (by kernel_rfl) (by kernel_rfl) (by kernel_rfl) (fun _ _ _ h => h) (by rfl) ?_ (fun _ => hHeld) ?_
        rotate_left
        · (intro w; (try intro hSw); (try dsimp only at hSw); go_simp; try with_reducible rfl)
        simp only [Act.put, List.setIfInBounds_toArray, List.set_cons_zero, List.set_cons_succ]
        refine takeS 6 72 (v := ?_) rfl rfl (by decide) (by kernel_rfl) (by kernel_rfl) (by kernel_rfl) (by kernel_rfl) (by kernel_rfl) (fun _ _ _ h => h) (by rfl) ?_ hHeld ?_
        rotate_left
        · (intro w; (try intro hSw); (try dsimp only at hSw); go_simp; try with_reducible rfl)
        simp only [Act.put, List.setIfInBounds_toArray, List.set_cons_zero, List.set_cons_succ]
        refine stepC 7 (by kernel_rfl) rfl (fun K hK => ?_)
        go_simp
        refine hK.out _ _ (by first | with_reducible exact hk9 | with_reducible exact keep9 hk9 (Gr.refl _).alloc) (fun hHeldN => ?_)
        clear hHeld hK K
        have hHeld := hHeldN
        clear hHeldN
        have HI6 : Hid (OoI w Bo (W.alloc (.cells #[.string A[k].s, .int .i64 A[k].a, .int .i64 A[k].b, .int .i64 A[k].c, .int .i64 A[k].x, .int .i64 A[k].y, .int .i64 A[k].z] 31)) (.slice (some ⟨ba, oa, none⟩) A.length capA) (.slice adM M.length capM) (.slice a5 (R2).length c5) (.slice adM M.length capM) (R2)) := HI5a.out.gr gW.alloc
        have HN6 : Hid (∀ j u, ([A[k]].flatMap accC)[j]? = some u → (W.alloc (.cells #[.string A[k].s, .int .i64 A[k].a, .int .i64 A[k].b, .int .i64 A[k].c, .int .i64 A[k].x, .int .i64 A[k].y, .int .i64 A[k].z] 31)).cell? ((⟨W.heap.size, 0, none⟩ : Addr).add j) = some u) := accs_lit W A[k] 31
        have hwz : Bo + 1 ≤ (W.alloc (.cells #[.string A[k].s, .int .i64 A[k].a, .int .i64 A[k].b, .int .i64 A[k].c, .int .i64 A[k].x, .int .i64 A[k].y, .int .i64 A[k].z] 31)).heap.size := by have := HI6.out.ob.lt; omega
        have nbl : ∀ i, i ≤ Bo → some i ≠ (Value.slice a5 (R2).length c5).ownBlock := fun i hi e => by have := (HI6.out.own.lt _ e.symm).1; omega
        refine stepC 8 (by kernel_rfl) rfl (fun K hK => ?_)
        (refine step_append_own (by rfl) _ _ 22 (by rfl) (Bo + 1) 31 i0 (.agg #[.string ⟨#[]⟩, .int .i64 0, .int .i64 0, .int .i64 0, .int .i64 0, .int .i64 0, .int .i64 0]) 7 64 Try.underlying22 hi hz0 hz1 hz2 rfl (by decide) _ _ _ (by rfl) HI6.out.own ⟨W.heap.size, 0, none⟩ 1 1 ([A[k]].flatMap accC) (by rfl) (by rfl) HN6.out (acc_one _) (by unfold maxLen; omega) (by omega) hwz ?_; intro v6 w6 ho6 hgr6 hn6; replace hk9 := keep9g (keep9 hk9 (Gr.refl W).alloc) hgr6 (nbl _ (by simp)) (nbl _ (by simp; omega)) (nbl _ (by simp; omega)) (nbl _ (by simp; omega)) (nbl _ (by simp; omega)) (nbl _ (by simp; omega)) (nbl _ (by simp; omega)) (nbl _ (by simp; omega)) (nbl _ (by simp; omega)))
        refine hK.out (Act.put _ (some 74) v6) _ (by first | with_reducible exact hk9 | with_reducible exact keep9 hk9 (Gr.refl _).alloc) (fun hHeldN => ?_)
        clear hHeld hK K
        have hHeld := hHeldN
        clear hHeldN
        simp only [Act.put, List.setIfInBounds_toArray, List.set_cons_zero, List.set_cons_succ]
        obtain ⟨a6, c6, rfl⟩ := own_slice ho6
        have HI7 : Hid (OoI w Bo (w6.setCell ⟨Bo, 0, none⟩ (.slice a6 ((R2).length + 1) c6)) (.slice (some ⟨ba, oa, none⟩) A.length capA) (.slice adM M.length capM) (.slice a6 ((R2).length + 1) c6) (.slice adM M.length capM) ((R2) ++ [A[k]])) := HI6.out.app hB3 ho6 hgr6
        obtain ⟨o0, o1, of0, of1, ol⟩ := HI6.out.ob.grown hgr6 (nbl _ (by omega))
        clear ho6 hgr6 hn6 HI6 HN6 hwz gW nbl
        refine takeW 9 75 (v := ?_) rfl rfl (by decide) (by kernel_rfl) (by kernel_rfl) (by kernel_rfl) (fun _ _ _ h => h) (by rfl) ?_ (fun _ => hHeld) ?_
        rotate_left
        · (intro w; (try intro hSw); (try dsimp only at hSw); go_simp; try with_reducible rfl)
        simp only [Act.put, List.setIfInBounds_toArray, List.set_cons_zero, List.set_cons_succ]
        refine stepS (by kernel_rfl) rfl (by kernel_rfl) (fun K hK => ?_)
        go_simp
        refine hK.out _ _ ?_
        clear hHeld hK K
        refine doneL (by kernel_rfl) ?_ _
        clear hk9 o0 o1 of0 of1 ol
        go_wp2
        go_roundw
        case rel => exact ⟨k + 1, _, by omega, by go_num, by simp; omega, by rw [HST.out]; exact HI7.out⟩
        case measure => simp [intOf]; omega
      · have hst := HHI.out k hlt (by omega)
        have HST : Hid (RR (k + 1) = RR k ++ [A[k]]) := hst
        have hd : decide (p < k) = true := decide_eq_true (by omega)
        rw [hd]
        clear hst hd
        go_upto_region 15 with fail
        clear l0 l1 o0 o1 of0 of1 e0
        obtain ⟨l0, l1, _, _, ll⟩ := HIr.out.lb
        obtain ⟨o0, o1, of0, of1, ol⟩ := HIr.out.ob
        obtain ⟨_, _, ee, hba, e0, e1, e2, e3, e4, e5, e6⟩ := AccsAt.at (RowAt.gr HAA.out HIr.out.g) k hlt
        cases ee
        have hk9 : wr.drew.cell? ⟨Bo, 0, none⟩ = some (.slice av (RR k).length cv) ∧ wr.drew.cell? ⟨w.heap.size, 0, none⟩ = some (.slice (some ⟨ba, oa, none⟩) A.length capA) ∧ wr.drew.cell? ⟨ba, oa + k * 7, none⟩ = some (.string A[k].s) ∧ wr.drew.cell? ⟨ba, oa + k * 7 + 1, none⟩ = some (.int .i64 A[k].a) ∧ wr.drew.cell? ⟨ba, oa + k * 7 + 2, none⟩ = some (.int .i64 A[k].b) ∧ wr.drew.cell? ⟨ba, oa + k * 7 + 3, none⟩ = some (.int .i64 A[k].c) ∧ wr.drew.cell? ⟨ba, oa + k * 7 + 4, none⟩ = some (.int .i64 A[k].x) ∧ wr.drew.cell? ⟨ba, oa + k * 7 + 5, none⟩ = some (.int .i64 A[k].y) ∧ wr.drew.cell? ⟨ba, oa + k * 7 + 6, none⟩ = some (.int .i64 A[k].z) := ⟨o0, l0, e0, e1, e2, e3, e4, e5, e6⟩
        clear o0 o1 of0 of1 l0 l1 e0 e1 e2 e3 e4 e5 e6
        refine beginL 10 (fun w' => w'.cell? ⟨Bo, 0, none⟩ = some (.slice av (RR k).length cv) ∧ w'.cell? ⟨w.heap.size, 0, none⟩ = some (.slice (some ⟨ba, oa, none⟩) A.length capA) ∧ w'.cell? ⟨ba, oa + k * 7, none⟩ = some (.string A[k].s) ∧ w'.cell? ⟨ba, oa + k * 7 + 1, none⟩ = some (.int .i64 A[k].a) ∧ w'.cell? ⟨ba, oa + k * 7 + 2, none⟩ = some (.int .i64 A[k].b) ∧ w'.cell? ⟨ba, oa + k * 7 + 3, none⟩ = some (.int .i64 A[k].c) ∧ w'.cell? ⟨ba, oa + k * 7 + 4, none⟩ = some (.int .i64 A[k].x) ∧ w'.cell? ⟨ba, oa + k * 7 + 5, none⟩ = some (.int .i64 A[k].y) ∧ w'.cell? ⟨ba, oa + k * 7 + 6, none⟩ = some (.int .i64 A[k].z)) (by kernel_rfl) (by first | with_reducible exact hk9 | with_reducible exact keep9 hk9 (Gr.refl _).alloc) (fun hHeld => ?_)
        obtain ⟨W, hW⟩ : ∃ W, W = wr.drew := ⟨_, rfl⟩
        rw [← hW] at hk9 hHeld ⊢
        have gW : Gr wr W := by rw [hW]; exact (Gr.refl _).drew
        clear hW
        refine takeW 0 66 (v := ?_) rfl rfl (by decide) (by kernel_rfl) (by kernel_rfl) (by kernel_rfl) (fun _ _ _ h => h) (by rfl) ?_ (fun _ => hHeld) ?_
        rotate_left
        · (intro w; (try intro hSw); (try dsimp only at hSw); go_simp; try with_reducible rfl)
        simp only [Act.put, List.setIfInBounds_toArray, List.set_cons_zero, List.set_cons_succ]
        refine takeS 1 67 (v := ?_) rfl rfl (by decide) (by kernel_rfl) (by kernel_rfl) (by kernel_rfl) (by kernel_rfl) (by kernel_rfl) (fun _ _ _ h => h) (by rfl) ?_ hHeld ?_
        rotate_left
        · (intro w; (try intro hSw); (try dsimp only at hSw); go_simp; try with_reducible rfl)
        simp only [Act.put, List.setIfInBounds_toArray, List.set_cons_zero, List.set_cons_succ]
        refine takeW 2 68 (v := ?_) rfl rfl (by decide) (by kernel_rfl) (by kernel_rfl) (by kernel_rfl) (fun _ _ _ h => h) (by rfl) ?_ (fun _ => hHeld) ?_
        rotate_left
        · (intro w; (try intro hSw); (try dsimp only at hSw); go_simp; try with_reducible rfl)
        simp only [Act.put, List.setIfInBounds_toArray, List.set_cons_zero, List.set_cons_succ]
        refine takeS 3 69 (v := ?_) rfl rfl (by decide) (by kernel_rfl) (by kernel_rfl) (by kernel_rfl) (by kernel_rfl) (by kernel_rfl) (fun _ _ _ h => h) (by rfl) ?_ hHeld ?_
        rotate_left
        · (intro w; (try intro hSw); (try dsimp only at hSw); go_simp; try with_reducible rfl)
        simp only [Act.put, List.setIfInBounds_toArray, List.set_cons_zero, List.set_cons_succ]
        refine takeW 4 70 (v := ?_) rfl rfl (by decide) (by kernel_rfl) (by kernel_rfl) (by kernel_rfl) (fun _ _ _ h => h) (by rfl) ?_ (fun _ => hHeld) ?_
        rotate_left
        · (intro w; (try intro hSw); (try dsimp only at hSw); go_simp; try with_reducible rfl)
        simp only [Act.put, List.setIfInBounds_toArray, List.set_cons_zero, List.set_cons_succ]
        refine takeW 5 71 (v := ?_) rfl rfl (by decide) (by kernel_rfl) (by kernel_rfl) (by kernel_rfl) (fun _ _ _ h => h) (by rfl) ?_ (fun _ => hHeld) ?_
        rotate_left
        · (intro w; (try intro hSw); (try dsimp only at hSw); go_simp; try with_reducible rfl)
        simp only [Act.put, List.setIfInBounds_toArray, List.set_cons_zero, List.set_cons_succ]
        refine takeS 6 72 (v := ?_) rfl rfl (by decide) (by kernel_rfl) (by kernel_rfl) (by kernel_rfl) (by kernel_rfl) (by kernel_rfl) (fun _ _ _ h => h) (by rfl) ?_ hHeld ?_
        rotate_left
        · (intro w; (try intro hSw); (try dsimp only at hSw); go_simp; try with_reducible rfl)
        simp only [Act.put, List.setIfInBounds_toArray, List.set_cons_zero, List.set_cons_succ]
        refine stepC 7 (by kernel_rfl) rfl (fun K hK => ?_)
        go_simp
        refine hK.out _ _ (by first | with_reducible exact hk9 | with_reducible exact keep9 hk9 (Gr.refl _).alloc) (fun hHeldN => ?_)
        clear hHeld hK K
        have hHeld := hHeldN
        clear hHeldN
        have HI6 : Hid (OoI w Bo (W.alloc (.cells #[.string A[k].s, .int .i64 A[k].a, .int .i64 A[k].b, .int .i64 A[k].c, .int .i64 A[k].x, .int .i64 A[k].y, .int .i64 A[k].z] 31)) (.slice (some ⟨ba, oa, none⟩) A.length capA) (.slice adM M.length capM) (.slice av (RR k).length cv) (.slice adM M.length capM) (RR k)) := HIr.out.gr gW.alloc
        have HN6 : Hid (∀ j u, ([A[k]].flatMap accC)[j]? = some u → (W.alloc (.cells #[.string A[k].s, .int .i64 A[k].a, .int .i64 A[k].b, .int .i64 A[k].c, .int .i64 A[k].x, .int .i64 A[k].y, .int .i64 A[k].z] 31)).cell? ((⟨W.heap.size, 0, none⟩ : Addr).add j) = some u) := accs_lit W A[k] 31
        have hwz : Bo + 1 ≤ (W.alloc (.cells #[.string A[k].s, .int .i64 A[k].a, .int .i64 A[k].b, .int .i64 A[k].c, .int .i64 A[k].x, .int .i64 A[k].y, .int .i64 A[k].z] 31)).heap.size := by have := HI6.out.ob.lt; omega
        have nbl : ∀ i, i ≤ Bo → some i ≠ (Value.slice av (RR k).length cv).ownBlock := fun i hi e => by have := (HI6.out.own.lt _ e.symm).1; omega
        refine stepC 8 (by kernel_rfl) rfl (fun K hK => ?_)
        (refine step_append_own (by rfl) _ _ 22 (by rfl) (Bo + 1) 31 i0 (.agg #[.string ⟨#[]⟩, .int .i64 0, .int .i64 0, .int .i64 0, .int .i64 0, .int .i64 0, .int .i64 0]) 7 64 Try.underlying22 hi hz0 hz1 hz2 rfl (by decide) _ _ _ (by rfl) HI6.out.own ⟨W.heap.size, 0, none⟩ 1 1 ([A[k]].flatMap accC) (by rfl) (by rfl) HN6.out (acc_one _) (by unfold maxLen; omega) (by omega) hwz ?_; intro v6 w6 ho6 hgr6 hn6; replace hk9 := keep9g (keep9 hk9 (Gr.refl W).alloc) hgr6 (nbl _ (by simp)) (nbl _ (by simp; omega)) (nbl _ (by simp; omega)) (nbl _ (by simp; omega)) (nbl _ (by simp; omega)) (nbl _ (by simp; omega)) (nbl _ (by simp; omega)) (nbl _ (by simp; omega)) (nbl _ (by simp; omega)))
        refine hK.out (Act.put _ (some 74) v6) _ (by first | with_reducible exact hk9 | with_reducible exact keep9 hk9 (Gr.refl _).alloc) (fun hHeldN => ?_)
        clear hHeld hK K
        have hHeld := hHeldN
        clear hHeldN
        simp only [Act.put, List.setIfInBounds_toArray, List.set_cons_zero, List.set_cons_succ]
        obtain ⟨a6, c6, rfl⟩ := own_slice ho6
        have HI7 : Hid (OoI w Bo (w6.setCell ⟨Bo, 0, none⟩ (.slice a6 ((RR k).length + 1) c6)) (.slice (some ⟨ba, oa, none⟩) A.length capA) (.slice adM M.length capM) (.slice a6 ((RR k).length + 1) c6) (.slice adM M.length capM) ((RR k) ++ [A[k]])) := HI6.out.app hB3 ho6 hgr6
        obtain ⟨o0, o1, of0, of1, ol⟩ := HI6.out.ob.grown hgr6 (nbl _ (by omega))
        clear ho6 hgr6 hn6 HI6 HN6 hwz gW nbl
        refine takeW 9 75 (v := ?_) rfl rfl (by decide) (by kernel_rfl) (by kernel_rfl) (by kernel_rfl) (fun _ _ _ h => h) (by rfl) ?_ (fun _ => hHeld) ?_
        rotate_left
        · (intro w; (try intro hSw); (try dsimp only at hSw); go_simp; try with_reducible rfl)
        simp only [Act.put, List.setIfInBounds_toArray, List.set_cons_zero, List.set_cons_succ]
        refine stepS (by kernel_rfl) rfl (by kernel_rfl) (fun K hK => ?_)
        go_simp
        refine hK.out _ _ ?_
        clear hHeld hK K
        refine doneL (by kernel_rfl) ?_ _
        clear hk9 o0 o1 of0 of1 ol
        go_wp2
        go_roundw
        case rel => exact ⟨k + 1, _, by omega, by go_num, by simp; omega, by rw [HST.out]; exact HI7.out⟩
        case measure => simp [intOf]; omega
    · skip
      obtain rfl : k = A.length := by omega
      obtain ⟨av, cv, hv⟩ := own_slice HIr.out.own
      subst hv
      obtain ⟨l0, l1, _, _, ll⟩ := HIr.out.lb
      obtain ⟨o0, o1, of0, of1, ol⟩ := HIr.out.ob
      by_cases hp : p < A.length
      · have hd : decide (p < A.length) = true := decide_eq_true hp
        have HE : Hid (OA = RR A.length) := by show _ = _; rw [HEN.out, if_neg (by omega)]
        rw [hd]
        clear hd
        obtain ⟨r0, r1, f0, f1, rl⟩ := HIr.out.rs
        go_wp2
        obtain ⟨b1, d1, h1, _, _, hr, hf, _⟩ := own_row HIr.out.own
        cases h1
        exact bodyPost_ret (v := .tuple #[.agg #[.slice av (RR A.length).length cv, .slice adM M.length capM], .int .i64 0]) (by simp [results, Try.results19, go_sem, *]) rfl ⟨av, cv, by rw [HE.out], by rw [HE.out]; exact (RowAt.setFar hr _ _ (fun a e => by have := hf a e; simp; omega)).setFar _ _ (fun a e => by have := hf a e; simp; omega), (HIr.out.g.set _ (by simp) _).set _ (by simp) _⟩
      · have hd : decide (p < A.length) = false := decide_eq_false hp
        have HE : Hid (OA = RR A.length ++ [newA s n]) := by show _ = _; rw [HEN.out, if_pos (by omega)]
        rw [hd]
        clear hd
        have HN4 : Hid (∀ j u, ([newA s n].flatMap accC)[j]? = some u → (wr.alloc (.cells #[.string s, .int .i64 n, .int .i64 0, .int .i64 0, .int .i64 0, .int .i64 0, .int .i64 0] 31)).cell? ((⟨wr.heap.size, 0, none⟩ : Addr).add j) = some u) := accs_lit wr (newA s n) 31
        have HI4 : Hid (OoI w Bo (wr.alloc (.cells #[.string s, .int .i64 n, .int .i64 0, .int .i64 0, .int .i64 0, .int .i64 0, .int .i64 0] 31)) (.slice adA A.length capA) (.slice adM M.length capM) (.slice av (RR A.length).length cv) (.slice adM M.length capM) (RR A.length)) := HIr.out.gr (Gr.refl _).alloc
        have hwz : Bo + 1 ≤ (wr.alloc (.cells #[.string s, .int .i64 n, .int .i64 0, .int .i64 0, .int .i64 0, .int .i64 0, .int .i64 0] 31)).heap.size := by have := HI4.out.ob.lt; omega
        go_wp2_with (first
          | (at_builtin; refine wpList_append_own _ rfl _ _ 22 rfl (Bo + 1) 31 i0 (.agg #[.string ⟨#[]⟩, .int .i64 0, .int .i64 0, .int .i64 0, .int .i64 0, .int .i64 0, .int .i64 0]) 7 64 Try.underlying22 hi hz0 hz1 hz2 rfl (by decide) _ _ _ rfl HI4.out.own ⟨wr.heap.size, 0, none⟩ 1 1 ([newA s n].flatMap accC) rfl rfl HN4.out (acc_one _) (by unfold maxLen; omega) (by omega) hwz ?_)
          | fail)
        intro v5 w5 ho5 hgr5 _
        obtain ⟨a5, c5, rfl⟩ := own_slice ho5
        have HI5 : Hid (OoI w Bo (w5.setCell ⟨Bo, 0, none⟩ (.slice a5 ((RR A.length).length + 1) c5)) (.slice adA A.length capA) (.slice adM M.length capM) (.slice a5 ((RR A.length).length + 1) c5) (.slice adM M.length capM) (RR A.length ++ [newA s n])) := HI4.out.app hB3 ho5 hgr5
        obtain ⟨o0, o1, of0, of1, ol⟩ := HI4.out.ob.grown hgr5 (fun e => by have := (HI4.out.own.lt _ e.symm).1; omega)
        obtain ⟨r0, r1, f0, f1, rl⟩ := HI4.out.rs.grown hgr5 (fun e => by have := (HI4.out.own.lt _ e.symm).1; omega)
        clear ho5 hgr5 HI4 HN4 hwz l0 l1 ll
        go_wp2
        obtain ⟨b1, d1, h1, _, _, hr, hf, _⟩ := own_row HI5.out.own
        rw [List.length_append, List.length_singleton] at h1
        cases h1
        exact bodyPost_ret (v := .tuple #[.agg #[.slice a5 ((RR A.length).length + 1) c5, .slice adM M.length capM], .int .i64 0]) (by simp [results, Try.results19, go_sem, *]) rfl ⟨a5, c5, by rw [HE.out, List.length_append, List.length_singleton], by rw [HE.out]; exact (RowAt.setFar hr _ _ (fun a e => by have := hf a e; simp; omega)).setFar _ _ (fun a e => by have := hf a e; simp; omega), (HI5.out.g.set _ (by simp) _).set _ (by simp) _⟩
end Go.Proofs.Ytgidkmipecfjhaa
