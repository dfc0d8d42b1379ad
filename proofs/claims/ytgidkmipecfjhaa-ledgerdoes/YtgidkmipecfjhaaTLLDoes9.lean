/- What the proof is made of, part 9. -/
import Derived.Test.YtgidkmipecfjhaaTLLDoes8
import Derived.Lib.Overlaps
import Derived.Lib.AppendZerosOnto
import Derived.Laws.CopyRow
import Derived.Laws.Externs
import Derived.Laws.NewBlocks
import Derived.Deep.Draws
namespace Go.Proofs.Ytgidkmipecfjhaa
open Go.RowKit
open Led (Acc Mk)
theorem flat_at {α : Type} {f : α → List Value} {c : Nat} (hc : ∀ x, (f x).length = c) (h0 : 0 < c) (L : List α) (j : Nat) (hj : j / c < L.length) : (L.flatMap f)[j]? = (f L[j / c])[j % c]? := by
  have := flat_get hc L (j / c) hj (j % c) (Nat.mod_lt _ h0)
  rwa [Nat.div_add_mod' j c] at this
theorem flat_set {α : Type} {f : α → List Value} {c : Nat} (hc : ∀ x, (f x).length = c) (h0 : 0 < c) (L : List α) (p : Nat) (y : α) (hp : p < L.length) (j : Nat) : ((L.set p y).flatMap f)[j]? = if j / c = p then (f y)[j % c]? else (L.flatMap f)[j]? := by
  by_cases hj : j / c < L.length
  · rw [flat_at hc h0 (L.set p y) j (by rw [List.length_set]; exact hj), List.getElem_set]
    by_cases e : j / c = p
    · rw [if_pos e.symm, if_pos e]
    · rw [if_neg (fun h => e h.symm), if_neg e, flat_at hc h0 L j hj]
  · have hl : (L.length) * c ≤ j := by
      have := Nat.div_add_mod' j c
      have : L.length * c ≤ j / c * c := Nat.mul_le_mul_right _ (by omega)
      omega
    rw [List.getElem?_eq_none (by rw [flat_len hc, List.length_set]; exact hl), if_neg (by omega), List.getElem?_eq_none (by rw [flat_len hc]; exact hl)]
theorem own_put7 {w : World} {base g cap : Nat} {A : List Acc} (h : w.ownsRow base 31 7 (.slice (some ⟨g, 0, none⟩) A.length cap) A.length (A.flatMap accC)) (p : Nat) (hp : p < A.length) (y : Acc) :
    (((((((w.setCell ⟨g, p * 7, none⟩ (.string y.s)).setCell ⟨g, p * 7 + 1, none⟩ (.int .i64 y.a)).setCell ⟨g, p * 7 + 2, none⟩ (.int .i64 y.b)).setCell ⟨g, p * 7 + 3, none⟩ (.int .i64 y.c)).setCell ⟨g, p * 7 + 4, none⟩ (.int .i64 y.x)).setCell ⟨g, p * 7 + 5, none⟩ (.int .i64 y.y)).setCell ⟨g, p * 7 + 6, none⟩ (.int .i64 y.z)).ownsRow base 31 7 (.slice (some ⟨g, 0, none⟩) A.length cap) A.length ((A.set p y).flatMap accC) := by
  have h1 := ((((((((h.stored (p * 7) (.string y.s)).1.stored (p * 7 + 1) (.int .i64 y.a)).1.stored (p * 7 + 2) (.int .i64 y.b)).1.stored (p * 7 + 3) (.int .i64 y.c)).1.stored (p * 7 + 4) (.int .i64 y.x)).1.stored (p * 7 + 5) (.int .i64 y.y)).1.stored (p * 7 + 6) (.int .i64 y.z)).1)
  have e : (((((((A.flatMap accC).set (p * 7) (.string y.s)).set (p * 7 + 1) (.int .i64 y.a)).set (p * 7 + 2) (.int .i64 y.b)).set (p * 7 + 3) (.int .i64 y.c)).set (p * 7 + 4) (.int .i64 y.x)).set (p * 7 + 5) (.int .i64 y.y)).set (p * 7 + 6) (.int .i64 y.z) = (A.set p y).flatMap accC := by
    apply List.ext_getElem?
    intro j
    rw [flat_set accC_len (by omega) A p y hp j]
    have hl := flat_len accC_len A
    simp only [List.getElem?_set, List.length_set, hl]
    have hm : p * 7 + 7 ≤ A.length * 7 := by have := Nat.mul_le_mul_right 7 (show p + 1 ≤ A.length by omega); omega
    by_cases hj : j / 7 = p
    · rw [if_pos hj]
      have hc : j = p * 7 ∨ j = p * 7 + 1 ∨ j = p * 7 + 2 ∨ j = p * 7 + 3 ∨ j = p * 7 + 4 ∨ j = p * 7 + 5 ∨ j = p * 7 + 6 := by omega
      rcases hc with e | e | e | e | e | e | e <;> subst e
      · rw [if_neg (by omega), if_neg (by omega), if_neg (by omega), if_neg (by omega), if_neg (by omega), if_neg (by omega), if_pos rfl, if_pos (by omega), show p * 7 % 7 = 0 by omega]; rfl
      · rw [if_neg (by omega), if_neg (by omega), if_neg (by omega), if_neg (by omega), if_neg (by omega), if_pos rfl, if_pos (by omega), show (p * 7 + 1) % 7 = 1 by omega]; rfl
      · rw [if_neg (by omega), if_neg (by omega), if_neg (by omega), if_neg (by omega), if_pos rfl, if_pos (by omega), show (p * 7 + 2) % 7 = 2 by omega]; rfl
      · rw [if_neg (by omega), if_neg (by omega), if_neg (by omega), if_pos rfl, if_pos (by omega), show (p * 7 + 3) % 7 = 3 by omega]; rfl
      · rw [if_neg (by omega), if_neg (by omega), if_pos rfl, if_pos (by omega), show (p * 7 + 4) % 7 = 4 by omega]; rfl
      · rw [if_neg (by omega), if_pos rfl, if_pos (by omega), show (p * 7 + 5) % 7 = 5 by omega]; rfl
      · rw [if_pos rfl, if_pos (by omega), show (p * 7 + 6) % 7 = 6 by omega]; rfl
    · rw [if_neg hj, if_neg (by omega), if_neg (by omega), if_neg (by omega), if_neg (by omega), if_neg (by omega), if_neg (by omega), if_neg (by omega)]
  rwa [e] at h1
theorem own_putS {w : World} {base g cap : Nat} {M : List Mk} (h : w.ownsRow base 64 5 (.slice (some ⟨g, 0, none⟩) M.length cap) M.length (M.flatMap mkC)) (p : Nat) (hp : p < M.length) (st : Int) :
    (w.setCell ⟨g, p * 5 + 4, none⟩ (.int .i64 st)).ownsRow base 64 5 (.slice (some ⟨g, 0, none⟩) M.length cap) M.length ((M.set p { M[p] with st := st }).flatMap mkC) := by
  have h1 := (h.stored (p * 5 + 4) (.int .i64 st)).1
  have e : (M.flatMap mkC).set (p * 5 + 4) (.int .i64 st) = (M.set p { M[p] with st := st }).flatMap mkC := by
    apply List.ext_getElem?
    intro j
    rw [flat_set mkC_len (by omega) M p _ hp j]
    have hl := flat_len mkC_len M
    simp only [List.getElem?_set, hl]
    have hm : p * 5 + 5 ≤ M.length * 5 := by have := Nat.mul_le_mul_right 5 (show p + 1 ≤ M.length by omega); omega
    by_cases hj : j / 5 = p
    · rw [if_pos hj]
      have hat := flat_at mkC_len (by omega) M j (by omega)
      have hc : j = p * 5 ∨ j = p * 5 + 1 ∨ j = p * 5 + 2 ∨ j = p * 5 + 3 ∨ j = p * 5 + 4 := by omega
      have hpe : M[j / 5]'(by omega) = M[p] := by simp only [hj]
      rw [hpe] at hat
      rcases hc with e | e | e | e | e
      · rw [if_neg (by omega), hat, show j % 5 = 0 by omega]; rfl
      · rw [if_neg (by omega), hat, show j % 5 = 1 by omega]; rfl
      · rw [if_neg (by omega), hat, show j % 5 = 2 by omega]; rfl
      · rw [if_neg (by omega), hat, show j % 5 = 3 by omega]; rfl
      · rw [if_pos e.symm, if_pos (by omega), show j % 5 = 4 by omega]; rfl
    · rw [if_neg hj, if_neg (by omega)]
  rwa [e] at h1
set_option maxHeartbeats 2000000 in
set_option maxRecDepth 100000 in
theorem state7_any (A : List Acc) (M : List Mk) (s : ByteArray) (adA : Option Addr) (capA : Nat) (adM : Option Addr) (capM : Nat) (w : World) (h : LedAt w adA adM A M) :
    Calls Try.prog 16 #[.agg #[.slice adA A.length capA, .slice adM M.length capM], .string s] w fun e w' => e = .returned (.int .i64 (stateE A M s)) ∧ Gr w w' := by
  have HM : Hid (∀ w', Gr w w' → Calls Try.prog 14 #[.agg #[.slice adA A.length capA, .slice adM M.length capM]] w' fun e w2 => e = .returned (.int .i64 (mayL A M)) ∧ Gr w' w2) := fun w' g => (h.gr g).may capA capM
  have HL : Hid (MksAt w adM M) := h.m
  unfold stateE
  cases hm : Led.mayB A M with
  | false =>
    rw [mayL_no hm] at HM
    clear h hm
    go_enter Try.func16, Try.ntmps16
    go_wp2_with fail
    refine (HM.out _ ((Gr.refl _).alloc)).mono ?_
    rintro e w1 ⟨rfl, hg1⟩
    go_wp2
    go_ret
    exact ⟨rfl, (by repeat (first | exact Gr.refl _ | refine Gr.alloc ?_ | refine Gr.drew ?_ | refine Gr.trans ?_ (by assumption)))⟩
  | true =>
    rw [mayL_yes hm] at HM
    have hM := (Led.may_iff A M).1 hm
    have HF : Hid (∀ w', Gr w w' → Calls Try.prog 47 #[.slice adM M.length capM, .string s] w' fun e w2 => e = .returned (.tuple #[.int .i64 (Led.pos (Led.ky M) s : Nat), .bool (Led.hasB (Led.ky M) s)]) ∧ Gr w' w2) := fun w' g => findM_any M s adM capM w' (h.m.gr g) hM.um (by have := hM.lm; omega)
    simp only [if_true]
    cases hb : Led.hasB (Led.ky M) s with
    | false =>
      rw [hb] at HF
      generalize Led.pos (Led.ky M) s = p at *
      clear h hm hM hb
      go_enter Try.func16, Try.ntmps16
      go_wp2_with fail
      refine (HM.out _ ((Gr.refl _).alloc)).mono ?_
      rintro e w1 ⟨rfl, hg1⟩
      obtain ⟨b0, b1, _, _, bl⟩ := (TwoAt.new w (.slice adA A.length capA) (.slice adM M.length capM) 25 _ rfl).gr hg1
      have g1 : Gr w w1 := (by repeat (first | exact Gr.refl _ | refine Gr.alloc ?_ | refine Gr.drew ?_ | refine Gr.trans ?_ (by assumption)))
      go_wp2_with fail
      refine (HF.out _ g1).mono ?_
      rintro e w2 ⟨rfl, hg2⟩
      go_wp2
      go_ret
      exact ⟨rfl, g1.trans hg2⟩
    | true =>
      rw [hb] at HF
      obtain ⟨hp, _⟩ := Led.pos_mem hM.um ((Led.has_iff _ _).1 hb)
      rw [Led.ky_len] at hp
      obtain ⟨b, off, had, hbw, d0, d1, d2, d3, d4⟩ := (MksAt.at HL.out (Led.pos (Led.ky M) s) hp)
      have HE : Hid ((M[Led.pos (Led.ky M) s]?).elim 0 Mk.st = M[Led.pos (Led.ky M) s].st) := by show _ = _; rw [List.getElem?_eq_getElem hp]; rfl
      simp only [if_true]
      rw [HE.out]
      generalize M[Led.pos (Led.ky M) s].st = st at *
      clear HE
      generalize Led.pos (Led.ky M) s = p at *
      subst had
      have hpi : (p : Int) < (M.length : Int) := by omega
      clear h hm hM hb d0 d1 d2 d3
      go_enter Try.func16, Try.ntmps16
      go_wp2_with fail
      refine (HM.out _ ((Gr.refl _).alloc)).mono ?_
      rintro e w1 ⟨rfl, hg1⟩
      have B := (TwoAt.new w (.slice adA A.length capA) (.slice (some ⟨b, off, none⟩) M.length capM) 25 _ rfl).gr hg1
      have HB : Hid (TwoAt w1 w.heap.size (.slice adA A.length capA) (.slice (some ⟨b, off, none⟩) M.length capM)) := B
      obtain ⟨b0, b1, _, _, bl⟩ := B
      have g1 : Gr w w1 := (by repeat (first | exact Gr.refl _ | refine Gr.alloc ?_ | refine Gr.drew ?_ | refine Gr.trans ?_ (by assumption)))
      go_wp2_with fail
      refine (HF.out _ g1).mono ?_
      rintro e w2 ⟨rfl, hg2⟩
      have g2 : Gr w w2 := g1.trans hg2
      have e4 := g2.keep d4
      have hbw2 : b < w2.heap.size := Nat.lt_of_lt_of_le hbw g2.size
      obtain ⟨b0, b1, _, _, bl⟩ := HB.out.gr hg2
      go_wp2
      go_ret
      exact ⟨rfl, g2⟩
end Go.Proofs.Ytgidkmipecfjhaa
namespace Go.Proofs.Ytgidkmipecfjhaa
open Go.RowKit
open Led (Acc Mk)
theorem run_copy_big {P : Program} (w : World) (dT sT ty elem : TypeId) (c g o dLen dCap : Nat) (a : Addr) (sLen sCap : Nat) (cur : Array Value) (t : TypeId) (cs : List Value)
    (hu : P.underlying dT = some (.slice elem)) (hs : (P.info? elem).map (·.size) = some c)
    (hg : w.heap[g]? = some (.cells cur t (0, 0))) (hn : cs.length = Nat.min sLen dLen * c)
    (hsrc : ∀ j v, cs[j]? = some v → w.cell? (a.add j) = some v) (hfit : o + cs.length ≤ cur.size) (h1 : ∀ v ∈ cs, v.oneCell' = true) :
    (Builtin.copy_ #[dT, sT] ty #[.slice (some ⟨g, o, none⟩) dLen dCap, .slice (some a) sLen sCap]).run P w =
      .ok (goInt (Nat.min sLen dLen)) (w.setRow g (cur.toList.take o ++ cs ++ cur.toList.drop (o + cs.length)).toArray) := by
  have hl := run_loadCells_list (P := P) w a cs hsrc
  have hst := run_storeCells_at P g o t cs 0 cur w hg (by simpa using hfit) h1
  cases hq : P.info? elem with
  | none => simp [hq] at hs
  | some i =>
    have hi : i.size = c := by simpa [hq] using hs
    simp [Builtin.copy_, run_underlying hu, Builtin.lenOf, Builtin.firstCells, sizeOf, typeInfo, hq, hi, ← hn, hl, hst]
theorem wp_copy_run {P : Program} (w : World) {o : Oper} {a : Act} {K : Act → World → Prop} {Q : Exit → Act → World → Prop} (d s : Operand) (t t' : TypeId)
    (ho : o.op = .call { callee := .builtin .copy, args := #[d, s], argTypes := #[t, t'] }) (v u : Value) (hd : a.eval d = v) (hs : a.eval s = u) {v' : Value} {w' : World}
    (hr : (Builtin.copy_ #[t, t'] o.type #[v, u]).run P w = .ok v' w') (h : K (a.put o.dst v') w') : o.wp P a w K Q := by
  unfold Oper.wp execOp
  simp only [ho, resolve, invoke, builtin, Sem.run_bind, Sem.run_pure, Result.andThen_ok, List.map_toArray, List.map_cons, List.map_nil, hd, hs, hr]
  exact h
theorem wpList_copy_run {P : Program} (w : World) {ops : Array Oper} {rest : List Oper} {o : Oper} {a : Act} {Q : Exit → Act → World → Prop} (hgd : o.guard = none) (d s : Operand) (t t' : TypeId)
    (ho : o.op = .call { callee := .builtin .copy, args := #[d, s], argTypes := #[t, t'] }) (v u : Value) (hd : a.eval d = v) (hs : a.eval s = u) {v' : Value} {w' : World}
    (hr : (Builtin.copy_ #[t, t'] o.type #[v, u]).run P w = .ok v' w') (h : wpList P ops Q rest (a.put o.dst v') w') : wpList P ops Q (o :: rest) a w :=
  wpList_plain hgd fun _ hK => wp_copy_run w d s t t' ho v u hd hs hr (hK _ _ h)
theorem step_copy_run {P : Program} {ops : Array Oper} {o : Oper} {a : Act} {w : World} {K : Act → World → Prop} {Q : Exit → Act → World → Prop} {E : Prop}
    (d0 : Nat) (hg : o.guard = none) (hdst : o.dst = some d0) (d x : Operand) (dT sT : TypeId) (hop : o.op = Op.call { callee := Callee.builtin Builtin.copy, args := #[d, x], argTypes := #[dT, sT] })
    (v u : Value) (hd : a.eval d = v) (hx : a.eval x = u) {v' : Value} {w' : World} (hr : (Builtin.copy_ #[dT, sT] o.type #[v, u]).run P w = .ok v' w') (hK : K (a.put (some d0) v') w') :
    if Region.wanted o (yielded ops a.tmps) = true then Oper.wp P o a w K Q else E := by
  have hw : Region.wanted o (yielded ops a.tmps) = true := by simp [Region.wanted, hg]
  rw [if_pos hw]
  rw [← hdst] at hK
  exact wp_copy_run w d x dT sT hop v u hd hx hr hK
theorem setRow_grown (w : World) (g : Nat) (cs : Array Value) : w.grownBy (w.setRow g cs) (some g) := by
  refine ⟨rfl, rfl, rfl, by simp [World.setRow], fun k _ hk => ?_⟩
  have hne : g ≠ k := fun e => hk (by rw [e])
  simp only [World.setRow]
  rw [Array.getElem?_modify, if_neg hne]
theorem grownBy_trans {a b c : World} {r : Option Nat} (h : a.grownBy b r) (k : b.grownBy c r) : a.grownBy c r :=
  ⟨k.os.trans h.os, k.tape.trans h.tape, k.output.trans h.output, Nat.le_trans h.size k.size, fun i hi hne => (k.block i (Nat.lt_of_lt_of_le hi h.size) hne).trans (h.block i hi hne)⟩
theorem grownBy_drew (w : World) (r : Option Nat) : w.grownBy w.drew r := ⟨rfl, rfl, rfl, Nat.le_refl _, fun _ _ _ => rfl⟩
theorem grownBy_new {a b : World} (h : Gr a b) (r : Option Nat) : a.grownBy b r := ⟨h.below.os, h.below.tape, h.below.output, h.below.size, fun k hk _ => h.below.block k hk⟩
theorem Gr.setRow {a b : World} (h : Gr a b) (g : Nat) (hg : a.heap.size ≤ g) (cs : Array Value) : Gr a (b.setRow g cs) := h.grown (setRow_grown b g cs) (fun k e => by cases e; exact hg)
theorem seg_len (R : List Value) (a : Nat) (X : List Value) (h : a + X.length ≤ R.length) : (R.take a ++ X ++ R.drop (a + X.length)).length = R.length := by
  simp only [List.length_append, List.length_take, List.length_drop]; omega
theorem seg_shift (R X Z : List Value) (a c : Nat) (hX : X.length = c) (h : a + c + Z.length ≤ R.length) :
    ((((R.take (a + c) ++ Z ++ R.drop (a + c + Z.length)).take a ++ X ++ (R.take (a + c) ++ Z ++ R.drop (a + c + Z.length)).drop (a + X.length))).take (a + c + Z.length)) = R.take a ++ X ++ Z := by
  have h1 : (R.take (a + c) ++ Z ++ R.drop (a + c + Z.length)).take a = R.take a := by
    rw [List.append_assoc, List.take_append_of_le_length (by rw [List.length_take]; omega), List.take_take, Nat.min_eq_left (by omega)]
  have h2 : (R.take (a + c) ++ Z ++ R.drop (a + c + Z.length)).drop (a + X.length) = Z ++ R.drop (a + c + Z.length) := by
    rw [List.append_assoc, List.drop_left' (by rw [List.length_take, hX]; omega)]
  rw [h1, h2, ← List.append_assoc, List.take_left' (by simp only [List.length_append, List.length_take, hX]; omega)]
theorem seg_grow (R X Z : List Value) (a c : Nat) (hX : X.length = c) (h : a + c + Z.length ≤ R.length) :
    (((R.take a ++ X ++ R.drop (a + X.length)).take (a + c) ++ Z ++ (R.take a ++ X ++ R.drop (a + X.length)).drop (a + c + Z.length)).take (a + c + Z.length)) = R.take a ++ X ++ Z := by
  have h1 : (R.take a ++ X ++ R.drop (a + X.length)).take (a + c) = R.take a ++ X := List.take_left' (by simp only [List.length_append, List.length_take, hX]; omega)
  rw [h1, List.take_left' (by simp only [List.length_append, List.length_take, hX]; omega)]
theorem zeroCells_len2 (z : Array Value) (n : Nat) : (Builtin.zeroCells z n).size = n * z.size := by simp [Builtin.zeroCells]
theorem flat_take {α : Type} {f : α → List Value} {c : Nat} (hc : ∀ x, (f x).length = c) (L : List α) (i : Nat) (hi : i ≤ L.length) : (L.take i).flatMap f = (L.flatMap f).take (i * c) := by
  have h := congrArg (List.flatMap f) (List.take_append_drop i L)
  rw [List.flatMap_append] at h
  rw [← h, List.take_left' (by rw [flat_len hc, List.length_take, Nat.min_eq_left hi])]
theorem flat_drop {α : Type} {f : α → List Value} {c : Nat} (hc : ∀ x, (f x).length = c) (L : List α) (i : Nat) (hi : i ≤ L.length) : (L.drop i).flatMap f = (L.flatMap f).drop (i * c) := by
  have h := congrArg (List.flatMap f) (List.take_append_drop i L)
  rw [List.flatMap_append] at h
  rw [← h, List.drop_left' (by rw [flat_len hc, List.length_take, Nat.min_eq_left hi])]
theorem flat_ins {α : Type} {f : α → List Value} {c : Nat} (hc : ∀ x, (f x).length = c) (L : List α) (i : Nat) (hi : i ≤ L.length) (x : α) : (L.take i ++ x :: L.drop i).flatMap f = (L.flatMap f).take (i * c) ++ f x ++ (L.flatMap f).drop (i * c) := by
  rw [List.flatMap_append, List.flatMap_cons, flat_take hc L i hi, flat_drop hc L i hi, List.append_assoc]
end Go.Proofs.Ytgidkmipecfjhaa
namespace Go.Proofs.Ytgidkmipecfjhaa
open Go.RowKit
open Led (Acc Mk)
set_option maxHeartbeats 4000000 in
set_option maxRecDepth 100000 in
theorem insA_shift (A : List Acc) (x : Acc) (i cap g vb : Nat) (cur : Array Value) (w : World) (hi : i < A.length) (hroom : A.length + 1 ≤ cap) (hvb : vb ≠ g) (hn : A.length ≤ 1000000)
    (hg : w.heap[g]? = some (.cells cur 31 (0, 0))) (hcs : cur.size = cap * 7) (htk : cur.toList.take (A.length * 7) = A.flatMap accC) (hv : w.heap[vb]? = some (.cells (accC x).toArray 31 (0, 0))) :
    Calls Try.prog 52 #[.slice (some ⟨g, 0, none⟩) A.length cap, .int .i64 i, .slice (some ⟨vb, 0, none⟩) 1 1] w fun e w' => e = .returned (.slice (some ⟨g, 0, none⟩) (A.length + 1) cap) ∧
      (∃ cur', w'.heap[g]? = some (.cells cur' 31 (0, 0)) ∧ cur'.size = cap * 7 ∧ cur'.toList.take ((A.length + 1) * 7) = (A.take i ++ x :: A.drop i).flatMap accC) ∧ w.grownBy w' (some g) := by
  obtain ⟨i0, hi0, hz0, hz1, hz2⟩ := info_parts infoAcc
  have hsz : (Try.prog.info? 31).map (·.size) = some 7 := by rw [hi0]; simp [hz1]
  have hut := Try.underlying22
  have hz2 : ¬ ((i : Int) = (A.length : Int)) := by omega
  have hov : ∀ lb cb, (callFunc 80 #[.slice (some ⟨vb, 0, none⟩) 1 1, .slice (some ⟨g, (i + 1) * 7, none⟩) lb cb]).run Try.prog w = .ok (.value (.bool false)) w := fun lb cb => by
    rw [run_callFunc_extern Try.func80 (by kernel_rfl) (by kernel_rfl) (by kernel_rfl) (e := Extern.SlicesOverlaps.overlaps #[22, 22] #[4]) (by kernel_rfl),
      Lib.run_overlaps_apart w 22 4 31 hut 7 (fun _ => by kernel_rfl) ⟨vb, 0, none⟩ ⟨g, (i + 1) * 7, none⟩ 1 1 lb cb hvb 31 31 7 (cap * 7) (by unfold World.shape?; rw [hv]; rfl) (by unfold World.shape?; rw [hg]; simp [hcs]) (by omega) (by simp [World.frozen?, hv]) (by simp [World.frozen?, hv])]
    rfl
  have hZl : ((A.flatMap accC).drop (i * 7)).length = (A.length - i) * 7 := by rw [List.length_drop, flat_len accC_len, Nat.sub_mul]
  have hXl := accC_len x
  have hcl : cur.toList.length = cap * 7 := by simpa using hcs
  have hcell : ∀ j v, (A.flatMap accC)[j]? = some v → w.cell? ⟨g, j, none⟩ = some v := fun j v h => by
    rw [cell_of_row w g j cur _ _ hg]
    rw [← htk, List.getElem?_take] at h
    split at h
    · simpa using h
    · cases h
  have hcp1 : ∀ ty dc sc, (Builtin.copy_ #[22, 22] ty #[.slice (some ⟨g, (i + 1) * 7, none⟩) (A.length - i) dc, .slice (some ⟨g, i * 7, none⟩) (A.length + 1 - i) sc]).run Try.prog w.drew =
      .ok (goInt (Nat.min (A.length + 1 - i) (A.length - i))) (w.drew.setRow g (cur.toList.take ((i + 1) * 7) ++ (A.flatMap accC).drop (i * 7) ++ cur.toList.drop ((i + 1) * 7 + ((A.flatMap accC).drop (i * 7)).length)).toArray) := fun ty dc sc =>
    run_copy_big w.drew 22 22 ty 31 7 g ((i + 1) * 7) _ dc ⟨g, i * 7, none⟩ _ sc cur 31 _ hut hsz hg (by rw [hZl]; simp only [Nat.min_def]; split <;> (congr 1 <;> omega))
      (fun j v h => by rw [Addr.add_lit]; exact hcell _ v (by rwa [List.getElem?_drop] at h)) (by
        rw [hZl, hcs]
        have e : (i + 1) * 7 + (A.length - i) * 7 = (A.length + 1) * 7 := by rw [← Nat.add_mul]; congr 1; omega
        rw [e]; exact Nat.mul_le_mul_right _ hroom) (fun v h => acc_one A v (List.mem_of_mem_drop h))
  obtain ⟨C1, hC1⟩ : ∃ C1, C1 = (cur.toList.take ((i + 1) * 7) ++ (A.flatMap accC).drop (i * 7) ++ cur.toList.drop ((i + 1) * 7 + ((A.flatMap accC).drop (i * 7)).length)) := ⟨_, rfl⟩
  rw [← hC1] at hcp1
  have hfit : (i + 1) * 7 + ((A.flatMap accC).drop (i * 7)).length ≤ cur.toList.length := by
    rw [hZl, hcl]
    have e : (i + 1) * 7 + (A.length - i) * 7 = (A.length + 1) * 7 := by rw [← Nat.add_mul]; congr 1; omega
    rw [e]; exact Nat.mul_le_mul_right _ hroom
  have hC1l : C1.length = cap * 7 := by rw [hC1, seg_len _ _ _ hfit, hcl]
  have hg1 : ∀ W : World, W.heap = (w.drew.setRow g C1.toArray).heap → W.heap[g]? = some (.cells C1.toArray 31 (0, 0)) := fun W h => by rw [h]; exact setRow_heap w.drew g cur _ _ _ hg
  have hv1 : ∀ W : World, W.heap = (w.drew.setRow g C1.toArray).heap → W.heap[vb]? = some (.cells (accC x).toArray 31 (0, 0)) := fun W h => by
    rw [h]
    have := (setRow_grown w.drew g C1.toArray).block vb (by
      rcases Nat.lt_or_ge vb w.heap.size with h | h
      · exact h
      · rw [Array.getElem?_eq_none h] at hv; cases hv) (fun e => hvb (by cases e; rfl))
    rw [this]; exact hv
  have hcp2 : ∀ (W : World), W.heap = (w.drew.setRow g C1.toArray).heap → ∀ ty dc, (Builtin.copy_ #[22, 22] ty #[.slice (some ⟨g, i * 7, none⟩) (A.length + 1 - i) dc, .slice (some ⟨vb, 0, none⟩) 1 1]).run Try.prog W =
      .ok (goInt (Nat.min 1 (A.length + 1 - i))) (W.setRow g (C1.toArray.toList.take (i * 7) ++ accC x ++ C1.toArray.toList.drop (i * 7 + (accC x).length)).toArray) := fun W hW ty dc =>
    run_copy_big W 22 22 ty 31 7 g (i * 7) _ dc ⟨vb, 0, none⟩ 1 1 C1.toArray 31 (accC x) hut hsz (hg1 W hW) (by rw [hXl]; simp only [Nat.min_def]; split <;> omega)
      (fun j v h => by rw [Addr.add_lit, Nat.zero_add, cell_of_row W vb j _ _ _ (hv1 W hW)]; simpa using h) (by
        rw [hXl, List.size_toArray, hC1l]
        have e : i * 7 + 7 = (i + 1) * 7 := by rw [Nat.add_mul, Nat.one_mul]
        rw [e]; exact Nat.mul_le_mul_right _ (by omega)) (fun v h => acc_one [x] v (by simpa using h))
  have hw1 : IntKind.i64.wrap ((i : Int) + 1) = (i : Int) + 1 := by rw [IntKind.wrap_i64]; omega
  have hb1 : (0 : Int) ≤ (i : Int) + 1 := by omega
  have htn : ((i : Int) + 1).toNat = i + 1 := by omega
  have hb2 : ¬ (cap = i + 1) := by omega
  have hb3 : (i : Int) ≤ (A.length : Int) + 1 := by omega
  have hb4 : ¬ (cap = i) := by omega
  have hb5 : (i : Int) + 1 ≤ (A.length : Int) + 1 := by omega
  have HFin : Hid (∀ W : World, W.heap = ((w.drew.setRow g C1.toArray).setRow g (C1.toArray.toList.take (i * 7) ++ accC x ++ C1.toArray.toList.drop (i * 7 + (accC x).length)).toArray).heap → ∃ cur', W.heap[g]? = some (.cells cur' 31 (0, 0)) ∧ cur'.size = cap * 7 ∧ cur'.toList.take ((A.length + 1) * 7) = (A.take i ++ x :: A.drop i).flatMap accC) := by
    intro W hW
    refine ⟨_, by rw [hW]; exact setRow_heap _ g _ _ _ _ (hg1 _ rfl), ?_, ?_⟩
    · rw [List.size_toArray, seg_len _ _ _ (by
        rw [hXl]
        show i * 7 + 7 ≤ C1.length
        rw [hC1l]
        have e : i * 7 + 7 = (i + 1) * 7 := by rw [Nat.add_mul, Nat.one_mul]
        rw [e]; exact Nat.mul_le_mul_right _ (by omega))]
      exact hC1l
    · rw [flat_ins accC_len A i (by omega) x]
      have e1 : (i + 1) * 7 = i * 7 + 7 := by rw [Nat.add_mul, Nat.one_mul]
      have hs := seg_shift cur.toList (accC x) ((A.flatMap accC).drop (i * 7)) (i * 7) 7 hXl (by rw [← e1]; exact hfit)
      have e2 : i * 7 + 7 + ((A.flatMap accC).drop (i * 7)).length = (A.length + 1) * 7 := by rw [← e1, hZl, ← Nat.add_mul]; congr 1; omega
      have e3 : cur.toList.take (i * 7) = (A.flatMap accC).take (i * 7) := by rw [← htk, List.take_take, Nat.min_eq_left (Nat.mul_le_mul_right _ (by omega))]
      rw [e2, ← e1, e3, ← e2, ← e1, ← hC1, e1, e2] at hs
      exact hs
  clear hcell hfit hC1l hg1 hv1 hC1 hcl hZl hXl htk hv hcs
  go_enter Try.func52, Try.ntmps52
  go_wp2_with (simp only [hov])
  refine wp_region_held_drew (S := (fun _ => True)) (by kernel_rfl) (by trivial) (fun hHeld => ?_)
  refine ty 0 69 hHeld ?_
  refine ty 1 70 hHeld ?_
  refine ty 2 71 hHeld ?_
  refine ty 3 72 hHeld ?_
  refine ty 4 73 hHeld ?_
  refine ty 5 74 hHeld ?_
  refine ty 6 75 hHeld ?_
  refine ty 7 76 hHeld ?_
  refine wpAnyH_ready (rs := [8]) (by kernel_rfl) (by simp) (AllReadyH.cons rfl (fun K hK => ?_) AllReadyH.nil)
  refine step_copy_run 77 rfl rfl (.tmp 73) (.tmp 76) 22 22 rfl (.slice (some ⟨g, (i + 1) * 7, none⟩) (A.length - i) (cap - (i + 1))) (.slice (some ⟨g, i * 7, none⟩) (A.length + 1 - i) (cap - i)) rfl rfl (hcp1 _ _ _) ?_
  refine hK.out _ _ (by trivial) (fun hHeldN => ?_)
  clear hHeld hK K
  have hHeld := hHeldN
  clear hHeldN
  refine wpAnyH_done (by kernel_rfl) ?_ _
  go_wp2_with (at_builtin; refine wpList_copy_run _ rfl _ _ 22 22 rfl _ _ rfl rfl (hcp2 _ rfl _ _) ?_)
  go_ret
  exact ⟨rfl, HFin.out _ (by rw [List.append_assoc]), grownBy_trans (grownBy_drew w _) (grownBy_trans (setRow_grown _ g _) (setRow_grown _ g _))⟩
set_option maxHeartbeats 1000000 in
set_option maxRecDepth 100000 in
theorem insA_grow (A : List Acc) (x : Acc) (i cap g vb : Nat) (cur : Array Value) (w : World) (hi : i < A.length) (hnc : A.length ≤ cap) (hroom : cap < A.length + 1) (hn : A.length ≤ 1000000)
    (hg : w.heap[g]? = some (.cells cur 31 (0, 0))) (htk : cur.toList.take (A.length * 7) = A.flatMap accC) (hv : w.heap[vb]? = some (.cells (accC x).toArray 31 (0, 0))) :
    Calls Try.prog 52 #[.slice (some ⟨g, 0, none⟩) A.length cap, .int .i64 i, .slice (some ⟨vb, 0, none⟩) 1 1] w fun e w' => ∃ G, e = .returned (.slice (some ⟨w.heap.size, 0, none⟩) (A.length + 1) G) ∧ A.length + 1 ≤ G ∧ G ≤ maxLen ∧
      (∃ cur', w'.heap[w.heap.size]? = some (.cells cur' 31 (0, 0)) ∧ cur'.size = G * 7 ∧ cur'.toList.take ((A.length + 1) * 7) = (A.take i ++ x :: A.drop i).flatMap accC) ∧ Gr w w' := by
  obtain ⟨i0, hi0, hz0, hzs, hzb⟩ := info_parts infoAcc
  have hsz : (Try.prog.info? 31).map (·.size) = some 7 := by rw [hi0]; simp [hzs]
  have hut := Try.underlying22
  have hz2 : ¬ ((i : Int) = (A.length : Int)) := by omega
  have hz3 : (cap : Int) < (A.length : Int) + 1 := by omega
  have hcell : ∀ j v, (A.flatMap accC)[j]? = some v → w.cell? ⟨g, j, none⟩ = some v := fun j v h => by
    rw [cell_of_row w g j cur _ _ hg]
    rw [← htk, List.getElem?_take] at h
    split at h
    · simpa using h
    · cases h
  have hgl : g < w.heap.size := by
    rcases Nat.lt_or_ge g w.heap.size with h | h
    · exact h
    · rw [Array.getElem?_eq_none h] at hg; cases hg
  have hvl : vb < w.heap.size := by
    rcases Nat.lt_or_ge vb w.heap.size with h | h
    · exact h
    · rw [Array.getElem?_eq_none h] at hv; cases hv
  have hZl : ((A.flatMap accC).drop (i * 7)).length = (A.length - i) * 7 := by rw [List.length_drop, flat_len accC_len, Nat.sub_mul]
  have hTl : ((A.flatMap accC).take (i * 7)).length = i * 7 := by rw [List.length_take, flat_len accC_len, Nat.min_eq_left (Nat.mul_le_mul_right _ (by omega))]
  have hXl := accC_len x
  have hold : (Builtin.firstCells i0.size i (.slice (some ⟨g, 0, none⟩) i cap)).run Try.prog w.drew = .ok ((A.flatMap accC).take (i * 7)).toArray w.drew := by
    rw [hzs]
    exact run_firstCells_some w.drew 7 i ⟨g, 0, none⟩ i cap _ hTl (fun j v hj => by
      rw [Addr.add_lit, Nat.zero_add]
      rw [List.getElem?_take] at hj
      split at hj
      · exact hcell j v hj
      · cases hj)
  have hik : i + (A.length + 1 - i) = A.length + 1 := by omega
  have hkk : (A.length : Int) + 1 - (i : Int) = ((A.length + 1 - i : Nat) : Int) := by omega
  have hrz : ∀ ty, (Builtin.append_ #[22, 3] ty #[.slice (some ⟨g, 0, none⟩) i cap, .int .i64 ((A.length : Int) + 1 - (i : Int))]).run Try.prog w =
      .ok (.slice (some ⟨w.heap.size, 0, none⟩) (A.length + 1) (grownCap w (A.length + 1) cap 31)) (w.drew.alloc (.cells (((A.flatMap accC).take (i * 7)).toArray ++ Builtin.zeroCells ((.agg #[.string ⟨#[]⟩, .int .i64 0, .int .i64 0, .int .i64 0, .int .i64 0, .int .i64 0, .int .i64 0]) : Value).cells (A.length + 1 - i) ++ Builtin.zeroCells ((.agg #[.string ⟨#[]⟩, .int .i64 0, .int .i64 0, .int .i64 0, .int .i64 0, .int .i64 0, .int .i64 0]) : Value).cells (grownCap w (A.length + 1) cap 31 - (A.length + 1))) 31)) := fun ty => by
    have h := Lib.run_append_grow_zeros (P := Try.prog) w 22 3 ty 31 i0 _ .i64 .i64 hut Try.underlying3 hi0 hz0 (some ⟨g, 0, none⟩) i cap ((A.flatMap accC).take (i * 7)) hold (A.length + 1 - i) (by omega) (by omega) (by omega) (by omega) (by rw [hzb]; omega) (by rw [hzb, hik]; exact growslice_fits hroom (by omega))
    rw [hik] at h
    rw [hkk]
    exact h
  obtain ⟨G, hG⟩ : ∃ G, G = grownCap w (A.length + 1) cap 31 := ⟨_, rfl⟩
  obtain ⟨ROW, hROW⟩ : ∃ ROW : Array Value, ROW = ((A.flatMap accC).take (i * 7)).toArray ++ Builtin.zeroCells ((.agg #[.string ⟨#[]⟩, .int .i64 0, .int .i64 0, .int .i64 0, .int .i64 0, .int .i64 0, .int .i64 0]) : Value).cells (A.length + 1 - i) ++ Builtin.zeroCells ((.agg #[.string ⟨#[]⟩, .int .i64 0, .int .i64 0, .int .i64 0, .int .i64 0, .int .i64 0, .int .i64 0]) : Value).cells (G - (A.length + 1)) := ⟨_, rfl⟩
  rw [← hG] at hrz
  rw [← hROW] at hrz
  have hGn : A.length + 1 ≤ G := by rw [hG]; exact grownCap_ge w _ _ _
  have hG63 : G ≤ maxLen := by rw [hG]; exact grownCap_le_maxLen w (A.length + 1) cap 31 (by unfold maxLen; omega)
  have hRs : ROW.size = G * 7 := by
    rw [hROW]
    simp only [Array.size_append, List.size_toArray, hTl, zeroCells_len2]
    show i * 7 + (A.length + 1 - i) * 7 + (G - (A.length + 1)) * 7 = G * 7
    rw [← Nat.add_mul, ← Nat.add_mul]; congr 1; omega
  have hRt : ROW.toList.take (i * 7) = (A.flatMap accC).take (i * 7) := by
    rw [hROW]
    simp only [Array.toList_append, List.append_assoc]
    exact List.take_left' hTl
  obtain ⟨H, hH⟩ : ∃ H, H = w.heap.size := ⟨_, rfl⟩
  have hW1 : ∀ W : World, W.heap = (w.drew.alloc (.cells ROW 31)).heap → W.heap[H]? = some (.cells ROW 31 (0, 0)) ∧ W.heap[vb]? = some (.cells (accC x).toArray 31 (0, 0)) ∧ W.heap[g]? = some (.cells cur 31 (0, 0)) := fun W h => by
    rw [h, hH]
    refine ⟨heap_alloc_new w.drew _, ?_, ?_⟩
    · show (w.heap.push _)[vb]? = _
      rw [Array.getElem?_push, if_neg (by omega)]; exact hv
    · show (w.heap.push _)[g]? = _
      rw [Array.getElem?_push, if_neg (by omega)]; exact hg
  have hfit1 : i * 7 + (accC x).length ≤ ROW.toList.length := by
    rw [hXl, Array.length_toList, hRs]
    have e : i * 7 + 7 = (i + 1) * 7 := by rw [Nat.add_mul, Nat.one_mul]
    rw [e]; exact Nat.mul_le_mul_right _ (by omega)
  have hcpA : ∀ (W : World), W.heap = (w.drew.alloc (.cells ROW 31)).heap → ∀ ty dc, (Builtin.copy_ #[22, 22] ty #[.slice (some ⟨H, i * 7, none⟩) (A.length + 1 - i) dc, .slice (some ⟨vb, 0, none⟩) 1 1]).run Try.prog W =
      .ok (goInt (Nat.min 1 (A.length + 1 - i))) (W.setRow H (ROW.toList.take (i * 7) ++ accC x ++ ROW.toList.drop (i * 7 + (accC x).length)).toArray) := fun W hW ty dc =>
    run_copy_big W 22 22 ty 31 7 H (i * 7) _ dc ⟨vb, 0, none⟩ 1 1 ROW 31 (accC x) hut hsz (hW1 W hW).1 (by rw [hXl]; simp only [Nat.min_def]; split <;> omega)
      (fun j v h => by rw [Addr.add_lit, Nat.zero_add, cell_of_row W vb j _ _ _ (hW1 W hW).2.1]; simpa using h) (by simpa using hfit1) (fun v h => acc_one [x] v (by simpa using h))
  obtain ⟨C1, hC1⟩ : ∃ C1, C1 = ROW.toList.take (i * 7) ++ accC x ++ ROW.toList.drop (i * 7 + (accC x).length) := ⟨_, rfl⟩
  rw [← hC1] at hcpA
  have hC1l : C1.length = G * 7 := by rw [hC1, seg_len _ _ _ hfit1, Array.length_toList, hRs]
  have hHg : H ≠ g := by omega
  have hW2 : ∀ W : World, W.heap = ((w.drew.alloc (.cells ROW 31)).setRow H C1.toArray).heap → W.heap[H]? = some (.cells C1.toArray 31 (0, 0)) ∧ W.heap[g]? = some (.cells cur 31 (0, 0)) := fun W h => by
    rw [h]
    obtain ⟨h1, _, h3⟩ := hW1 _ rfl
    refine ⟨setRow_heap _ H _ _ _ _ h1, ?_⟩
    have := (setRow_grown (w.drew.alloc (.cells ROW 31)) H C1.toArray).block g (by simp; omega) (fun e => hHg (by cases e; rfl))
    rw [this]; exact h3
  have hfit2 : (i + 1) * 7 + ((A.flatMap accC).drop (i * 7)).length ≤ C1.length := by
    rw [hZl, hC1l]
    have e : (i + 1) * 7 + (A.length - i) * 7 = (A.length + 1) * 7 := by rw [← Nat.add_mul]; congr 1; omega
    rw [e]; exact Nat.mul_le_mul_right _ hGn
  have hcpB : ∀ (W : World), W.heap = ((w.drew.alloc (.cells ROW 31)).setRow H C1.toArray).heap → ∀ ty dc sc, (Builtin.copy_ #[22, 22] ty #[.slice (some ⟨H, (i + 1) * 7, none⟩) (A.length - i) dc, .slice (some ⟨g, i * 7, none⟩) (A.length - i) sc]).run Try.prog W =
      .ok (goInt (Nat.min (A.length - i) (A.length - i))) (W.setRow H (C1.toArray.toList.take ((i + 1) * 7) ++ (A.flatMap accC).drop (i * 7) ++ C1.toArray.toList.drop ((i + 1) * 7 + ((A.flatMap accC).drop (i * 7)).length)).toArray) := fun W hW ty dc sc =>
    run_copy_big W 22 22 ty 31 7 H ((i + 1) * 7) _ dc ⟨g, i * 7, none⟩ _ sc C1.toArray 31 _ hut hsz (hW2 W hW).1 (by rw [hZl]; simp only [Nat.min_def]; split <;> rfl)
      (fun j v h => by
        rw [Addr.add_lit, cell_of_row W g _ _ _ _ (hW2 W hW).2]
        have := hcell _ v (by rwa [List.getElem?_drop] at h)
        rwa [cell_of_row w g _ _ _ _ hg] at this) (by simpa using hfit2) (fun v h => acc_one A v (List.mem_of_mem_drop h))
  have HFin : Hid (∀ W : World, W.heap = (((w.drew.alloc (.cells ROW 31)).setRow H C1.toArray).setRow H (C1.toArray.toList.take ((i + 1) * 7) ++ (A.flatMap accC).drop (i * 7) ++ C1.toArray.toList.drop ((i + 1) * 7 + ((A.flatMap accC).drop (i * 7)).length)).toArray).heap → ∃ cur', W.heap[H]? = some (.cells cur' 31 (0, 0)) ∧ cur'.size = G * 7 ∧ cur'.toList.take ((A.length + 1) * 7) = (A.take i ++ x :: A.drop i).flatMap accC) := by
    intro W hW
    refine ⟨_, by rw [hW]; exact setRow_heap _ H _ _ _ _ (hW2 _ rfl).1, ?_, ?_⟩
    · rw [List.size_toArray, seg_len _ _ _ (by simpa using hfit2)]
      exact hC1l
    · rw [flat_ins accC_len A i (by omega) x]
      have e1 : (i + 1) * 7 = i * 7 + 7 := by rw [Nat.add_mul, Nat.one_mul]
      have hs := seg_grow ROW.toList (accC x) ((A.flatMap accC).drop (i * 7)) (i * 7) 7 hXl (by
        rw [← e1, show ROW.toList.length = C1.length by rw [Array.length_toList, hRs, hC1l]]; exact hfit2)
      have e2 : i * 7 + 7 + ((A.flatMap accC).drop (i * 7)).length = (A.length + 1) * 7 := by rw [← e1, hZl, ← Nat.add_mul]; congr 1; omega
      rw [e2, ← hC1] at hs
      rw [hRt] at hs
      show List.take _ _ = _
      rw [e1, e2]
      exact hs
  clear hcell hC1l hW1 hW2 hZl hXl htk hv hRs hRt hfit1 hfit2 hold hTl hg hROW hC1 hG hik hkk
  generalize (A.flatMap accC).drop (i * 7) = Z at hcpB HFin
  have hw1 : IntKind.i64.wrap ((i : Int) + 1) = (i : Int) + 1 := by rw [IntKind.wrap_i64]; omega
  have hb1 : (0 : Int) ≤ (i : Int) + 1 := by omega
  have htn : ((i : Int) + 1).toNat = i + 1 := by omega
  have hb2 : ¬ (G = i + 1) := by omega
  have hb3 : (i : Int) ≤ (A.length : Int) + 1 := by omega
  have hb4 : ¬ (G = i) := by omega
  have hb5 : (i : Int) + 1 ≤ (A.length : Int) + 1 := by omega
  have hb6 : ¬ (cap = i) := by omega
  have hb7 : (i : Int) ≤ (cap : Int) := by omega
  have hb8 : i ≤ A.length := by omega
  have HGM : Hid (A.length + 1 ≤ G ∧ G ≤ maxLen) := ⟨hGn, hG63⟩
  have hG64 : G ≤ 9223372036854775807 := by unfold maxLen at hG63; omega
  clear hG63
  rw [← hH] at hrz
  have HH : Hid (H = w.heap.size) := hH
  rw [← hH]
  clear hH
  have hE1 : ((w.alloc (.cells ROW 31)).drew).heap = (w.drew.alloc (.cells ROW 31)).heap := rfl
  have hE2 : (((w.alloc (.cells ROW 31)).drew.setRow H C1.toArray).drew).heap = ((w.drew.alloc (.cells ROW 31)).setRow H C1.toArray).heap := rfl
  go_enter Try.func52, Try.ntmps52
  go_wp2_with (first
    | (at_builtin; refine Lib.wpList_append_run _ rfl _ _ _ _ rfl _ _ rfl rfl _ _ (hrz _) ?_)
    | (at_builtin; refine wpList_copy_run _ rfl _ _ 22 22 rfl _ _ rfl rfl (hcpA _ hE1 _ _) ?_)
    | fail)
  refine wp_region_held_drew (S := (fun _ => True)) (by kernel_rfl) (by trivial) (fun hHeld => ?_)
  refine ty 0 46 hHeld ?_
  refine ty 1 47 hHeld ?_
  refine ty 2 48 hHeld ?_
  refine ty 3 49 hHeld ?_
  refine ty 4 50 hHeld ?_
  refine ty 5 51 hHeld ?_
  refine ty 6 52 hHeld ?_
  refine ty 7 53 hHeld ?_
  refine wpAnyH_ready (rs := [8]) (by kernel_rfl) (by simp) (AllReadyH.cons rfl (fun K hK => ?_) AllReadyH.nil)
  refine step_copy_run 54 rfl rfl (.tmp 50) (.tmp 53) 22 22 rfl (.slice (some ⟨H, (i + 1) * 7, none⟩) (A.length - i) (G - (i + 1))) (.slice (some ⟨g, i * 7, none⟩) (A.length - i) (cap - i)) rfl rfl (hcpB _ hE2 _ _ _) ?_
  refine hK.out _ _ (by trivial) (fun hHeldN => ?_)
  clear hHeld hK K
  have hHeld := hHeldN
  clear hHeldN
  refine wpAnyH_done (by kernel_rfl) ?_ _
  go_wp2
  go_ret
  exact ⟨G, rfl, HGM.out.1, HGM.out.2, HFin.out _ (by rw [List.append_assoc]; rfl), (((Gr.refl w).alloc.drew.setRow H (by rw [HH.out]; exact Nat.le_refl _) _).drew).setRow H (by rw [HH.out]; exact Nat.le_refl _) _⟩
set_option maxHeartbeats 2000000 in
set_option maxRecDepth 100000 in
theorem insA_end (A : List Acc) (x : Acc) (v : Value) (vb base : Nat) (w : World) (hn : A.length ≤ 1000000) (hb : base ≤ w.heap.size) (hown : w.ownsRow base 31 7 v A.length (A.flatMap accC)) (hv : w.heap[vb]? = some (.cells (accC x).toArray 31 (0, 0))) :
    Calls Try.prog 52 #[v, .int .i64 (A.length : Nat), .slice (some ⟨vb, 0, none⟩) 1 1] w fun e w' => ∃ v', e = .returned v' ∧ w'.ownsRow base 31 7 v' (A.length + 1) ((A ++ [x]).flatMap accC) ∧ w.grownBy w' v.ownBlock := by
  obtain ⟨i0, hi0, hz0, hz1, hz2⟩ := info_parts infoAcc
  have HN : Hid (∀ j u, ([x].flatMap accC)[j]? = some u → w.cell? ((⟨vb, 0, none⟩ : Addr).add j) = some u) := by
    intro j u h
    rw [Addr.add_lit, Nat.zero_add, cell_of_row w vb j _ _ _ hv]
    simpa using h
  have HO : Hid (w.ownsRow base 31 7 v A.length (A.flatMap accC)) := hown
  have hl1 : ([x].flatMap accC).length = 1 * 7 := flat_len accC_len [x]
  have hm1 : A.length + 1 ≤ maxLen := by unfold maxLen; omega
  obtain ⟨ad, cap, rfl, _, hc63, _⟩ := own_row hown
  clear hown hv
  go_enter Try.func52, Try.ntmps52
  go_wp2_with (first
    | (at_builtin; refine wpList_append_own _ rfl _ _ 22 rfl base 31 i0 (.agg #[.string ⟨#[]⟩, .int .i64 0, .int .i64 0, .int .i64 0, .int .i64 0, .int .i64 0, .int .i64 0]) 7 64 Try.underlying22 hi0 hz0 hz1 hz2 rfl (by decide) _ _ _ rfl HO.out ⟨vb, 0, none⟩ 1 1 ([x].flatMap accC) rfl hl1 HN.out (acc_one [x]) hm1 (by omega) hb ?_)
    | fail)
  all_goals
    intro v' w1 hown' hgrow _
    have HI : Hid (w1.ownsRow base 31 7 v' (A.length + 1) ((A ++ [x]).flatMap accC)) := by
      show World.ownsRow _ _ _ _ _ _ _
      rw [List.flatMap_append]; exact hown'
    have HG : Hid (w.grownBy w1 _) := hgrow
    clear hown' hgrow
    go_wp2
    go_ret
    exact ⟨v', rfl, HI.out, by have := HG.out; cases ad <;> exact this⟩
theorem insA_any (A : List Acc) (x : Acc) (i : Nat) (v : Value) (vb base : Nat) (w : World) (hi : i ≤ A.length) (hn : A.length ≤ 1000000) (hb : base ≤ w.heap.size) (hown : w.ownsRow base 31 7 v A.length (A.flatMap accC)) (hv : w.heap[vb]? = some (.cells (accC x).toArray 31 (0, 0))) (hvn : v.ownBlock ≠ some vb) :
    Calls Try.prog 52 #[v, .int .i64 (i : Nat), .slice (some ⟨vb, 0, none⟩) 1 1] w fun e w' => ∃ v', e = .returned v' ∧ w'.ownsRow base 31 7 v' (A.length + 1) ((A.take i ++ x :: A.drop i).flatMap accC) ∧ w.grownBy w' v.ownBlock := by
  by_cases he : i = A.length
  · subst he
    rw [List.take_length, List.drop_length]
    exact insA_end A x v vb base w hn hb hown hv
  · have hlt : i < A.length := by omega
    have hl : ((A.take i ++ x :: A.drop i).flatMap accC).length = (A.length + 1) * 7 := by
      rw [flat_len accC_len]; congr 1
      rw [List.length_append, List.length_cons, List.length_take, List.length_drop]; omega
    obtain ⟨_, ⟨rfl, h0⟩ | ⟨g, cap, cur, rfl, hbg, hg, hnc, hcm, hcs, htk⟩⟩ := hown
    · omega
    · by_cases hroom : A.length + 1 ≤ cap
      · refine (insA_shift A x i cap g vb cur w hlt hroom (fun e => hvn (by rw [e]; rfl)) hn hg hcs htk hv).mono ?_
        rintro e w' ⟨rfl, ⟨cur', h1, h2, h3⟩, hgr⟩
        exact ⟨_, rfl, ⟨hl, Or.inr ⟨g, cap, cur', rfl, hbg, h1, hroom, hcm, h2, h3⟩⟩, hgr⟩
      · refine (insA_grow A x i cap g vb cur w hlt hnc (by omega) hn hg htk hv).mono ?_
        rintro e w' ⟨G, rfl, hG1, hG2, ⟨cur', h1, h2, h3⟩, hgr⟩
        exact ⟨_, rfl, ⟨hl, Or.inr ⟨w.heap.size, G, cur', rfl, hb, h1, hG1, hG2, h2, h3⟩⟩, grownBy_new hgr _⟩
end Go.Proofs.Ytgidkmipecfjhaa
