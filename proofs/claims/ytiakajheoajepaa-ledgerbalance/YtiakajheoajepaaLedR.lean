/- ledger: State; a row with one account, one mark, put anew. -/
import Derived.Test.YtiakajheoajepaaLedQ
namespace Go.Proofs.Ytiakajheoajepaa
open Go.RowKit
open Led (Acc Mk)

theorem flat_at {α : Type} {f : α → List Value} {c : Nat} (hc : ∀ x, (f x).length = c) (h0 : 0 < c) (L : List α) (j : Nat) (hj : j / c < L.length) : (L.flatMap f)[j]? = (f L[j / c])[j % c]? := by
  have := flat_get hc L (j / c) hj (j % c) (Nat.mod_lt _ h0)
  rwa [Nat.div_add_mod' j c] at this
theorem flat_set {α : Type} {f : α → List Value} {c : Nat} (hc : ∀ x, (f x).length = c) (h0 : 0 < c) (L : List α) (p : Nat) (y : α) (hp : p < L.length) (j : Nat) : ((L.set p y).flatMap f)[j]? = if j / c = p then (f y)[j % c]? else (L.flatMap f)[j]? := by
  by_cases hj : j / c < L.length
  · rw [flat_at hc h0 (L.set p y) j (by rw [List.length_set]; exact hj), List.getElem_set]
    by_cases e : j / c = p
    · rw [if_pos e.symm, if_pos e]
    · rw [if_neg (fun h => e h.symm), if_neg e, flat_at hc h0 L j hj]
  · have hl : (L.length) * c ≤ j := by
      have := Nat.div_add_mod' j c
      have : L.length * c ≤ j / c * c := Nat.mul_le_mul_right _ (by omega)
      omega
    rw [List.getElem?_eq_none (by rw [flat_len hc, List.length_set]; exact hl), if_neg (by omega), List.getElem?_eq_none (by rw [flat_len hc]; exact hl)]
theorem own_put7 {w : World} {base g cap : Nat} {A : List Acc} (h : w.ownsRow base 31 7 (.slice (some ⟨g, 0, none⟩) A.length cap) A.length (A.flatMap accC)) (p : Nat) (hp : p < A.length) (y : Acc) :
    (((((((w.setCell ⟨g, p * 7, none⟩ (.string y.s)).setCell ⟨g, p * 7 + 1, none⟩ (.int .i64 y.a)).setCell ⟨g, p * 7 + 2, none⟩ (.int .i64 y.b)).setCell ⟨g, p * 7 + 3, none⟩ (.int .i64 y.c)).setCell ⟨g, p * 7 + 4, none⟩ (.int .i64 y.x)).setCell ⟨g, p * 7 + 5, none⟩ (.int .i64 y.y)).setCell ⟨g, p * 7 + 6, none⟩ (.int .i64 y.z)).ownsRow base 31 7 (.slice (some ⟨g, 0, none⟩) A.length cap) A.length ((A.set p y).flatMap accC) := by
  have h1 := ((((((((h.stored (p * 7) (.string y.s)).1.stored (p * 7 + 1) (.int .i64 y.a)).1.stored (p * 7 + 2) (.int .i64 y.b)).1.stored (p * 7 + 3) (.int .i64 y.c)).1.stored (p * 7 + 4) (.int .i64 y.x)).1.stored (p * 7 + 5) (.int .i64 y.y)).1.stored (p * 7 + 6) (.int .i64 y.z)).1)
  have e : (((((((A.flatMap accC).set (p * 7) (.string y.s)).set (p * 7 + 1) (.int .i64 y.a)).set (p * 7 + 2) (.int .i64 y.b)).set (p * 7 + 3) (.int .i64 y.c)).set (p * 7 + 4) (.int .i64 y.x)).set (p * 7 + 5) (.int .i64 y.y)).set (p * 7 + 6) (.int .i64 y.z) = (A.set p y).flatMap accC := by
    apply List.ext_getElem?
    intro j
    rw [flat_set accC_len (by omega) A p y hp j]
    have hl := flat_len accC_len A
    simp only [List.getElem?_set, List.length_set, hl]
    have hm : p * 7 + 7 ≤ A.length * 7 := by have := Nat.mul_le_mul_right 7 (show p + 1 ≤ A.length by omega); omega
    by_cases hj : j / 7 = p
    · rw [if_pos hj]
      have hc : j = p * 7 ∨ j = p * 7 + 1 ∨ j = p * 7 + 2 ∨ j = p * 7 + 3 ∨ j = p * 7 + 4 ∨ j = p * 7 + 5 ∨ j = p * 7 + 6 := by omega
      rcases hc with e | e | e | e | e | e | e <;> subst e
      · rw [if_neg (by omega), if_neg (by omega), if_neg (by omega), if_neg (by omega), if_neg (by omega), if_neg (by omega), if_pos rfl, if_pos (by omega), show p * 7 % 7 = 0 by omega]; rfl
      · rw [if_neg (by omega), if_neg (by omega), if_neg (by omega), if_neg (by omega), if_neg (by omega), if_pos rfl, if_pos (by omega), show (p * 7 + 1) % 7 = 1 by omega]; rfl
      · rw [if_neg (by omega), if_neg (by omega), if_neg (by omega), if_neg (by omega), if_pos rfl, if_pos (by omega), show (p * 7 + 2) % 7 = 2 by omega]; rfl
      · rw [if_neg (by omega), if_neg (by omega), if_neg (by omega), if_pos rfl, if_pos (by omega), show (p * 7 + 3) % 7 = 3 by omega]; rfl
      · rw [if_neg (by omega), if_neg (by omega), if_pos rfl, if_pos (by omega), show (p * 7 + 4) % 7 = 4 by omega]; rfl
      · rw [if_neg (by omega), if_pos rfl, if_pos (by omega), show (p * 7 + 5) % 7 = 5 by omega]; rfl
      · rw [if_pos rfl, if_pos (by omega), show (p * 7 + 6) % 7 = 6 by omega]; rfl
    · rw [if_neg hj, if_neg (by omega), if_neg (by omega), if_neg (by omega), if_neg (by omega), if_neg (by omega), if_neg (by omega), if_neg (by omega)]
  rwa [e] at h1
theorem own_putS {w : World} {base g cap : Nat} {M : List Mk} (h : w.ownsRow base 64 5 (.slice (some ⟨g, 0, none⟩) M.length cap) M.length (M.flatMap mkC)) (p : Nat) (hp : p < M.length) (st : Int) :
    (w.setCell ⟨g, p * 5 + 4, none⟩ (.int .i64 st)).ownsRow base 64 5 (.slice (some ⟨g, 0, none⟩) M.length cap) M.length ((M.set p { M[p] with st := st }).flatMap mkC) := by
  have h1 := (h.stored (p * 5 + 4) (.int .i64 st)).1
  have e : (M.flatMap mkC).set (p * 5 + 4) (.int .i64 st) = (M.set p { M[p] with st := st }).flatMap mkC := by
    apply List.ext_getElem?
    intro j
    rw [flat_set mkC_len (by omega) M p _ hp j]
    have hl := flat_len mkC_len M
    simp only [List.getElem?_set, hl]
    have hm : p * 5 + 5 ≤ M.length * 5 := by have := Nat.mul_le_mul_right 5 (show p + 1 ≤ M.length by omega); omega
    by_cases hj : j / 5 = p
    · rw [if_pos hj]
      have hat := flat_at mkC_len (by omega) M j (by omega)
      have hc : j = p * 5 ∨ j = p * 5 + 1 ∨ j = p * 5 + 2 ∨ j = p * 5 + 3 ∨ j = p * 5 + 4 := by omega
      have hpe : M[j / 5]'(by omega) = M[p] := by simp only [hj]
      rw [hpe] at hat
      rcases hc with e | e | e | e | e
      · rw [if_neg (by omega), hat, show j % 5 = 0 by omega]; rfl
      · rw [if_neg (by omega), hat, show j % 5 = 1 by omega]; rfl
      · rw [if_neg (by omega), hat, show j % 5 = 2 by omega]; rfl
      · rw [if_neg (by omega), hat, show j % 5 = 3 by omega]; rfl
      · rw [if_pos e.symm, if_pos (by omega), show j % 5 = 4 by omega]; rfl
    · rw [if_neg hj, if_neg (by omega)]
  rwa [e] at h1

set_option maxHeartbeats 2000000 in
set_option maxRecDepth 100000 in
theorem state7_any (A : List Acc) (M : List Mk) (s : ByteArray) (adA : Option Addr) (capA : Nat) (adM : Option Addr) (capM : Nat) (w : World) (h : LedAt w adA adM A M) :
    Calls Try.prog 16 #[.agg #[.slice adA A.length capA, .slice adM M.length capM], .string s] w fun e w' => e = .returned (.int .i64 (stateE A M s)) ∧ Gr w w' := by
  have HM : Hid (∀ w', Gr w w' → Calls Try.prog 14 #[.agg #[.slice adA A.length capA, .slice adM M.length capM]] w' fun e w2 => e = .returned (.int .i64 (mayL A M)) ∧ Gr w' w2) := fun w' g => (h.gr g).may capA capM
  have HL : Hid (MksAt w adM M) := h.m
  unfold stateE
  cases hm : Led.mayB A M with
  | false =>
    rw [mayL_no hm] at HM
    clear h hm
    go_enter Try.func16, Try.ntmps16
    go_wp2_with fail
    refine (HM.out _ ((Gr.refl _).alloc)).mono ?_
    rintro e w1 ⟨rfl, hg1⟩
    go_wp2
    go_ret
    exact ⟨rfl, (by repeat (first | exact Gr.refl _ | refine Gr.alloc ?_ | refine Gr.drew ?_ | refine Gr.trans ?_ (by assumption)))⟩
  | true =>
    rw [mayL_yes hm] at HM
    have hM := (Led.may_iff A M).1 hm
    have HF : Hid (∀ w', Gr w w' → Calls Try.prog 47 #[.slice adM M.length capM, .string s] w' fun e w2 => e = .returned (.tuple #[.int .i64 (Led.pos (Led.ky M) s : Nat), .bool (Led.hasB (Led.ky M) s)]) ∧ Gr w' w2) := fun w' g => findM_any M s adM capM w' (h.m.gr g) hM.um (by have := hM.lm; omega)
    simp only [if_true]
    cases hb : Led.hasB (Led.ky M) s with
    | false =>
      rw [hb] at HF
      generalize Led.pos (Led.ky M) s = p at *
      clear h hm hM hb
      go_enter Try.func16, Try.ntmps16
      go_wp2_with fail
      refine (HM.out _ ((Gr.refl _).alloc)).mono ?_
      rintro e w1 ⟨rfl, hg1⟩
      obtain ⟨b0, b1, _, _, bl⟩ := (TwoAt.new w (.slice adA A.length capA) (.slice adM M.length capM) 25 _ rfl).gr hg1
      have g1 : Gr w w1 := (by repeat (first | exact Gr.refl _ | refine Gr.alloc ?_ | refine Gr.drew ?_ | refine Gr.trans ?_ (by assumption)))
      go_wp2_with fail
      refine (HF.out _ g1).mono ?_
      rintro e w2 ⟨rfl, hg2⟩
      go_wp2
      go_ret
      exact ⟨rfl, g1.trans hg2⟩
    | true =>
      rw [hb] at HF
      obtain ⟨hp, _⟩ := Led.pos_mem hM.um ((Led.has_iff _ _).1 hb)
      rw [Led.ky_len] at hp
      obtain ⟨b, off, had, hbw, d0, d1, d2, d3, d4⟩ := (MksAt.at HL.out (Led.pos (Led.ky M) s) hp)
      have HE : Hid ((M[Led.pos (Led.ky M) s]?).elim 0 Mk.st = M[Led.pos (Led.ky M) s].st) := by show _ = _; rw [List.getElem?_eq_getElem hp]; rfl
      simp only [if_true]
      rw [HE.out]
      generalize M[Led.pos (Led.ky M) s].st = st at *
      clear HE
      generalize Led.pos (Led.ky M) s = p at *
      subst had
      have hpi : (p : Int) < (M.length : Int) := by omega
      clear h hm hM hb d0 d1 d2 d3
      go_enter Try.func16, Try.ntmps16
      go_wp2_with fail
      refine (HM.out _ ((Gr.refl _).alloc)).mono ?_
      rintro e w1 ⟨rfl, hg1⟩
      have B := (TwoAt.new w (.slice adA A.length capA) (.slice (some ⟨b, off, none⟩) M.length capM) 25 _ rfl).gr hg1
      have HB : Hid (TwoAt w1 w.heap.size (.slice adA A.length capA) (.slice (some ⟨b, off, none⟩) M.length capM)) := B
      obtain ⟨b0, b1, _, _, bl⟩ := B
      have g1 : Gr w w1 := (by repeat (first | exact Gr.refl _ | refine Gr.alloc ?_ | refine Gr.drew ?_ | refine Gr.trans ?_ (by assumption)))
      go_wp2_with fail
      refine (HF.out _ g1).mono ?_
      rintro e w2 ⟨rfl, hg2⟩
      have g2 : Gr w w2 := g1.trans hg2
      have e4 := g2.keep d4
      have hbw2 : b < w2.heap.size := Nat.lt_of_lt_of_le hbw g2.size
      obtain ⟨b0, b1, _, _, bl⟩ := HB.out.gr hg2
      go_wp2
      go_ret
      exact ⟨rfl, g2⟩
end Go.Proofs.Ytiakajheoajepaa
