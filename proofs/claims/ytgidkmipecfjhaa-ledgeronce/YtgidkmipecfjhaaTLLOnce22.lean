/- What the proof is made of, part 22. -/
import Derived.Test.YtgidkmipecfjhaaTLLOnce21
namespace Go.Proofs.Ytgidkmipecfjhaa
open Go.RowKit
open Led (Acc Mk)
structure Cal where
  kd : Int
  key : ByteArray
  k : Int
  t : ByteArray
  n : Int
def stE (A : List Acc) (M : List Mk) (q : Cal) : Int := if q.kd = 0 then openE A M q.t q.n else if q.kd = 1 then doE A M q.key q.k q.t q.n else if q.kd = 2 then endE Act.chUn 2 A M q.key else if q.kd = 3 then endE Act.chKe 3 A M q.key else 2
def stA (A : List Acc) (M : List Mk) (q : Cal) : List Acc := if stE A M q = 0 then (if q.kd = 0 then openA A q.t q.n else if q.kd = 1 then doA A M q.key q.k q.t q.n else if q.kd = 2 then endA Act.chUn 2 A M q.key else endA Act.chKe 3 A M q.key) else A
def stM (A : List Acc) (M : List Mk) (q : Cal) : List Mk := if stE A M q = 0 then (if q.kd = 0 then M else if q.kd = 1 then doM M q.key q.k q.t q.n else if q.kd = 2 then endM 2 M q.key else endM 3 M q.key) else M
theorem st_may {A : List Acc} {M : List Mk} (hm : Led.May A M) (q : Cal) : Led.May (stA A M q) (stM A M q) := by
  unfold stA stM
  by_cases he : stE A M q = 0
  · rw [if_pos he, if_pos he]
    unfold stE at he
    by_cases h0 : q.kd = 0
    · rw [if_pos h0] at he ⊢; rw [if_pos h0]; exact open_may he
    rw [if_neg h0] at he ⊢; rw [if_neg h0]
    by_cases h1 : q.kd = 1
    · rw [if_pos h1] at he ⊢; rw [if_pos h1]; exact do_may he
    rw [if_neg h1] at he ⊢; rw [if_neg h1]
    by_cases h2 : q.kd = 2
    · rw [if_pos h2] at he ⊢; rw [if_pos h2]; exact end_may (Or.inl ⟨rfl, rfl⟩) he
    rw [if_neg h2] at he ⊢; rw [if_neg h2]
    by_cases h3 : q.kd = 3
    · rw [if_pos h3] at he; exact end_may (Or.inr ⟨rfl, rfl⟩) he
    · rw [if_neg h3] at he; cases he
  · rw [if_neg he, if_neg he]; exact hm
theorem st_again {A : List Acc} {M : List Mk} {q : Cal} (he : stE A M q = 0) (hq : q.kd ≠ 0) : stE (stA A M q) (stM A M q) q = 0 ∧ stA (stA A M q) (stM A M q) q = stA A M q ∧ stM (stA A M q) (stM A M q) q = stM A M q := by
  by_cases h1 : q.kd = 1
  · have e1 : ∀ A M, stE A M q = doE A M q.key q.k q.t q.n := fun A M => by unfold stE; rw [if_neg hq, if_pos h1]
    rw [e1] at he
    have e2 : ∀ A M, doE A M q.key q.k q.t q.n = 0 → stA A M q = doA A M q.key q.k q.t q.n ∧ stM A M q = doM M q.key q.k q.t q.n := fun A M h => by unfold stA stM; rw [e1, if_pos h, if_pos h, if_neg hq, if_neg hq, if_pos h1, if_pos h1]; exact ⟨rfl, rfl⟩
    obtain ⟨a1, a2, a3⟩ := do_again he
    rw [(e2 A M he).1, (e2 A M he).2, e1, (e2 _ _ a1).1, (e2 _ _ a1).2]
    exact ⟨a1, a2, a3⟩
  by_cases h2 : q.kd = 2
  · have e1 : ∀ A M, stE A M q = endE Act.chUn 2 A M q.key := fun A M => by unfold stE; rw [if_neg hq, if_neg h1, if_pos h2]
    rw [e1] at he
    have e2 : ∀ A M, endE Act.chUn 2 A M q.key = 0 → stA A M q = endA Act.chUn 2 A M q.key ∧ stM A M q = endM 2 M q.key := fun A M h => by unfold stA stM; rw [e1, if_pos h, if_pos h, if_neg hq, if_neg hq, if_neg h1, if_neg h1, if_pos h2, if_pos h2]; exact ⟨rfl, rfl⟩
    obtain ⟨a1, a2, a3⟩ := end_again (Or.inl ⟨rfl, rfl⟩) he
    rw [(e2 A M he).1, (e2 A M he).2, e1, (e2 _ _ a1).1, (e2 _ _ a1).2]
    exact ⟨a1, a2, a3⟩
  by_cases h3 : q.kd = 3
  · have e1 : ∀ A M, stE A M q = endE Act.chKe 3 A M q.key := fun A M => by unfold stE; rw [if_neg hq, if_neg h1, if_neg h2, if_pos h3]
    rw [e1] at he
    have e2 : ∀ A M, endE Act.chKe 3 A M q.key = 0 → stA A M q = endA Act.chKe 3 A M q.key ∧ stM A M q = endM 3 M q.key := fun A M h => by unfold stA stM; rw [e1, if_pos h, if_pos h, if_neg hq, if_neg hq, if_neg h1, if_neg h1, if_neg h2, if_neg h2]; exact ⟨rfl, rfl⟩
    obtain ⟨a1, a2, a3⟩ := end_again (Or.inr ⟨rfl, rfl⟩) he
    rw [(e2 A M he).1, (e2 A M he).2, e1, (e2 _ _ a1).1, (e2 _ _ a1).2]
    exact ⟨a1, a2, a3⟩
  · unfold stE at he; rw [if_neg hq, if_neg h1, if_neg h2, if_neg h3] at he; cases he
theorem may_ranges {A : List Acc} {M : List Mk} (hm : Led.May A M) : (∀ x ∈ A, inA x) ∧ (∀ m ∈ M, inM m) := by
  refine ⟨fun x hx => ?_, fun m hx => ?_⟩
  · have h := hm.oa x hx
    have r := Act.acc_rng h
    have n := (Act.name_pos ((Act.acc_iff _ _ _ _ _ _ _).1 h).1).2
    unfold inA inI
    omega
  · obtain ⟨h1, h2, _, h4⟩ := (Led.mk_iff A m).1 (hm.om m hx)
    obtain ⟨⟨k1, k2⟩, hn, n1, n2⟩ := (Act.act_iff _ _ _).1 h2
    have n := (Act.name_pos hn).2
    unfold inM inI
    omega
def Fr {α : Type} (w : World) (o a : Option Addr) (L L' : List α) : Prop := (a = o ∧ L' = L) ∨ ∀ p, a = some p → w.heap.size ≤ p.block
theorem led_of {w : World} {a1 a2 : Option Addr} {A : List Acc} {M : List Mk} (hm : Led.May A M) (h1 : AccsAt w a1 A) (h2 : MksAt w a2 M) : LedAt w a1 a2 A M :=
  ⟨h1, h2, (may_ranges hm).1, (may_ranges hm).2, by have := hm.la; omega, by have := hm.lm; omega⟩
set_option maxHeartbeats 2000000 in
set_option maxRecDepth 100000 in
theorem does0_no (A : List Acc) (M : List Mk) (key : ByteArray) (k n : Int) (t : ByteArray) (adA : Option Addr) (capA : Nat) (adM : Option Addr) (capM : Nat) (w : World) (h : LedAt w adA adM A M) (_hk : key.size ≤ 9223372036854775807) (ht : t.size ≤ 9223372036854775807) (he : openE A M t n ≠ 0) :
    Calls Try.prog 27 #[.agg #[.slice adA A.length capA, .slice adM M.length capM], .agg #[.int .i64 0, .string key, .int .i64 k, .string t, .int .i64 n]] w fun e w' => e = .returned (.tuple #[.agg #[.slice adA A.length capA, .slice adM M.length capM], .bool false]) ∧ Gr w w' := by
  have HN : Hid (∀ w', Gr w w' → Calls Try.prog 18 #[.agg #[.slice adA A.length capA, .slice adM M.length capM], .string t, .int .i64 n] w' fun e w2 => e = .returned (.tuple #[.agg #[.slice none 0 0, .slice none 0 0], .int .i64 (openE A M t n)]) ∧ Gr w' w2) := fun w' g => open_no A M t n adA capA adM capM w' (h.gr g) ht he
  have hne : (openE A M t n != 0) = true := by simpa using he
  clear h he _hk ht
  generalize openE A M t n = er at *
  have n0 : ((0 : Int) == 0) = true := by decide
  go_enter Try.func27, Try.ntmps27
  go_wp2_with fail
  refine (HN.out _ ((Gr.refl _).alloc.alloc.alloc.alloc)).mono ?_
  rintro e w1 ⟨rfl, hg1⟩
  have g1 : Gr w w1 := (by repeat (first | exact Gr.refl _ | refine Gr.alloc ?_ | refine Gr.drew ?_ | refine Gr.trans ?_ (by assumption)))
  have HB1 : Hid (TwoAt w1 w.heap.size (.slice adA A.length capA) (.slice adM M.length capM)) := ((((TwoAt.new w _ _ _ _ rfl).gr (Gr.refl _).alloc).gr (Gr.refl _).alloc).gr (Gr.refl _).alloc).gr hg1
  have HR1 : Hid (TwoAt w1 (w.heap.size + 1 + 1) (.slice none 0 0) (.slice none 0 0)) := ((TwoAt.new _ _ _ _ (w.heap.size + 1 + 1) (by simp)).gr (Gr.refl _).alloc).gr hg1
  have HM1 : Hid (TwoAt w1 (w.heap.size + 1 + 1 + 1) (.slice none 0 0) (.slice none 0 0)) := (TwoAt.new _ _ _ _ (w.heap.size + 1 + 1 + 1) (by simp)).gr hg1
  obtain ⟨b0, b1, bf0, bf1, bl⟩ := HB1.out
  obtain ⟨r0, r1, f0, f1, rl⟩ := HR1.out
  obtain ⟨m0, m1, mf0, mf1, ml⟩ := HM1.out
  clear HB1 HR1 HM1
  clear hg1
  go_wp2
  exact bodyPost_ret (v := .tuple #[.agg #[.slice adA A.length capA, .slice adM M.length capM], .bool false]) (by simp [results, Try.results27, go_sem, *]) rfl ⟨rfl, (((g1.set _ (by simp; omega) _).set _ (by simp; omega) _).set _ (by simp; omega) _).set _ (by simp; omega) _⟩
set_option maxHeartbeats 2000000 in
set_option maxRecDepth 100000 in
theorem does0_yes (A : List Acc) (M : List Mk) (key : ByteArray) (k n : Int) (t : ByteArray) (adA : Option Addr) (capA : Nat) (adM : Option Addr) (capM : Nat) (w : World) (h : LedAt w adA adM A M) (_hk : key.size ≤ 9223372036854775807) (ht : t.size ≤ 9223372036854775807) (he : openE A M t n = 0) :
    Calls Try.prog 27 #[.agg #[.slice adA A.length capA, .slice adM M.length capM], .agg #[.int .i64 0, .string key, .int .i64 k, .string t, .int .i64 n]] w fun e w' => ∃ a1 c1 a2 c2, e = .returned (.tuple #[.agg #[.slice a1 (openA A t n).length c1, .slice a2 (M).length c2], .bool true]) ∧ AccsAt w' a1 (openA A t n) ∧ MksAt w' a2 (M) ∧ Fr w adA a1 A (openA A t n) ∧ Fr w adM a2 M (M) ∧ Gr w w' := by
  have HN : Hid (∀ w', Gr w w' → Calls Try.prog 18 #[.agg #[.slice adA A.length capA, .slice adM M.length capM], .string t, .int .i64 n] w' fun e w2 => ∃ a1 c1 a2 c2, e = .returned (.tuple #[.agg #[.slice a1 (openA A t n).length c1, .slice a2 (M).length c2], .int .i64 0]) ∧ AccsAt w2 a1 (openA A t n) ∧ MksAt w2 a2 (M) ∧ (∀ a, a1 = some a → w'.heap.size ≤ a.block) ∧ (∀ a, a2 = some a → w'.heap.size ≤ a.block) ∧ Gr w' w2) := fun w' g =>
    (open_yes A M t n adA capA adM capM w' (h.gr g) ht he).mono (by
      rintro e w2 ⟨v1, v2, rfl, o1, o2, g2⟩
      rw [← open_len A t n] at o1
      obtain ⟨a1, c1, rfl, _, _, q1, n1, _⟩ := own_row o1
      obtain ⟨a2, c2, rfl, _, _, q2, n2, _⟩ := own_row o2
      exact ⟨a1, c1, a2, c2, rfl, q1, q2, n1, n2, g2⟩)
  clear h he _hk ht
  generalize openA A t n = A2 at *

  obtain ⟨M2, hM2⟩ : ∃ x, x = M := ⟨_, rfl⟩
  have n0 : ((0 : Int) == 0) = true := by decide
  go_enter Try.func27, Try.ntmps27
  go_wp2_with fail
  refine (HN.out _ ((Gr.refl _).alloc.alloc.alloc.alloc)).mono ?_
  rintro e w1 ⟨x1, y1, x2, y2, rfl, ho1, ho2, hn1, hn2, hg1⟩
  have g1 : Gr w w1 := (by repeat (first | exact Gr.refl _ | refine Gr.alloc ?_ | refine Gr.drew ?_ | refine Gr.trans ?_ (by assumption)))
  have HB1 : Hid (TwoAt w1 w.heap.size (.slice adA A.length capA) (.slice adM M.length capM)) := ((((TwoAt.new w _ _ _ _ rfl).gr (Gr.refl _).alloc).gr (Gr.refl _).alloc).gr (Gr.refl _).alloc).gr hg1
  have HR1 : Hid (TwoAt w1 (w.heap.size + 1 + 1) (.slice none 0 0) (.slice none 0 0)) := ((TwoAt.new _ _ _ _ (w.heap.size + 1 + 1) (by simp)).gr (Gr.refl _).alloc).gr hg1
  have HM1 : Hid (TwoAt w1 (w.heap.size + 1 + 1 + 1) (.slice none 0 0) (.slice none 0 0)) := (TwoAt.new _ _ _ _ (w.heap.size + 1 + 1 + 1) (by simp)).gr hg1
  obtain ⟨b0, b1, bf0, bf1, bl⟩ := HB1.out
  obtain ⟨r0, r1, f0, f1, rl⟩ := HR1.out
  obtain ⟨m0, m1, mf0, mf1, ml⟩ := HM1.out
  clear HB1 HR1 HM1
  have HO1 : Hid (AccsAt w1 x1 A2) := ho1
  have HO2 : Hid (MksAt w1 x2 M) := ho2
  have HN1 : Hid (∀ a, x1 = some a → w.heap.size + 1 + 1 + 1 + 1 ≤ a.block) := fun a e => by have := hn1 a e; simp at this; exact this
  have HN2 : Hid (∀ a, x2 = some a → w.heap.size + 1 + 1 + 1 + 1 ≤ a.block) := fun a e => by have := hn2 a e; simp at this; exact this
  clear hg1 ho1 ho2 hn1 hn2
  go_wp2
  refine bodyPost_ret (v := .tuple #[.agg #[.slice x1 A2.length y1, .slice x2 M.length y2], .bool true]) (by simp [results, Try.results27, go_sem, *]) rfl ⟨_, _, _, _, rfl, ?_, ?_, Or.inr (fun p e => by have := HN1.out p e; omega), Or.inr (fun p e => by have := HN2.out p e; omega), (((g1.set _ (by simp; omega) _).set _ (by simp; omega) _).set _ (by simp; omega) _).set _ (by simp; omega) _⟩
  · exact (((HO1.out.setFar _ _ (fun a e => by have := HN1.out a e; simp; omega)).setFar _ _ (fun a e => by have := HN1.out a e; simp; omega)).setFar _ _ (fun a e => by have := HN1.out a e; simp; omega)).setFar _ _ (fun a e => by have := HN1.out a e; simp; omega)
  · exact (((HO2.out.setFar _ _ (fun a e => by have := HN2.out a e; simp; omega)).setFar _ _ (fun a e => by have := HN2.out a e; simp; omega)).setFar _ _ (fun a e => by have := HN2.out a e; simp; omega)).setFar _ _ (fun a e => by have := HN2.out a e; simp; omega)
set_option maxHeartbeats 2000000 in
set_option maxRecDepth 100000 in
theorem does1_no (A : List Acc) (M : List Mk) (key : ByteArray) (k n : Int) (t : ByteArray) (adA : Option Addr) (capA : Nat) (adM : Option Addr) (capM : Nat) (w : World) (h : LedAt w adA adM A M) (hk : key.size ≤ 9223372036854775807) (ht : t.size ≤ 9223372036854775807) (he : doE A M key k t n ≠ 0) :
    Calls Try.prog 27 #[.agg #[.slice adA A.length capA, .slice adM M.length capM], .agg #[.int .i64 1, .string key, .int .i64 k, .string t, .int .i64 n]] w fun e w' => e = .returned (.tuple #[.agg #[.slice adA A.length capA, .slice adM M.length capM], .bool false]) ∧ Gr w w' := by
  have HN : Hid (∀ w', Gr w w' → Calls Try.prog 20 #[.agg #[.slice adA A.length capA, .slice adM M.length capM], .string key, .agg #[.int .i64 k, .string t, .int .i64 n]] w' fun e w2 => e = .returned (.tuple #[.agg #[.slice none 0 0, .slice none 0 0], .int .i64 (doE A M key k t n)]) ∧ Gr w' w2) := fun w' g => do_no A M key k n t adA capA adM capM w' (h.gr g) hk ht he
  have hne : (doE A M key k t n != 0) = true := by simpa using he
  clear h he hk ht
  generalize doE A M key k t n = er at *
  have n0 : ((1 : Int) == 0) = false := by decide
  have n1 : ((1 : Int) == 1) = true := by decide
  go_enter Try.func27, Try.ntmps27
  go_wp2_with fail
  refine (HN.out _ ((Gr.refl _).alloc.alloc.alloc.alloc)).mono ?_
  rintro e w1 ⟨rfl, hg1⟩
  have g1 : Gr w w1 := (by repeat (first | exact Gr.refl _ | refine Gr.alloc ?_ | refine Gr.drew ?_ | refine Gr.trans ?_ (by assumption)))
  have HB1 : Hid (TwoAt w1 w.heap.size (.slice adA A.length capA) (.slice adM M.length capM)) := ((((TwoAt.new w _ _ _ _ rfl).gr (Gr.refl _).alloc).gr (Gr.refl _).alloc).gr (Gr.refl _).alloc).gr hg1
  have HR1 : Hid (TwoAt w1 (w.heap.size + 1 + 1) (.slice none 0 0) (.slice none 0 0)) := ((TwoAt.new _ _ _ _ (w.heap.size + 1 + 1) (by simp)).gr (Gr.refl _).alloc).gr hg1
  have HM1 : Hid (TwoAt w1 (w.heap.size + 1 + 1 + 1) (.slice none 0 0) (.slice none 0 0)) := (TwoAt.new _ _ _ _ (w.heap.size + 1 + 1 + 1) (by simp)).gr hg1
  obtain ⟨b0, b1, bf0, bf1, bl⟩ := HB1.out
  obtain ⟨r0, r1, f0, f1, rl⟩ := HR1.out
  obtain ⟨m0, m1, mf0, mf1, ml⟩ := HM1.out
  clear HB1 HR1 HM1
  clear hg1
  go_wp2
  exact bodyPost_ret (v := .tuple #[.agg #[.slice adA A.length capA, .slice adM M.length capM], .bool false]) (by simp [results, Try.results27, go_sem, *]) rfl ⟨rfl, (((g1.set _ (by simp; omega) _).set _ (by simp; omega) _).set _ (by simp; omega) _).set _ (by simp; omega) _⟩
set_option maxHeartbeats 2000000 in
set_option maxRecDepth 100000 in
theorem does1_yes (A : List Acc) (M : List Mk) (key : ByteArray) (k n : Int) (t : ByteArray) (adA : Option Addr) (capA : Nat) (adM : Option Addr) (capM : Nat) (w : World) (h : LedAt w adA adM A M) (hk : key.size ≤ 9223372036854775807) (ht : t.size ≤ 9223372036854775807) (he : doE A M key k t n = 0) :
    Calls Try.prog 27 #[.agg #[.slice adA A.length capA, .slice adM M.length capM], .agg #[.int .i64 1, .string key, .int .i64 k, .string t, .int .i64 n]] w fun e w' => ∃ a1 c1 a2 c2, e = .returned (.tuple #[.agg #[.slice a1 (doA A M key k t n).length c1, .slice a2 (doM M key k t n).length c2], .bool true]) ∧ AccsAt w' a1 (doA A M key k t n) ∧ MksAt w' a2 (doM M key k t n) ∧ Fr w adA a1 A (doA A M key k t n) ∧ Fr w adM a2 M (doM M key k t n) ∧ Gr w w' := by
  have HN : Hid (∀ w', Gr w w' → Calls Try.prog 20 #[.agg #[.slice adA A.length capA, .slice adM M.length capM], .string key, .agg #[.int .i64 k, .string t, .int .i64 n]] w' fun e w2 => ∃ a1 c1 a2 c2, e = .returned (.tuple #[.agg #[.slice a1 (doA A M key k t n).length c1, .slice a2 (doM M key k t n).length c2], .int .i64 0]) ∧ AccsAt w2 a1 (doA A M key k t n) ∧ MksAt w2 a2 (doM M key k t n) ∧ (∀ a, a1 = some a → w'.heap.size ≤ a.block) ∧ (∀ a, a2 = some a → w'.heap.size ≤ a.block) ∧ Gr w' w2) := fun w' g =>
    (do_yes A M key k n t adA capA adM capM w' (h.gr g) hk ht he).mono (by
      rintro e w2 ⟨v1, v2, rfl, o1, o2, g2⟩
      skip
      obtain ⟨a1, c1, rfl, _, _, q1, n1, _⟩ := own_row o1
      obtain ⟨a2, c2, rfl, _, _, q2, n2, _⟩ := own_row o2
      exact ⟨a1, c1, a2, c2, rfl, q1, q2, n1, n2, g2⟩)
  clear h he hk ht
  generalize doA A M key k t n = A2 at *

  generalize doM M key k t n = M2 at *
  have n0 : ((1 : Int) == 0) = false := by decide
  have n1 : ((1 : Int) == 1) = true := by decide
  go_enter Try.func27, Try.ntmps27
  go_wp2_with fail
  refine (HN.out _ ((Gr.refl _).alloc.alloc.alloc.alloc)).mono ?_
  rintro e w1 ⟨x1, y1, x2, y2, rfl, ho1, ho2, hn1, hn2, hg1⟩
  have g1 : Gr w w1 := (by repeat (first | exact Gr.refl _ | refine Gr.alloc ?_ | refine Gr.drew ?_ | refine Gr.trans ?_ (by assumption)))
  have HB1 : Hid (TwoAt w1 w.heap.size (.slice adA A.length capA) (.slice adM M.length capM)) := ((((TwoAt.new w _ _ _ _ rfl).gr (Gr.refl _).alloc).gr (Gr.refl _).alloc).gr (Gr.refl _).alloc).gr hg1
  have HR1 : Hid (TwoAt w1 (w.heap.size + 1 + 1) (.slice none 0 0) (.slice none 0 0)) := ((TwoAt.new _ _ _ _ (w.heap.size + 1 + 1) (by simp)).gr (Gr.refl _).alloc).gr hg1
  have HM1 : Hid (TwoAt w1 (w.heap.size + 1 + 1 + 1) (.slice none 0 0) (.slice none 0 0)) := (TwoAt.new _ _ _ _ (w.heap.size + 1 + 1 + 1) (by simp)).gr hg1
  obtain ⟨b0, b1, bf0, bf1, bl⟩ := HB1.out
  obtain ⟨r0, r1, f0, f1, rl⟩ := HR1.out
  obtain ⟨m0, m1, mf0, mf1, ml⟩ := HM1.out
  clear HB1 HR1 HM1
  have HO1 : Hid (AccsAt w1 x1 A2) := ho1
  have HO2 : Hid (MksAt w1 x2 M2) := ho2
  have HN1 : Hid (∀ a, x1 = some a → w.heap.size + 1 + 1 + 1 + 1 ≤ a.block) := fun a e => by have := hn1 a e; simp at this; exact this
  have HN2 : Hid (∀ a, x2 = some a → w.heap.size + 1 + 1 + 1 + 1 ≤ a.block) := fun a e => by have := hn2 a e; simp at this; exact this
  clear hg1 ho1 ho2 hn1 hn2
  go_wp2
  refine bodyPost_ret (v := .tuple #[.agg #[.slice x1 A2.length y1, .slice x2 M2.length y2], .bool true]) (by simp [results, Try.results27, go_sem, *]) rfl ⟨_, _, _, _, rfl, ?_, ?_, Or.inr (fun p e => by have := HN1.out p e; omega), Or.inr (fun p e => by have := HN2.out p e; omega), (((g1.set _ (by simp; omega) _).set _ (by simp; omega) _).set _ (by simp; omega) _).set _ (by simp; omega) _⟩
  · exact (((HO1.out.setFar _ _ (fun a e => by have := HN1.out a e; simp; omega)).setFar _ _ (fun a e => by have := HN1.out a e; simp; omega)).setFar _ _ (fun a e => by have := HN1.out a e; simp; omega)).setFar _ _ (fun a e => by have := HN1.out a e; simp; omega)
  · exact (((HO2.out.setFar _ _ (fun a e => by have := HN2.out a e; simp; omega)).setFar _ _ (fun a e => by have := HN2.out a e; simp; omega)).setFar _ _ (fun a e => by have := HN2.out a e; simp; omega)).setFar _ _ (fun a e => by have := HN2.out a e; simp; omega)
set_option maxHeartbeats 2000000 in
set_option maxRecDepth 100000 in
theorem does2_no (A : List Acc) (M : List Mk) (key : ByteArray) (k n : Int) (t : ByteArray) (adA : Option Addr) (capA : Nat) (adM : Option Addr) (capM : Nat) (w : World) (h : LedAt w adA adM A M) (hk : key.size ≤ 9223372036854775807) (_ht : t.size ≤ 9223372036854775807) (he : endE Act.chUn 2 A M key ≠ 0) :
    Calls Try.prog 27 #[.agg #[.slice adA A.length capA, .slice adM M.length capM], .agg #[.int .i64 2, .string key, .int .i64 k, .string t, .int .i64 n]] w fun e w' => e = .returned (.tuple #[.agg #[.slice adA A.length capA, .slice adM M.length capM], .bool false]) ∧ Gr w w' := by
  have HN : Hid (∀ w', Gr w w' → Calls Try.prog 22 #[.agg #[.slice adA A.length capA, .slice adM M.length capM], .string key] w' fun e w2 => e = .returned (.tuple #[.agg #[.slice none 0 0, .slice none 0 0], .int .i64 (endE Act.chUn 2 A M key)]) ∧ Gr w' w2) := fun w' g => ownU_no A M key adA capA adM capM w' (h.gr g) hk he
  have hne : (endE Act.chUn 2 A M key != 0) = true := by simpa using he
  clear h he hk _ht
  generalize endE Act.chUn 2 A M key = er at *
  have n0 : ((2 : Int) == 0) = false := by decide
  have n1 : ((2 : Int) == 1) = false := by decide
  have n2 : ((2 : Int) == 2) = true := by decide
  go_enter Try.func27, Try.ntmps27
  go_wp2_with fail
  refine (HN.out _ ((Gr.refl _).alloc.alloc.alloc.alloc)).mono ?_
  rintro e w1 ⟨rfl, hg1⟩
  have g1 : Gr w w1 := (by repeat (first | exact Gr.refl _ | refine Gr.alloc ?_ | refine Gr.drew ?_ | refine Gr.trans ?_ (by assumption)))
  have HB1 : Hid (TwoAt w1 w.heap.size (.slice adA A.length capA) (.slice adM M.length capM)) := ((((TwoAt.new w _ _ _ _ rfl).gr (Gr.refl _).alloc).gr (Gr.refl _).alloc).gr (Gr.refl _).alloc).gr hg1
  have HR1 : Hid (TwoAt w1 (w.heap.size + 1 + 1) (.slice none 0 0) (.slice none 0 0)) := ((TwoAt.new _ _ _ _ (w.heap.size + 1 + 1) (by simp)).gr (Gr.refl _).alloc).gr hg1
  have HM1 : Hid (TwoAt w1 (w.heap.size + 1 + 1 + 1) (.slice none 0 0) (.slice none 0 0)) := (TwoAt.new _ _ _ _ (w.heap.size + 1 + 1 + 1) (by simp)).gr hg1
  obtain ⟨b0, b1, bf0, bf1, bl⟩ := HB1.out
  obtain ⟨r0, r1, f0, f1, rl⟩ := HR1.out
  obtain ⟨m0, m1, mf0, mf1, ml⟩ := HM1.out
  clear HB1 HR1 HM1
  clear hg1
  go_wp2
  exact bodyPost_ret (v := .tuple #[.agg #[.slice adA A.length capA, .slice adM M.length capM], .bool false]) (by simp [results, Try.results27, go_sem, *]) rfl ⟨rfl, (((g1.set _ (by simp; omega) _).set _ (by simp; omega) _).set _ (by simp; omega) _).set _ (by simp; omega) _⟩
set_option maxHeartbeats 2000000 in
set_option maxRecDepth 100000 in
theorem does2_yes (A : List Acc) (M : List Mk) (key : ByteArray) (k n : Int) (t : ByteArray) (adA : Option Addr) (capA : Nat) (adM : Option Addr) (capM : Nat) (w : World) (h : LedAt w adA adM A M) (hk : key.size ≤ 9223372036854775807) (_ht : t.size ≤ 9223372036854775807) (he : endE Act.chUn 2 A M key = 0) :
    Calls Try.prog 27 #[.agg #[.slice adA A.length capA, .slice adM M.length capM], .agg #[.int .i64 2, .string key, .int .i64 k, .string t, .int .i64 n]] w fun e w' => ∃ a1 c1 a2 c2, e = .returned (.tuple #[.agg #[.slice a1 (endA Act.chUn 2 A M key).length c1, .slice a2 (endM 2 M key).length c2], .bool true]) ∧ AccsAt w' a1 (endA Act.chUn 2 A M key) ∧ MksAt w' a2 (endM 2 M key) ∧ Fr w adA a1 A (endA Act.chUn 2 A M key) ∧ Fr w adM a2 M (endM 2 M key) ∧ Gr w w' := by
  have HN : Hid (∀ w', Gr w w' → Calls Try.prog 22 #[.agg #[.slice adA A.length capA, .slice adM M.length capM], .string key] w' fun e w2 => ∃ a1 c1 a2 c2, e = .returned (.tuple #[.agg #[.slice a1 (endA Act.chUn 2 A M key).length c1, .slice a2 (endM 2 M key).length c2], .int .i64 0]) ∧ AccsAt w2 a1 (endA Act.chUn 2 A M key) ∧ MksAt w2 a2 (endM 2 M key) ∧ (∀ a, a1 = some a → w'.heap.size ≤ a.block) ∧ (∀ a, a2 = some a → w'.heap.size ≤ a.block) ∧ Gr w' w2) := fun w' g =>
    (ownU_yes A M key adA capA adM capM w' (h.gr g) hk he).mono (by
      rintro e w2 ⟨v1, v2, rfl, o1, o2, g2⟩
      skip
      obtain ⟨a1, c1, rfl, _, _, q1, n1, _⟩ := own_row o1
      obtain ⟨a2, c2, rfl, _, _, q2, n2, _⟩ := own_row o2
      exact ⟨a1, c1, a2, c2, rfl, q1, q2, n1, n2, g2⟩)
  clear h he hk _ht
  generalize endA Act.chUn 2 A M key = A2 at *

  generalize endM 2 M key = M2 at *
  have n0 : ((2 : Int) == 0) = false := by decide
  have n1 : ((2 : Int) == 1) = false := by decide
  have n2 : ((2 : Int) == 2) = true := by decide
  go_enter Try.func27, Try.ntmps27
  go_wp2_with fail
  refine (HN.out _ ((Gr.refl _).alloc.alloc.alloc.alloc)).mono ?_
  rintro e w1 ⟨x1, y1, x2, y2, rfl, ho1, ho2, hn1, hn2, hg1⟩
  have g1 : Gr w w1 := (by repeat (first | exact Gr.refl _ | refine Gr.alloc ?_ | refine Gr.drew ?_ | refine Gr.trans ?_ (by assumption)))
  have HB1 : Hid (TwoAt w1 w.heap.size (.slice adA A.length capA) (.slice adM M.length capM)) := ((((TwoAt.new w _ _ _ _ rfl).gr (Gr.refl _).alloc).gr (Gr.refl _).alloc).gr (Gr.refl _).alloc).gr hg1
  have HR1 : Hid (TwoAt w1 (w.heap.size + 1 + 1) (.slice none 0 0) (.slice none 0 0)) := ((TwoAt.new _ _ _ _ (w.heap.size + 1 + 1) (by simp)).gr (Gr.refl _).alloc).gr hg1
  have HM1 : Hid (TwoAt w1 (w.heap.size + 1 + 1 + 1) (.slice none 0 0) (.slice none 0 0)) := (TwoAt.new _ _ _ _ (w.heap.size + 1 + 1 + 1) (by simp)).gr hg1
  obtain ⟨b0, b1, bf0, bf1, bl⟩ := HB1.out
  obtain ⟨r0, r1, f0, f1, rl⟩ := HR1.out
  obtain ⟨m0, m1, mf0, mf1, ml⟩ := HM1.out
  clear HB1 HR1 HM1
  have HO1 : Hid (AccsAt w1 x1 A2) := ho1
  have HO2 : Hid (MksAt w1 x2 M2) := ho2
  have HN1 : Hid (∀ a, x1 = some a → w.heap.size + 1 + 1 + 1 + 1 ≤ a.block) := fun a e => by have := hn1 a e; simp at this; exact this
  have HN2 : Hid (∀ a, x2 = some a → w.heap.size + 1 + 1 + 1 + 1 ≤ a.block) := fun a e => by have := hn2 a e; simp at this; exact this
  clear hg1 ho1 ho2 hn1 hn2
  go_wp2
  refine bodyPost_ret (v := .tuple #[.agg #[.slice x1 A2.length y1, .slice x2 M2.length y2], .bool true]) (by simp [results, Try.results27, go_sem, *]) rfl ⟨_, _, _, _, rfl, ?_, ?_, Or.inr (fun p e => by have := HN1.out p e; omega), Or.inr (fun p e => by have := HN2.out p e; omega), (((g1.set _ (by simp; omega) _).set _ (by simp; omega) _).set _ (by simp; omega) _).set _ (by simp; omega) _⟩
  · exact (((HO1.out.setFar _ _ (fun a e => by have := HN1.out a e; simp; omega)).setFar _ _ (fun a e => by have := HN1.out a e; simp; omega)).setFar _ _ (fun a e => by have := HN1.out a e; simp; omega)).setFar _ _ (fun a e => by have := HN1.out a e; simp; omega)
  · exact (((HO2.out.setFar _ _ (fun a e => by have := HN2.out a e; simp; omega)).setFar _ _ (fun a e => by have := HN2.out a e; simp; omega)).setFar _ _ (fun a e => by have := HN2.out a e; simp; omega)).setFar _ _ (fun a e => by have := HN2.out a e; simp; omega)
set_option maxHeartbeats 2000000 in
set_option maxRecDepth 100000 in
theorem does3_no (A : List Acc) (M : List Mk) (key : ByteArray) (k n : Int) (t : ByteArray) (adA : Option Addr) (capA : Nat) (adM : Option Addr) (capM : Nat) (w : World) (h : LedAt w adA adM A M) (hk : key.size ≤ 9223372036854775807) (_ht : t.size ≤ 9223372036854775807) (he : endE Act.chKe 3 A M key ≠ 0) :
    Calls Try.prog 27 #[.agg #[.slice adA A.length capA, .slice adM M.length capM], .agg #[.int .i64 3, .string key, .int .i64 k, .string t, .int .i64 n]] w fun e w' => e = .returned (.tuple #[.agg #[.slice adA A.length capA, .slice adM M.length capM], .bool false]) ∧ Gr w w' := by
  have HN : Hid (∀ w', Gr w w' → Calls Try.prog 24 #[.agg #[.slice adA A.length capA, .slice adM M.length capM], .string key] w' fun e w2 => e = .returned (.tuple #[.agg #[.slice none 0 0, .slice none 0 0], .int .i64 (endE Act.chKe 3 A M key)]) ∧ Gr w' w2) := fun w' g => ownK_no A M key adA capA adM capM w' (h.gr g) hk he
  have hne : (endE Act.chKe 3 A M key != 0) = true := by simpa using he
  clear h he hk _ht
  generalize endE Act.chKe 3 A M key = er at *
  have n0 : ((3 : Int) == 0) = false := by decide
  have n1 : ((3 : Int) == 1) = false := by decide
  have n2 : ((3 : Int) == 2) = false := by decide
  have n3 : ((3 : Int) == 3) = true := by decide
  go_enter Try.func27, Try.ntmps27
  go_wp2_with fail
  refine (HN.out _ ((Gr.refl _).alloc.alloc.alloc.alloc)).mono ?_
  rintro e w1 ⟨rfl, hg1⟩
  have g1 : Gr w w1 := (by repeat (first | exact Gr.refl _ | refine Gr.alloc ?_ | refine Gr.drew ?_ | refine Gr.trans ?_ (by assumption)))
  have HB1 : Hid (TwoAt w1 w.heap.size (.slice adA A.length capA) (.slice adM M.length capM)) := ((((TwoAt.new w _ _ _ _ rfl).gr (Gr.refl _).alloc).gr (Gr.refl _).alloc).gr (Gr.refl _).alloc).gr hg1
  have HR1 : Hid (TwoAt w1 (w.heap.size + 1 + 1) (.slice none 0 0) (.slice none 0 0)) := ((TwoAt.new _ _ _ _ (w.heap.size + 1 + 1) (by simp)).gr (Gr.refl _).alloc).gr hg1
  have HM1 : Hid (TwoAt w1 (w.heap.size + 1 + 1 + 1) (.slice none 0 0) (.slice none 0 0)) := (TwoAt.new _ _ _ _ (w.heap.size + 1 + 1 + 1) (by simp)).gr hg1
  obtain ⟨b0, b1, bf0, bf1, bl⟩ := HB1.out
  obtain ⟨r0, r1, f0, f1, rl⟩ := HR1.out
  obtain ⟨m0, m1, mf0, mf1, ml⟩ := HM1.out
  clear HB1 HR1 HM1
  clear hg1
  go_wp2
  exact bodyPost_ret (v := .tuple #[.agg #[.slice adA A.length capA, .slice adM M.length capM], .bool false]) (by simp [results, Try.results27, go_sem, *]) rfl ⟨rfl, (((g1.set _ (by simp; omega) _).set _ (by simp; omega) _).set _ (by simp; omega) _).set _ (by simp; omega) _⟩
set_option maxHeartbeats 2000000 in
set_option maxRecDepth 100000 in
theorem does3_yes (A : List Acc) (M : List Mk) (key : ByteArray) (k n : Int) (t : ByteArray) (adA : Option Addr) (capA : Nat) (adM : Option Addr) (capM : Nat) (w : World) (h : LedAt w adA adM A M) (hk : key.size ≤ 9223372036854775807) (_ht : t.size ≤ 9223372036854775807) (he : endE Act.chKe 3 A M key = 0) :
    Calls Try.prog 27 #[.agg #[.slice adA A.length capA, .slice adM M.length capM], .agg #[.int .i64 3, .string key, .int .i64 k, .string t, .int .i64 n]] w fun e w' => ∃ a1 c1 a2 c2, e = .returned (.tuple #[.agg #[.slice a1 (endA Act.chKe 3 A M key).length c1, .slice a2 (endM 3 M key).length c2], .bool true]) ∧ AccsAt w' a1 (endA Act.chKe 3 A M key) ∧ MksAt w' a2 (endM 3 M key) ∧ Fr w adA a1 A (endA Act.chKe 3 A M key) ∧ Fr w adM a2 M (endM 3 M key) ∧ Gr w w' := by
  have HN : Hid (∀ w', Gr w w' → Calls Try.prog 24 #[.agg #[.slice adA A.length capA, .slice adM M.length capM], .string key] w' fun e w2 => ∃ a1 c1 a2 c2, e = .returned (.tuple #[.agg #[.slice a1 (endA Act.chKe 3 A M key).length c1, .slice a2 (endM 3 M key).length c2], .int .i64 0]) ∧ AccsAt w2 a1 (endA Act.chKe 3 A M key) ∧ MksAt w2 a2 (endM 3 M key) ∧ (∀ a, a1 = some a → w'.heap.size ≤ a.block) ∧ (∀ a, a2 = some a → w'.heap.size ≤ a.block) ∧ Gr w' w2) := fun w' g =>
    (ownK_yes A M key adA capA adM capM w' (h.gr g) hk he).mono (by
      rintro e w2 ⟨v1, v2, rfl, o1, o2, g2⟩
      skip
      obtain ⟨a1, c1, rfl, _, _, q1, n1, _⟩ := own_row o1
      obtain ⟨a2, c2, rfl, _, _, q2, n2, _⟩ := own_row o2
      exact ⟨a1, c1, a2, c2, rfl, q1, q2, n1, n2, g2⟩)
  clear h he hk _ht
  generalize endA Act.chKe 3 A M key = A2 at *

  generalize endM 3 M key = M2 at *
  have n0 : ((3 : Int) == 0) = false := by decide
  have n1 : ((3 : Int) == 1) = false := by decide
  have n2 : ((3 : Int) == 2) = false := by decide
  have n3 : ((3 : Int) == 3) = true := by decide
  go_enter Try.func27, Try.ntmps27
  go_wp2_with fail
  refine (HN.out _ ((Gr.refl _).alloc.alloc.alloc.alloc)).mono ?_
  rintro e w1 ⟨x1, y1, x2, y2, rfl, ho1, ho2, hn1, hn2, hg1⟩
  have g1 : Gr w w1 := (by repeat (first | exact Gr.refl _ | refine Gr.alloc ?_ | refine Gr.drew ?_ | refine Gr.trans ?_ (by assumption)))
  have HB1 : Hid (TwoAt w1 w.heap.size (.slice adA A.length capA) (.slice adM M.length capM)) := ((((TwoAt.new w _ _ _ _ rfl).gr (Gr.refl _).alloc).gr (Gr.refl _).alloc).gr (Gr.refl _).alloc).gr hg1
  have HR1 : Hid (TwoAt w1 (w.heap.size + 1 + 1) (.slice none 0 0) (.slice none 0 0)) := ((TwoAt.new _ _ _ _ (w.heap.size + 1 + 1) (by simp)).gr (Gr.refl _).alloc).gr hg1
  have HM1 : Hid (TwoAt w1 (w.heap.size + 1 + 1 + 1) (.slice none 0 0) (.slice none 0 0)) := (TwoAt.new _ _ _ _ (w.heap.size + 1 + 1 + 1) (by simp)).gr hg1
  obtain ⟨b0, b1, bf0, bf1, bl⟩ := HB1.out
  obtain ⟨r0, r1, f0, f1, rl⟩ := HR1.out
  obtain ⟨m0, m1, mf0, mf1, ml⟩ := HM1.out
  clear HB1 HR1 HM1
  have HO1 : Hid (AccsAt w1 x1 A2) := ho1
  have HO2 : Hid (MksAt w1 x2 M2) := ho2
  have HN1 : Hid (∀ a, x1 = some a → w.heap.size + 1 + 1 + 1 + 1 ≤ a.block) := fun a e => by have := hn1 a e; simp at this; exact this
  have HN2 : Hid (∀ a, x2 = some a → w.heap.size + 1 + 1 + 1 + 1 ≤ a.block) := fun a e => by have := hn2 a e; simp at this; exact this
  clear hg1 ho1 ho2 hn1 hn2
  go_wp2
  refine bodyPost_ret (v := .tuple #[.agg #[.slice x1 A2.length y1, .slice x2 M2.length y2], .bool true]) (by simp [results, Try.results27, go_sem, *]) rfl ⟨_, _, _, _, rfl, ?_, ?_, Or.inr (fun p e => by have := HN1.out p e; omega), Or.inr (fun p e => by have := HN2.out p e; omega), (((g1.set _ (by simp; omega) _).set _ (by simp; omega) _).set _ (by simp; omega) _).set _ (by simp; omega) _⟩
  · exact (((HO1.out.setFar _ _ (fun a e => by have := HN1.out a e; simp; omega)).setFar _ _ (fun a e => by have := HN1.out a e; simp; omega)).setFar _ _ (fun a e => by have := HN1.out a e; simp; omega)).setFar _ _ (fun a e => by have := HN1.out a e; simp; omega)
  · exact (((HO2.out.setFar _ _ (fun a e => by have := HN2.out a e; simp; omega)).setFar _ _ (fun a e => by have := HN2.out a e; simp; omega)).setFar _ _ (fun a e => by have := HN2.out a e; simp; omega)).setFar _ _ (fun a e => by have := HN2.out a e; simp; omega)
set_option maxHeartbeats 2000000 in
set_option maxRecDepth 100000 in
theorem doesX_no (A : List Acc) (M : List Mk) (kd : Int) (key : ByteArray) (k n : Int) (t : ByteArray) (adA : Option Addr) (capA : Nat) (adM : Option Addr) (capM : Nat) (w : World) (h0 : kd ≠ 0) (h1 : kd ≠ 1) (h2 : kd ≠ 2) (h3 : kd ≠ 3) :
    Calls Try.prog 27 #[.agg #[.slice adA A.length capA, .slice adM M.length capM], .agg #[.int .i64 kd, .string key, .int .i64 k, .string t, .int .i64 n]] w fun e w' => e = .returned (.tuple #[.agg #[.slice adA A.length capA, .slice adM M.length capM], .bool false]) ∧ Gr w w' := by
  have n0 : (kd == 0) = false := by simpa using h0
  have n1 : (kd == 1) = false := by simpa using h1
  have n2 : (kd == 2) = false := by simpa using h2
  have n3 : (kd == 3) = false := by simpa using h3
  clear h0 h1 h2 h3
  go_enter Try.func27, Try.ntmps27
  go_wp2
  exact bodyPost_ret (v := .tuple #[.agg #[.slice adA A.length capA, .slice adM M.length capM], .bool false]) (by simp [results, Try.results27, go_sem, *]) rfl ⟨rfl, (by (with_reducible repeat' (first | exact Gr.refl _ | refine Gr.set ?_ _ ?_ _ | refine Gr.alloc ?_ | refine Gr.drew ?_ | refine Gr.trans ?_ (by assumption))) <;> (first | (simp; done) | (simp; omega) | omega))⟩
theorem does_any (A : List Acc) (M : List Mk) (q : Cal) (adA : Option Addr) (capA : Nat) (adM : Option Addr) (capM : Nat) (w : World) (h : LedAt w adA adM A M) (hk : q.key.size ≤ 9223372036854775807) (ht : q.t.size ≤ 9223372036854775807) :
    Calls Try.prog 27 #[.agg #[.slice adA A.length capA, .slice adM M.length capM], .agg #[.int .i64 q.kd, .string q.key, .int .i64 q.k, .string q.t, .int .i64 q.n]] w fun e w' => ∃ a1 c1 a2 c2, e = .returned (.tuple #[.agg #[.slice a1 (stA A M q).length c1, .slice a2 (stM A M q).length c2], .bool (decide (stE A M q = 0))]) ∧ AccsAt w' a1 (stA A M q) ∧ MksAt w' a2 (stM A M q) ∧ Fr w adA a1 A (stA A M q) ∧ Fr w adM a2 M (stM A M q) ∧ Gr w w' := by
  obtain ⟨kd, key, k, t, n⟩ := q
  have hno : stE A M ⟨kd, key, k, t, n⟩ ≠ 0 → (Calls Try.prog 27 #[.agg #[.slice adA A.length capA, .slice adM M.length capM], .agg #[.int .i64 kd, .string key, .int .i64 k, .string t, .int .i64 n]] w fun e w' => e = .returned (.tuple #[.agg #[.slice adA A.length capA, .slice adM M.length capM], .bool false]) ∧ Gr w w') → Calls Try.prog 27 #[.agg #[.slice adA A.length capA, .slice adM M.length capM], .agg #[.int .i64 kd, .string key, .int .i64 k, .string t, .int .i64 n]] w fun e w' => ∃ a1 c1 a2 c2, e = .returned (.tuple #[.agg #[.slice a1 (stA A M ⟨kd, key, k, t, n⟩).length c1, .slice a2 (stM A M ⟨kd, key, k, t, n⟩).length c2], .bool (decide (stE A M ⟨kd, key, k, t, n⟩ = 0))]) ∧ AccsAt w' a1 (stA A M ⟨kd, key, k, t, n⟩) ∧ MksAt w' a2 (stM A M ⟨kd, key, k, t, n⟩) ∧ Fr w adA a1 A (stA A M ⟨kd, key, k, t, n⟩) ∧ Fr w adM a2 M (stM A M ⟨kd, key, k, t, n⟩) ∧ Gr w w' := by
    intro he hc
    refine hc.mono ?_
    rintro e w' ⟨rfl, g⟩
    have e1 : stA A M ⟨kd, key, k, t, n⟩ = A := by unfold stA; rw [if_neg he]
    have e2 : stM A M ⟨kd, key, k, t, n⟩ = M := by unfold stM; rw [if_neg he]
    rw [e1, e2, decide_eq_false he]
    exact ⟨_, _, _, _, rfl, h.a.gr g, h.m.gr g, Or.inl ⟨rfl, rfl⟩, Or.inl ⟨rfl, rfl⟩, g⟩
  by_cases he : stE A M ⟨kd, key, k, t, n⟩ = 0
  · rw [decide_eq_true he]
    have he' := he
    unfold stE at he'
    simp only at he'
    by_cases h0 : kd = 0
    · subst h0
      have e1 : stA A M ⟨0, key, k, t, n⟩ = openA A t n := by unfold stA; rw [if_pos he, if_pos rfl]
      have e2 : stM A M ⟨0, key, k, t, n⟩ = M := by unfold stM; rw [if_pos he, if_pos rfl]
      rw [e1, e2]; exact does0_yes A M key k n t adA capA adM capM w h hk ht he'
    rw [if_neg h0] at he'
    by_cases h1 : kd = 1
    · subst h1
      have e1 : stA A M ⟨1, key, k, t, n⟩ = doA A M key k t n := by unfold stA; rw [if_pos he, if_neg h0, if_pos rfl]
      have e2 : stM A M ⟨1, key, k, t, n⟩ = doM M key k t n := by unfold stM; rw [if_pos he, if_neg h0, if_pos rfl]
      rw [e1, e2]; exact does1_yes A M key k n t adA capA adM capM w h hk ht he'
    rw [if_neg h1] at he'
    by_cases h2 : kd = 2
    · subst h2
      have e1 : stA A M ⟨2, key, k, t, n⟩ = endA Act.chUn 2 A M key := by unfold stA; rw [if_pos he, if_neg h0, if_neg h1, if_pos rfl]
      have e2 : stM A M ⟨2, key, k, t, n⟩ = endM 2 M key := by unfold stM; rw [if_pos he, if_neg h0, if_neg h1, if_pos rfl]
      rw [e1, e2]; exact does2_yes A M key k n t adA capA adM capM w h hk ht he'
    rw [if_neg h2] at he'
    by_cases h3 : kd = 3
    · subst h3
      have e1 : stA A M ⟨3, key, k, t, n⟩ = endA Act.chKe 3 A M key := by unfold stA; rw [if_pos he, if_neg h0, if_neg h1, if_neg h2]
      have e2 : stM A M ⟨3, key, k, t, n⟩ = endM 3 M key := by unfold stM; rw [if_pos he, if_neg h0, if_neg h1, if_neg h2]
      rw [e1, e2]; exact does3_yes A M key k n t adA capA adM capM w h hk ht he'
    · rw [if_neg h3] at he'; cases he'
  · refine hno he ?_
    unfold stE at he
    simp only at he
    by_cases h0 : kd = 0
    · subst h0; exact does0_no A M key k n t adA capA adM capM w h hk ht he
    rw [if_neg h0] at he
    by_cases h1 : kd = 1
    · subst h1; exact does1_no A M key k n t adA capA adM capM w h hk ht he
    rw [if_neg h1] at he
    by_cases h2 : kd = 2
    · subst h2; exact does2_no A M key k n t adA capA adM capM w h hk ht he
    rw [if_neg h2] at he
    by_cases h3 : kd = 3
    · subst h3; exact does3_no A M key k n t adA capA adM capM w h hk ht he
    · exact doesX_no A M kd key k n t adA capA adM capM w h0 h1 h2 h3
end Go.Proofs.Ytgidkmipecfjhaa
namespace Go.Proofs.Ytgidkmipecfjhaa
open Go.RowKit
open Led (Acc Mk)
abbrev cashS : ByteArray := ⟨#[99, 97, 115, 104]⟩
abbrev keyS : ByteArray := ⟨#[107]⟩
theorem pos_one (s : ByteArray) : Led.pos [s] s = 0 := by unfold Led.pos; simp [Led.lt_irrefl]
def A1 : List Acc := [⟨cashS, 10, 0, 0, 0, 0, 0⟩]
def A2 : List Acc := [⟨cashS, 6, 0, 4, 0, 0, 0⟩]
def M1 : List Mk := [⟨keyS, 1, cashS, 4, 1⟩]
def M2 : List Mk := [⟨keyS, 1, cashS, 4, 2⟩]
theorem awk_open : openE [] [] cashS 10 = 0 := by decide +kernel
theorem awk_openA : openA [] cashS 10 = A1 := rfl
theorem atA1 : atA A1 cashS = ⟨cashS, 10, 0, 0, 0, 0, 0⟩ := by
  unfold atA; rw [show Led.nm A1 = [cashS] from rfl, pos_one]; rfl
theorem atA2 : atA A2 cashS = ⟨cashS, 6, 0, 4, 0, 0, 0⟩ := by
  unfold atA; rw [show Led.nm A2 = [cashS] from rfl, pos_one]; rfl
theorem atM1 : atM M1 keyS = ⟨keyS, 1, cashS, 4, 1⟩ := by
  unfold atM; rw [show Led.ky M1 = [keyS] from rfl, pos_one]; rfl
theorem awk_do : doE A1 [] keyS 1 cashS 4 = 0 := by
  have h1 : (Led.mayB A1 [] && Led.keyB keyS) = true := by decide +kernel
  have h2 : Act.actB 1 cashS 4 = true := by decide +kernel
  have h3 : Led.hasB (Led.ky []) keyS = false := rfl
  have h4 : Led.hasB (Led.nm A1) cashS = true := by decide +kernel
  unfold doE begE
  rw [if_pos h1, if_pos h2, h3, if_neg (by decide), if_pos h4, if_neg (by decide), atA1]
  decide +kernel
theorem awk_doA : doA A1 [] keyS 1 cashS 4 = A2 := by
  unfold doA
  rw [if_neg (show ¬ Led.hasB (Led.ky []) keyS = true by decide), atA1, show Led.nm A1 = [cashS] from rfl, pos_one]
  rfl
theorem awk_doM : doM [] keyS 1 cashS 4 = M1 := by
  unfold doM
  rw [if_neg (show ¬ Led.hasB (Led.ky []) keyS = true by decide)]
  rfl
theorem awk_may2 : Led.May A2 M1 := by have := do_may awk_do; rw [awk_doA, awk_doM] at this; exact this
theorem awk_again : doE A2 M1 keyS 1 cashS 4 = 0 ∧ doA A2 M1 keyS 1 cashS 4 = A2 ∧ doM M1 keyS 1 cashS 4 = M1 := by
  have := do_again awk_do; rw [awk_doA, awk_doM] at this; exact this
theorem awk_five : doE A2 M1 keyS 1 cashS 5 = 72 := by
  have h1 : (Led.mayB A2 M1 && Led.keyB keyS) = true := by rw [(Led.may_iff _ _).2 awk_may2]; decide +kernel
  have h2 : Act.actB 1 cashS 5 = true := by decide +kernel
  have h3 : Led.hasB (Led.ky M1) keyS = true := by decide +kernel
  unfold doE
  rw [if_pos h1, if_pos h2, if_pos h3, atM1, if_neg (by decide +kernel)]
theorem awk_end : endE Act.chUn 2 A2 M1 keyS = 0 := by
  have h1 : (Led.mayB A2 M1 && Led.keyB keyS) = true := by rw [(Led.may_iff _ _).2 awk_may2]; decide +kernel
  have h3 : Led.hasB (Led.ky M1) keyS = true := by decide +kernel
  unfold endE
  rw [if_pos h1, if_pos h3, atM1, if_neg (by decide), if_pos rfl, atA2]
  decide +kernel
theorem awk_endA : endA Act.chUn 2 A2 M1 keyS = A1 := by
  unfold endA
  rw [atM1, if_neg (by decide), atA2, show Led.nm A2 = [cashS] from rfl, pos_one]
  rfl
theorem awk_endM : endM 2 M1 keyS = M2 := by
  unfold endM
  rw [atM1, if_neg (by decide), show Led.ky M1 = [keyS] from rfl, pos_one]
  rfl
theorem awk_may3 : Led.May A1 M2 := by have := end_may (Or.inl ⟨rfl, rfl⟩) awk_end; rw [awk_endA, awk_endM] at this; exact this
theorem awk_find : findE A2 M1 cashS = ⟨cashS, 6, 0, 4, 0, 0, 0⟩ ∧ findB A2 M1 cashS = true := by
  have h4 : Led.hasB (Led.nm A2) cashS = true := by decide +kernel
  unfold findE findB
  rw [(Led.may_iff _ _).2 awk_may2, h4, if_pos rfl, if_pos rfl, show Led.nm A2 = [cashS] from rfl, pos_one]
  exact ⟨rfl, rfl⟩
theorem awk_state : stateE A1 M2 keyS = 2 := by
  have h4 : Led.hasB (Led.ky M2) keyS = true := by decide +kernel
  unfold stateE
  rw [(Led.may_iff _ _).2 awk_may3, h4, if_pos rfl, if_pos rfl, show Led.ky M2 = [keyS] from rfl, pos_one]
  rfl
theorem awk_none : mayL [accZ] [] = 2 := by decide +kernel
theorem awkOpen (w : World) : Calls Try.prog 18 #[.agg #[.slice none 0 0, .slice none 0 0], .string ⟨#[99, 97, 115, 104]⟩, .int .i64 10] w fun e w' => ∃ a1 c1 a2 c2, e = .returned (.tuple #[.agg #[.slice a1 1 c1, .slice a2 0 c2], .int .i64 0]) ∧ LedAt w' a1 a2 A1 [] ∧ Gr w w' :=
  (open_yes [] [] cashS 10 none 0 none 0 w ⟨RowAt.nil, RowAt.nil, by simp, by simp, by simp, by simp⟩ (by decide) awk_open).mono (by
    rintro e w2 ⟨v1, v2, rfl, o1, o2, g2⟩
    rw [awk_openA] at o1
    have o1 : w2.ownsRow w.heap.size _ 7 v1 A1.length (A1.flatMap accC) := o1
    obtain ⟨a1, c1, rfl, _, _, q1, _, _⟩ := own_row o1
    obtain ⟨a2, c2, rfl, _, _, q2, _, _⟩ := own_row o2
    exact ⟨a1, c1, a2, c2, rfl, led_of (by have := open_may awk_open; rw [awk_openA] at this; exact this) q1 q2, g2⟩)
theorem awkDo (a1 : Option Addr) (c1 : Nat) (a2 : Option Addr) (c2 : Nat) (w : World) (h : LedAt w a1 a2 A1 []) : Calls Try.prog 20 #[.agg #[.slice a1 1 c1, .slice a2 0 c2], .string ⟨#[107]⟩, .agg #[.int .i64 1, .string ⟨#[99, 97, 115, 104]⟩, .int .i64 4]] w fun e w' => ∃ a1 c1 a2 c2, e = .returned (.tuple #[.agg #[.slice a1 1 c1, .slice a2 1 c2], .int .i64 0]) ∧ LedAt w' a1 a2 A2 M1 ∧ (∀ a, a1 = some a → w.heap.size ≤ a.block) ∧ (∀ a, a2 = some a → w.heap.size ≤ a.block) ∧ Gr w w' :=
  (do_yes A1 [] keyS 1 4 cashS a1 c1 a2 c2 w h (by decide) (by decide) awk_do).mono (by
    rintro e w2 ⟨v1, v2, rfl, o1, o2, g2⟩
    rw [awk_doA] at o1
    rw [awk_doM] at o2
    obtain ⟨a1, c1, rfl, _, _, q1, n1, _⟩ := own_row o1
    obtain ⟨a2, c2, rfl, _, _, q2, n2, _⟩ := own_row o2
    exact ⟨a1, c1, a2, c2, rfl, led_of awk_may2 q1 q2, n1, n2, g2⟩)
theorem awkDo2 (a1 : Option Addr) (c1 : Nat) (a2 : Option Addr) (c2 : Nat) (w : World) (h : LedAt w a1 a2 A2 M1) : Calls Try.prog 20 #[.agg #[.slice a1 1 c1, .slice a2 1 c2], .string ⟨#[107]⟩, .agg #[.int .i64 1, .string ⟨#[99, 97, 115, 104]⟩, .int .i64 4]] w fun e w' => ∃ a1 c1 a2 c2, e = .returned (.tuple #[.agg #[.slice a1 1 c1, .slice a2 1 c2], .int .i64 0]) ∧ LedAt w' a1 a2 A2 M1 ∧ (∀ a, a1 = some a → w.heap.size ≤ a.block) ∧ (∀ a, a2 = some a → w.heap.size ≤ a.block) ∧ Gr w w' :=
  (do_yes A2 M1 keyS 1 4 cashS a1 c1 a2 c2 w h (by decide) (by decide) awk_again.1).mono (by
    rintro e w2 ⟨v1, v2, rfl, o1, o2, g2⟩
    rw [awk_again.2.1] at o1
    rw [awk_again.2.2] at o2
    obtain ⟨a1, c1, rfl, _, _, q1, n1, _⟩ := own_row o1
    obtain ⟨a2, c2, rfl, _, _, q2, n2, _⟩ := own_row o2
    exact ⟨a1, c1, a2, c2, rfl, led_of awk_may2 q1 q2, n1, n2, g2⟩)
theorem awkDo3 (a1 : Option Addr) (c1 : Nat) (a2 : Option Addr) (c2 : Nat) (w : World) (h : LedAt w a1 a2 A2 M1) : Calls Try.prog 20 #[.agg #[.slice a1 1 c1, .slice a2 1 c2], .string ⟨#[107]⟩, .agg #[.int .i64 1, .string ⟨#[99, 97, 115, 104]⟩, .int .i64 5]] w fun e w' => e = .returned (.tuple #[.agg #[.slice none 0 0, .slice none 0 0], .int .i64 72]) ∧ Gr w w' := by
  have := do_no A2 M1 keyS 1 5 cashS a1 c1 a2 c2 w h (by decide) (by decide) (by rw [awk_five]; decide)
  rw [awk_five] at this
  exact this
theorem awkUndo (a1 : Option Addr) (c1 : Nat) (a2 : Option Addr) (c2 : Nat) (w : World) (h : LedAt w a1 a2 A2 M1) : Calls Try.prog 22 #[.agg #[.slice a1 1 c1, .slice a2 1 c2], .string ⟨#[107]⟩] w fun e w' => ∃ a1 c1 a2 c2, e = .returned (.tuple #[.agg #[.slice a1 1 c1, .slice a2 1 c2], .int .i64 0]) ∧ LedAt w' a1 a2 A1 M2 ∧ Gr w w' :=
  (ownU_yes A2 M1 keyS a1 c1 a2 c2 w h (by decide) awk_end).mono (by
    rintro e w2 ⟨v1, v2, rfl, o1, o2, g2⟩
    rw [awk_endA] at o1
    rw [awk_endM] at o2
    obtain ⟨a1, c1, rfl, _, _, q1, _, _⟩ := own_row o1
    obtain ⟨a2, c2, rfl, _, _, q2, _, _⟩ := own_row o2
    exact ⟨a1, c1, a2, c2, rfl, led_of awk_may3 q1 q2, g2⟩)
theorem awkFind (a1 : Option Addr) (c1 : Nat) (a2 : Option Addr) (c2 : Nat) (w : World) (h : LedAt w a1 a2 A2 M1) : Calls Try.prog 10 #[.agg #[.slice a1 1 c1, .slice a2 1 c2], .string ⟨#[99, 97, 115, 104]⟩] w fun e w' => e = .returned (.tuple #[.agg #[.string ⟨#[99, 97, 115, 104]⟩, .int .i64 6, .int .i64 0, .int .i64 4, .int .i64 0, .int .i64 0, .int .i64 0], .bool true]) ∧ Gr w w' := by
  have := find7_any A2 M1 cashS a1 c1 a2 c2 w h
  rw [awk_find.1, awk_find.2] at this
  exact this
theorem awkState (a1 : Option Addr) (c1 : Nat) (a2 : Option Addr) (c2 : Nat) (w : World) (h : LedAt w a1 a2 A1 M2) : Calls Try.prog 16 #[.agg #[.slice a1 1 c1, .slice a2 1 c2], .string ⟨#[107]⟩] w fun e w' => e = .returned (.int .i64 2) ∧ Gr w w' := by
  have := state7_any A1 M2 keyS a1 c1 a2 c2 w h
  rw [awk_state] at this
  exact this
theorem awkMay (a1 : Option Addr) (c1 : Nat) (a2 : Option Addr) (c2 : Nat) (w : World) (h : AccsAt w a1 [accZ]) : Calls Try.prog 14 #[.agg #[.slice a1 1 c1, .slice a2 0 c2]] w fun e w' => e = .returned (.int .i64 2) ∧ Gr w w' := by
  have := may7_any [accZ] [] a1 c1 a2 c2 w h RowAt.nil (by intro x hx; simp at hx; subst hx; unfold inA inI accZ; decide +kernel) (by simp) (by simp) (by simp)
  rw [awk_none] at this
  exact this
end Go.Proofs.Ytgidkmipecfjhaa
