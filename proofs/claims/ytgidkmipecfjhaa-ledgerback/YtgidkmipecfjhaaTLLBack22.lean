/- What the proof is made of, part 22. -/
import Derived.Test.YtgidkmipecfjhaaTLLBack21
import Derived.Test.YtgidkmipecfjhaaRows
import Derived.ProofKit
import Derived.OpenShut
import Derived.Deep.SlicePairs
import Derived.Deep.Strs
import Derived.Deep.DeepCutAuto
namespace Go.Proofs.Ytgidkmipecfjhaa
open Go.RowKit
open Led (Acc Mk)
structure Cal where
  kd : Int
  key : ByteArray
  k : Int
  t : ByteArray
  n : Int
def stE (A : List Acc) (M : List Mk) (q : Cal) : Int := if q.kd = 0 then openE A M q.t q.n else if q.kd = 1 then doE A M q.key q.k q.t q.n else if q.kd = 2 then endE Act.chUn 2 A M q.key else if q.kd = 3 then endE Act.chKe 3 A M q.key else 2
def stA (A : List Acc) (M : List Mk) (q : Cal) : List Acc := if stE A M q = 0 then (if q.kd = 0 then openA A q.t q.n else if q.kd = 1 then doA A M q.key q.k q.t q.n else if q.kd = 2 then endA Act.chUn 2 A M q.key else endA Act.chKe 3 A M q.key) else A
def stM (A : List Acc) (M : List Mk) (q : Cal) : List Mk := if stE A M q = 0 then (if q.kd = 0 then M else if q.kd = 1 then doM M q.key q.k q.t q.n else if q.kd = 2 then endM 2 M q.key else endM 3 M q.key) else M
theorem st_may {A : List Acc} {M : List Mk} (hm : Led.May A M) (q : Cal) : Led.May (stA A M q) (stM A M q) := by
  unfold stA stM
  by_cases he : stE A M q = 0
  · rw [if_pos he, if_pos he]
    unfold stE at he
    by_cases h0 : q.kd = 0
    · rw [if_pos h0] at he ⊢; rw [if_pos h0]; exact open_may he
    rw [if_neg h0] at he ⊢; rw [if_neg h0]
    by_cases h1 : q.kd = 1
    · rw [if_pos h1] at he ⊢; rw [if_pos h1]; exact do_may he
    rw [if_neg h1] at he ⊢; rw [if_neg h1]
    by_cases h2 : q.kd = 2
    · rw [if_pos h2] at he ⊢; rw [if_pos h2]; exact end_may (Or.inl ⟨rfl, rfl⟩) he
    rw [if_neg h2] at he ⊢; rw [if_neg h2]
    by_cases h3 : q.kd = 3
    · rw [if_pos h3] at he; exact end_may (Or.inr ⟨rfl, rfl⟩) he
    · rw [if_neg h3] at he; cases he
  · rw [if_neg he, if_neg he]; exact hm
theorem may_ranges {A : List Acc} {M : List Mk} (hm : Led.May A M) : (∀ x ∈ A, inA x) ∧ (∀ m ∈ M, inM m) := by
  refine ⟨fun x hx => ?_, fun m hx => ?_⟩
  · have h := hm.oa x hx
    have r := Act.acc_rng h
    have n := (Act.name_pos ((Act.acc_iff _ _ _ _ _ _ _).1 h).1).2
    unfold inA inI
    omega
  · obtain ⟨h1, h2, _, h4⟩ := (Led.mk_iff A m).1 (hm.om m hx)
    obtain ⟨⟨k1, k2⟩, hn, n1, n2⟩ := (Act.act_iff _ _ _).1 h2
    have n := (Act.name_pos hn).2
    unfold inM inI
    omega
def Fr {α : Type} (w : World) (o a : Option Addr) (L L' : List α) : Prop := (a = o ∧ L' = L) ∨ ∀ p, a = some p → w.heap.size ≤ p.block
theorem led_of {w : World} {a1 a2 : Option Addr} {A : List Acc} {M : List Mk} (hm : Led.May A M) (h1 : AccsAt w a1 A) (h2 : MksAt w a2 M) : LedAt w a1 a2 A M :=
  ⟨h1, h2, (may_ranges hm).1, (may_ranges hm).2, by have := hm.la; omega, by have := hm.lm; omega⟩
set_option maxHeartbeats 2000000 in
set_option maxRecDepth 100000 in
theorem does0_no (A : List Acc) (M : List Mk) (key : ByteArray) (k n : Int) (t : ByteArray) (adA : Option Addr) (capA : Nat) (adM : Option Addr) (capM : Nat) (w : World) (h : LedAt w adA adM A M) (_hk : key.size ≤ 9223372036854775807) (ht : t.size ≤ 9223372036854775807) (he : openE A M t n ≠ 0) :
    Calls Try.prog 27 #[.agg #[.slice adA A.length capA, .slice adM M.length capM], .agg #[.int .i64 0, .string key, .int .i64 k, .string t, .int .i64 n]] w fun e w' => e = .returned (.tuple #[.agg #[.slice adA A.length capA, .slice adM M.length capM], .bool false]) ∧ Gr w w' := by
  have HN : Hid (∀ w', Gr w w' → Calls Try.prog 18 #[.agg #[.slice adA A.length capA, .slice adM M.length capM], .string t, .int .i64 n] w' fun e w2 => e = .returned (.tuple #[.agg #[.slice none 0 0, .slice none 0 0], .int .i64 (openE A M t n)]) ∧ Gr w' w2) := fun w' g => open_no A M t n adA capA adM capM w' (h.gr g) ht he
  have hne : (openE A M t n != 0) = true := by simpa using he
  clear h he _hk ht
  generalize openE A M t n = er at *
  have n0 : ((0 : Int) == 0) = true := by decide
  go_enter Try.func27, Try.ntmps27
  go_wp2_with fail
  refine (HN.out _ ((Gr.refl _).alloc.alloc.alloc.alloc)).mono ?_
  rintro e w1 ⟨rfl, hg1⟩
  have g1 : Gr w w1 := (by repeat (first | exact Gr.refl _ | refine Gr.alloc ?_ | refine Gr.drew ?_ | refine Gr.trans ?_ (by assumption)))
  have HB1 : Hid (TwoAt w1 w.heap.size (.slice adA A.length capA) (.slice adM M.length capM)) := ((((TwoAt.new w _ _ _ _ rfl).gr (Gr.refl _).alloc).gr (Gr.refl _).alloc).gr (Gr.refl _).alloc).gr hg1
  have HR1 : Hid (TwoAt w1 (w.heap.size + 1 + 1) (.slice none 0 0) (.slice none 0 0)) := ((TwoAt.new _ _ _ _ (w.heap.size + 1 + 1) (by simp)).gr (Gr.refl _).alloc).gr hg1
  have HM1 : Hid (TwoAt w1 (w.heap.size + 1 + 1 + 1) (.slice none 0 0) (.slice none 0 0)) := (TwoAt.new _ _ _ _ (w.heap.size + 1 + 1 + 1) (by simp)).gr hg1
  obtain ⟨b0, b1, bf0, bf1, bl⟩ := HB1.out
  obtain ⟨r0, r1, f0, f1, rl⟩ := HR1.out
  obtain ⟨m0, m1, mf0, mf1, ml⟩ := HM1.out
  clear HB1 HR1 HM1
  clear hg1
  go_wp2
  exact bodyPost_ret (v := .tuple #[.agg #[.slice adA A.length capA, .slice adM M.length capM], .bool false]) (by simp [results, Try.results27, go_sem, *]) rfl ⟨rfl, (((g1.set _ (by simp; omega) _).set _ (by simp; omega) _).set _ (by simp; omega) _).set _ (by simp; omega) _⟩
set_option maxHeartbeats 2000000 in
set_option maxRecDepth 100000 in
theorem does0_yes (A : List Acc) (M : List Mk) (key : ByteArray) (k n : Int) (t : ByteArray) (adA : Option Addr) (capA : Nat) (adM : Option Addr) (capM : Nat) (w : World) (h : LedAt w adA adM A M) (_hk : key.size ≤ 9223372036854775807) (ht : t.size ≤ 9223372036854775807) (he : openE A M t n = 0) :
    Calls Try.prog 27 #[.agg #[.slice adA A.length capA, .slice adM M.length capM], .agg #[.int .i64 0, .string key, .int .i64 k, .string t, .int .i64 n]] w fun e w' => ∃ a1 c1 a2 c2, e = .returned (.tuple #[.agg #[.slice a1 (openA A t n).length c1, .slice a2 (M).length c2], .bool true]) ∧ AccsAt w' a1 (openA A t n) ∧ MksAt w' a2 (M) ∧ Fr w adA a1 A (openA A t n) ∧ Fr w adM a2 M (M) ∧ Gr w w' := by
  have HN : Hid (∀ w', Gr w w' → Calls Try.prog 18 #[.agg #[.slice adA A.length capA, .slice adM M.length capM], .string t, .int .i64 n] w' fun e w2 => ∃ a1 c1 a2 c2, e = .returned (.tuple #[.agg #[.slice a1 (openA A t n).length c1, .slice a2 (M).length c2], .int .i64 0]) ∧ AccsAt w2 a1 (openA A t n) ∧ MksAt w2 a2 (M) ∧ (∀ a, a1 = some a → w'.heap.size ≤ a.block) ∧ (∀ a, a2 = some a → w'.heap.size ≤ a.block) ∧ Gr w' w2) := fun w' g =>
    (open_yes A M t n adA capA adM capM w' (h.gr g) ht he).mono (by
      rintro e w2 ⟨v1, v2, rfl, o1, o2, g2⟩
      rw [← open_len A t n] at o1
      obtain ⟨a1, c1, rfl, _, _, q1, n1, _⟩ := own_row o1
      obtain ⟨a2, c2, rfl, _, _, q2, n2, _⟩ := own_row o2
      exact ⟨a1, c1, a2, c2, rfl, q1, q2, n1, n2, g2⟩)
  clear h he _hk ht
  generalize openA A t n = A2 at *

  obtain ⟨M2, hM2⟩ : ∃ x, x = M := ⟨_, rfl⟩
  have n0 : ((0 : Int) == 0) = true := by decide
  go_enter Try.func27, Try.ntmps27
  go_wp2_with fail
  refine (HN.out _ ((Gr.refl _).alloc.alloc.alloc.alloc)).mono ?_
  rintro e w1 ⟨x1, y1, x2, y2, rfl, ho1, ho2, hn1, hn2, hg1⟩
  have g1 : Gr w w1 := (by repeat (first | exact Gr.refl _ | refine Gr.alloc ?_ | refine Gr.drew ?_ | refine Gr.trans ?_ (by assumption)))
  have HB1 : Hid (TwoAt w1 w.heap.size (.slice adA A.length capA) (.slice adM M.length capM)) := ((((TwoAt.new w _ _ _ _ rfl).gr (Gr.refl _).alloc).gr (Gr.refl _).alloc).gr (Gr.refl _).alloc).gr hg1
  have HR1 : Hid (TwoAt w1 (w.heap.size + 1 + 1) (.slice none 0 0) (.slice none 0 0)) := ((TwoAt.new _ _ _ _ (w.heap.size + 1 + 1) (by simp)).gr (Gr.refl _).alloc).gr hg1
  have HM1 : Hid (TwoAt w1 (w.heap.size + 1 + 1 + 1) (.slice none 0 0) (.slice none 0 0)) := (TwoAt.new _ _ _ _ (w.heap.size + 1 + 1 + 1) (by simp)).gr hg1
  obtain ⟨b0, b1, bf0, bf1, bl⟩ := HB1.out
  obtain ⟨r0, r1, f0, f1, rl⟩ := HR1.out
  obtain ⟨m0, m1, mf0, mf1, ml⟩ := HM1.out
  clear HB1 HR1 HM1
  have HO1 : Hid (AccsAt w1 x1 A2) := ho1
  have HO2 : Hid (MksAt w1 x2 M) := ho2
  have HN1 : Hid (∀ a, x1 = some a → w.heap.size + 1 + 1 + 1 + 1 ≤ a.block) := fun a e => by have := hn1 a e; simp at this; exact this
  have HN2 : Hid (∀ a, x2 = some a → w.heap.size + 1 + 1 + 1 + 1 ≤ a.block) := fun a e => by have := hn2 a e; simp at this; exact this
  clear hg1 ho1 ho2 hn1 hn2
  go_wp2
  refine bodyPost_ret (v := .tuple #[.agg #[.slice x1 A2.length y1, .slice x2 M.length y2], .bool true]) (by simp [results, Try.results27, go_sem, *]) rfl ⟨_, _, _, _, rfl, ?_, ?_, Or.inr (fun p e => by have := HN1.out p e; omega), Or.inr (fun p e => by have := HN2.out p e; omega), (((g1.set _ (by simp; omega) _).set _ (by simp; omega) _).set _ (by simp; omega) _).set _ (by simp; omega) _⟩
  · exact (((HO1.out.setFar _ _ (fun a e => by have := HN1.out a e; simp; omega)).setFar _ _ (fun a e => by have := HN1.out a e; simp; omega)).setFar _ _ (fun a e => by have := HN1.out a e; simp; omega)).setFar _ _ (fun a e => by have := HN1.out a e; simp; omega)
  · exact (((HO2.out.setFar _ _ (fun a e => by have := HN2.out a e; simp; omega)).setFar _ _ (fun a e => by have := HN2.out a e; simp; omega)).setFar _ _ (fun a e => by have := HN2.out a e; simp; omega)).setFar _ _ (fun a e => by have := HN2.out a e; simp; omega)
set_option maxHeartbeats 2000000 in
set_option maxRecDepth 100000 in
theorem does1_no (A : List Acc) (M : List Mk) (key : ByteArray) (k n : Int) (t : ByteArray) (adA : Option Addr) (capA : Nat) (adM : Option Addr) (capM : Nat) (w : World) (h : LedAt w adA adM A M) (hk : key.size ≤ 9223372036854775807) (ht : t.size ≤ 9223372036854775807) (he : doE A M key k t n ≠ 0) :
    Calls Try.prog 27 #[.agg #[.slice adA A.length capA, .slice adM M.length capM], .agg #[.int .i64 1, .string key, .int .i64 k, .string t, .int .i64 n]] w fun e w' => e = .returned (.tuple #[.agg #[.slice adA A.length capA, .slice adM M.length capM], .bool false]) ∧ Gr w w' := by
  have HN : Hid (∀ w', Gr w w' → Calls Try.prog 20 #[.agg #[.slice adA A.length capA, .slice adM M.length capM], .string key, .agg #[.int .i64 k, .string t, .int .i64 n]] w' fun e w2 => e = .returned (.tuple #[.agg #[.slice none 0 0, .slice none 0 0], .int .i64 (doE A M key k t n)]) ∧ Gr w' w2) := fun w' g => do_no A M key k n t adA capA adM capM w' (h.gr g) hk ht he
  have hne : (doE A M key k t n != 0) = true := by simpa using he
  clear h he hk ht
  generalize doE A M key k t n = er at *
  have n0 : ((1 : Int) == 0) = false := by decide
  have n1 : ((1 : Int) == 1) = true := by decide
  go_enter Try.func27, Try.ntmps27
  go_wp2_with fail
  refine (HN.out _ ((Gr.refl _).alloc.alloc.alloc.alloc)).mono ?_
  rintro e w1 ⟨rfl, hg1⟩
  have g1 : Gr w w1 := (by repeat (first | exact Gr.refl _ | refine Gr.alloc ?_ | refine Gr.drew ?_ | refine Gr.trans ?_ (by assumption)))
  have HB1 : Hid (TwoAt w1 w.heap.size (.slice adA A.length capA) (.slice adM M.length capM)) := ((((TwoAt.new w _ _ _ _ rfl).gr (Gr.refl _).alloc).gr (Gr.refl _).alloc).gr (Gr.refl _).alloc).gr hg1
  have HR1 : Hid (TwoAt w1 (w.heap.size + 1 + 1) (.slice none 0 0) (.slice none 0 0)) := ((TwoAt.new _ _ _ _ (w.heap.size + 1 + 1) (by simp)).gr (Gr.refl _).alloc).gr hg1
  have HM1 : Hid (TwoAt w1 (w.heap.size + 1 + 1 + 1) (.slice none 0 0) (.slice none 0 0)) := (TwoAt.new _ _ _ _ (w.heap.size + 1 + 1 + 1) (by simp)).gr hg1
  obtain ⟨b0, b1, bf0, bf1, bl⟩ := HB1.out
  obtain ⟨r0, r1, f0, f1, rl⟩ := HR1.out
  obtain ⟨m0, m1, mf0, mf1, ml⟩ := HM1.out
  clear HB1 HR1 HM1
  clear hg1
  go_wp2
  exact bodyPost_ret (v := .tuple #[.agg #[.slice adA A.length capA, .slice adM M.length capM], .bool false]) (by simp [results, Try.results27, go_sem, *]) rfl ⟨rfl, (((g1.set _ (by simp; omega) _).set _ (by simp; omega) _).set _ (by simp; omega) _).set _ (by simp; omega) _⟩
set_option maxHeartbeats 2000000 in
set_option maxRecDepth 100000 in
theorem does1_yes (A : List Acc) (M : List Mk) (key : ByteArray) (k n : Int) (t : ByteArray) (adA : Option Addr) (capA : Nat) (adM : Option Addr) (capM : Nat) (w : World) (h : LedAt w adA adM A M) (hk : key.size ≤ 9223372036854775807) (ht : t.size ≤ 9223372036854775807) (he : doE A M key k t n = 0) :
    Calls Try.prog 27 #[.agg #[.slice adA A.length capA, .slice adM M.length capM], .agg #[.int .i64 1, .string key, .int .i64 k, .string t, .int .i64 n]] w fun e w' => ∃ a1 c1 a2 c2, e = .returned (.tuple #[.agg #[.slice a1 (doA A M key k t n).length c1, .slice a2 (doM M key k t n).length c2], .bool true]) ∧ AccsAt w' a1 (doA A M key k t n) ∧ MksAt w' a2 (doM M key k t n) ∧ Fr w adA a1 A (doA A M key k t n) ∧ Fr w adM a2 M (doM M key k t n) ∧ Gr w w' := by
  have HN : Hid (∀ w', Gr w w' → Calls Try.prog 20 #[.agg #[.slice adA A.length capA, .slice adM M.length capM], .string key, .agg #[.int .i64 k, .string t, .int .i64 n]] w' fun e w2 => ∃ a1 c1 a2 c2, e = .returned (.tuple #[.agg #[.slice a1 (doA A M key k t n).length c1, .slice a2 (doM M key k t n).length c2], .int .i64 0]) ∧ AccsAt w2 a1 (doA A M key k t n) ∧ MksAt w2 a2 (doM M key k t n) ∧ (∀ a, a1 = some a → w'.heap.size ≤ a.block) ∧ (∀ a, a2 = some a → w'.heap.size ≤ a.block) ∧ Gr w' w2) := fun w' g =>
    (do_yes A M key k n t adA capA adM capM w' (h.gr g) hk ht he).mono (by
      rintro e w2 ⟨v1, v2, rfl, o1, o2, g2⟩
      skip
      obtain ⟨a1, c1, rfl, _, _, q1, n1, _⟩ := own_row o1
      obtain ⟨a2, c2, rfl, _, _, q2, n2, _⟩ := own_row o2
      exact ⟨a1, c1, a2, c2, rfl, q1, q2, n1, n2, g2⟩)
  clear h he hk ht
  generalize doA A M key k t n = A2 at *

  generalize doM M key k t n = M2 at *
  have n0 : ((1 : Int) == 0) = false := by decide
  have n1 : ((1 : Int) == 1) = true := by decide
  go_enter Try.func27, Try.ntmps27
  go_wp2_with fail
  refine (HN.out _ ((Gr.refl _).alloc.alloc.alloc.alloc)).mono ?_
  rintro e w1 ⟨x1, y1, x2, y2, rfl, ho1, ho2, hn1, hn2, hg1⟩
  have g1 : Gr w w1 := (by repeat (first | exact Gr.refl _ | refine Gr.alloc ?_ | refine Gr.drew ?_ | refine Gr.trans ?_ (by assumption)))
  have HB1 : Hid (TwoAt w1 w.heap.size (.slice adA A.length capA) (.slice adM M.length capM)) := ((((TwoAt.new w _ _ _ _ rfl).gr (Gr.refl _).alloc).gr (Gr.refl _).alloc).gr (Gr.refl _).alloc).gr hg1
  have HR1 : Hid (TwoAt w1 (w.heap.size + 1 + 1) (.slice none 0 0) (.slice none 0 0)) := ((TwoAt.new _ _ _ _ (w.heap.size + 1 + 1) (by simp)).gr (Gr.refl _).alloc).gr hg1
  have HM1 : Hid (TwoAt w1 (w.heap.size + 1 + 1 + 1) (.slice none 0 0) (.slice none 0 0)) := (TwoAt.new _ _ _ _ (w.heap.size + 1 + 1 + 1) (by simp)).gr hg1
  obtain ⟨b0, b1, bf0, bf1, bl⟩ := HB1.out
  obtain ⟨r0, r1, f0, f1, rl⟩ := HR1.out
  obtain ⟨m0, m1, mf0, mf1, ml⟩ := HM1.out
  clear HB1 HR1 HM1
  have HO1 : Hid (AccsAt w1 x1 A2) := ho1
  have HO2 : Hid (MksAt w1 x2 M2) := ho2
  have HN1 : Hid (∀ a, x1 = some a → w.heap.size + 1 + 1 + 1 + 1 ≤ a.block) := fun a e => by have := hn1 a e; simp at this; exact this
  have HN2 : Hid (∀ a, x2 = some a → w.heap.size + 1 + 1 + 1 + 1 ≤ a.block) := fun a e => by have := hn2 a e; simp at this; exact this
  clear hg1 ho1 ho2 hn1 hn2
  go_wp2
  refine bodyPost_ret (v := .tuple #[.agg #[.slice x1 A2.length y1, .slice x2 M2.length y2], .bool true]) (by simp [results, Try.results27, go_sem, *]) rfl ⟨_, _, _, _, rfl, ?_, ?_, Or.inr (fun p e => by have := HN1.out p e; omega), Or.inr (fun p e => by have := HN2.out p e; omega), (((g1.set _ (by simp; omega) _).set _ (by simp; omega) _).set _ (by simp; omega) _).set _ (by simp; omega) _⟩
  · exact (((HO1.out.setFar _ _ (fun a e => by have := HN1.out a e; simp; omega)).setFar _ _ (fun a e => by have := HN1.out a e; simp; omega)).setFar _ _ (fun a e => by have := HN1.out a e; simp; omega)).setFar _ _ (fun a e => by have := HN1.out a e; simp; omega)
  · exact (((HO2.out.setFar _ _ (fun a e => by have := HN2.out a e; simp; omega)).setFar _ _ (fun a e => by have := HN2.out a e; simp; omega)).setFar _ _ (fun a e => by have := HN2.out a e; simp; omega)).setFar _ _ (fun a e => by have := HN2.out a e; simp; omega)
set_option maxHeartbeats 2000000 in
set_option maxRecDepth 100000 in
theorem does2_no (A : List Acc) (M : List Mk) (key : ByteArray) (k n : Int) (t : ByteArray) (adA : Option Addr) (capA : Nat) (adM : Option Addr) (capM : Nat) (w : World) (h : LedAt w adA adM A M) (hk : key.size ≤ 9223372036854775807) (_ht : t.size ≤ 9223372036854775807) (he : endE Act.chUn 2 A M key ≠ 0) :
    Calls Try.prog 27 #[.agg #[.slice adA A.length capA, .slice adM M.length capM], .agg #[.int .i64 2, .string key, .int .i64 k, .string t, .int .i64 n]] w fun e w' => e = .returned (.tuple #[.agg #[.slice adA A.length capA, .slice adM M.length capM], .bool false]) ∧ Gr w w' := by
  have HN : Hid (∀ w', Gr w w' → Calls Try.prog 22 #[.agg #[.slice adA A.length capA, .slice adM M.length capM], .string key] w' fun e w2 => e = .returned (.tuple #[.agg #[.slice none 0 0, .slice none 0 0], .int .i64 (endE Act.chUn 2 A M key)]) ∧ Gr w' w2) := fun w' g => ownU_no A M key adA capA adM capM w' (h.gr g) hk he
  have hne : (endE Act.chUn 2 A M key != 0) = true := by simpa using he
  clear h he hk _ht
  generalize endE Act.chUn 2 A M key = er at *
  have n0 : ((2 : Int) == 0) = false := by decide
  have n1 : ((2 : Int) == 1) = false := by decide
  have n2 : ((2 : Int) == 2) = true := by decide
  go_enter Try.func27, Try.ntmps27
  go_wp2_with fail
  refine (HN.out _ ((Gr.refl _).alloc.alloc.alloc.alloc)).mono ?_
  rintro e w1 ⟨rfl, hg1⟩
  have g1 : Gr w w1 := (by repeat (first | exact Gr.refl _ | refine Gr.alloc ?_ | refine Gr.drew ?_ | refine Gr.trans ?_ (by assumption)))
  have HB1 : Hid (TwoAt w1 w.heap.size (.slice adA A.length capA) (.slice adM M.length capM)) := ((((TwoAt.new w _ _ _ _ rfl).gr (Gr.refl _).alloc).gr (Gr.refl _).alloc).gr (Gr.refl _).alloc).gr hg1
  have HR1 : Hid (TwoAt w1 (w.heap.size + 1 + 1) (.slice none 0 0) (.slice none 0 0)) := ((TwoAt.new _ _ _ _ (w.heap.size + 1 + 1) (by simp)).gr (Gr.refl _).alloc).gr hg1
  have HM1 : Hid (TwoAt w1 (w.heap.size + 1 + 1 + 1) (.slice none 0 0) (.slice none 0 0)) := (TwoAt.new _ _ _ _ (w.heap.size + 1 + 1 + 1) (by simp)).gr hg1
  obtain ⟨b0, b1, bf0, bf1, bl⟩ := HB1.out
  obtain ⟨r0, r1, f0, f1, rl⟩ := HR1.out
  obtain ⟨m0, m1, mf0, mf1, ml⟩ := HM1.out
  clear HB1 HR1 HM1
  clear hg1
  go_wp2
  exact bodyPost_ret (v := .tuple #[.agg #[.slice adA A.length capA, .slice adM M.length capM], .bool false]) (by simp [results, Try.results27, go_sem, *]) rfl ⟨rfl, (((g1.set _ (by simp; omega) _).set _ (by simp; omega) _).set _ (by simp; omega) _).set _ (by simp; omega) _⟩
set_option maxHeartbeats 2000000 in
set_option maxRecDepth 100000 in
theorem does2_yes (A : List Acc) (M : List Mk) (key : ByteArray) (k n : Int) (t : ByteArray) (adA : Option Addr) (capA : Nat) (adM : Option Addr) (capM : Nat) (w : World) (h : LedAt w adA adM A M) (hk : key.size ≤ 9223372036854775807) (_ht : t.size ≤ 9223372036854775807) (he : endE Act.chUn 2 A M key = 0) :
    Calls Try.prog 27 #[.agg #[.slice adA A.length capA, .slice adM M.length capM], .agg #[.int .i64 2, .string key, .int .i64 k, .string t, .int .i64 n]] w fun e w' => ∃ a1 c1 a2 c2, e = .returned (.tuple #[.agg #[.slice a1 (endA Act.chUn 2 A M key).length c1, .slice a2 (endM 2 M key).length c2], .bool true]) ∧ AccsAt w' a1 (endA Act.chUn 2 A M key) ∧ MksAt w' a2 (endM 2 M key) ∧ Fr w adA a1 A (endA Act.chUn 2 A M key) ∧ Fr w adM a2 M (endM 2 M key) ∧ Gr w w' := by
  have HN : Hid (∀ w', Gr w w' → Calls Try.prog 22 #[.agg #[.slice adA A.length capA, .slice adM M.length capM], .string key] w' fun e w2 => ∃ a1 c1 a2 c2, e = .returned (.tuple #[.agg #[.slice a1 (endA Act.chUn 2 A M key).length c1, .slice a2 (endM 2 M key).length c2], .int .i64 0]) ∧ AccsAt w2 a1 (endA Act.chUn 2 A M key) ∧ MksAt w2 a2 (endM 2 M key) ∧ (∀ a, a1 = some a → w'.heap.size ≤ a.block) ∧ (∀ a, a2 = some a → w'.heap.size ≤ a.block) ∧ Gr w' w2) := fun w' g =>
    (ownU_yes A M key adA capA adM capM w' (h.gr g) hk he).mono (by
      rintro e w2 ⟨v1, v2, rfl, o1, o2, g2⟩
      skip
      obtain ⟨a1, c1, rfl, _, _, q1, n1, _⟩ := own_row o1
      obtain ⟨a2, c2, rfl, _, _, q2, n2, _⟩ := own_row o2
      exact ⟨a1, c1, a2, c2, rfl, q1, q2, n1, n2, g2⟩)
  clear h he hk _ht
  generalize endA Act.chUn 2 A M key = A2 at *

  generalize endM 2 M key = M2 at *
  have n0 : ((2 : Int) == 0) = false := by decide
  have n1 : ((2 : Int) == 1) = false := by decide
  have n2 : ((2 : Int) == 2) = true := by decide
  go_enter Try.func27, Try.ntmps27
  go_wp2_with fail
  refine (HN.out _ ((Gr.refl _).alloc.alloc.alloc.alloc)).mono ?_
  rintro e w1 ⟨x1, y1, x2, y2, rfl, ho1, ho2, hn1, hn2, hg1⟩
  have g1 : Gr w w1 := (by repeat (first | exact Gr.refl _ | refine Gr.alloc ?_ | refine Gr.drew ?_ | refine Gr.trans ?_ (by assumption)))
  have HB1 : Hid (TwoAt w1 w.heap.size (.slice adA A.length capA) (.slice adM M.length capM)) := ((((TwoAt.new w _ _ _ _ rfl).gr (Gr.refl _).alloc).gr (Gr.refl _).alloc).gr (Gr.refl _).alloc).gr hg1
  have HR1 : Hid (TwoAt w1 (w.heap.size + 1 + 1) (.slice none 0 0) (.slice none 0 0)) := ((TwoAt.new _ _ _ _ (w.heap.size + 1 + 1) (by simp)).gr (Gr.refl _).alloc).gr hg1
  have HM1 : Hid (TwoAt w1 (w.heap.size + 1 + 1 + 1) (.slice none 0 0) (.slice none 0 0)) := (TwoAt.new _ _ _ _ (w.heap.size + 1 + 1 + 1) (by simp)).gr hg1
  obtain ⟨b0, b1, bf0, bf1, bl⟩ := HB1.out
  obtain ⟨r0, r1, f0, f1, rl⟩ := HR1.out
  obtain ⟨m0, m1, mf0, mf1, ml⟩ := HM1.out
  clear HB1 HR1 HM1
  have HO1 : Hid (AccsAt w1 x1 A2) := ho1
  have HO2 : Hid (MksAt w1 x2 M2) := ho2
  have HN1 : Hid (∀ a, x1 = some a → w.heap.size + 1 + 1 + 1 + 1 ≤ a.block) := fun a e => by have := hn1 a e; simp at this; exact this
  have HN2 : Hid (∀ a, x2 = some a → w.heap.size + 1 + 1 + 1 + 1 ≤ a.block) := fun a e => by have := hn2 a e; simp at this; exact this
  clear hg1 ho1 ho2 hn1 hn2
  go_wp2
  refine bodyPost_ret (v := .tuple #[.agg #[.slice x1 A2.length y1, .slice x2 M2.length y2], .bool true]) (by simp [results, Try.results27, go_sem, *]) rfl ⟨_, _, _, _, rfl, ?_, ?_, Or.inr (fun p e => by have := HN1.out p e; omega), Or.inr (fun p e => by have := HN2.out p e; omega), (((g1.set _ (by simp; omega) _).set _ (by simp; omega) _).set _ (by simp; omega) _).set _ (by simp; omega) _⟩
  · exact (((HO1.out.setFar _ _ (fun a e => by have := HN1.out a e; simp; omega)).setFar _ _ (fun a e => by have := HN1.out a e; simp; omega)).setFar _ _ (fun a e => by have := HN1.out a e; simp; omega)).setFar _ _ (fun a e => by have := HN1.out a e; simp; omega)
  · exact (((HO2.out.setFar _ _ (fun a e => by have := HN2.out a e; simp; omega)).setFar _ _ (fun a e => by have := HN2.out a e; simp; omega)).setFar _ _ (fun a e => by have := HN2.out a e; simp; omega)).setFar _ _ (fun a e => by have := HN2.out a e; simp; omega)
set_option maxHeartbeats 2000000 in
set_option maxRecDepth 100000 in
theorem does3_no (A : List Acc) (M : List Mk) (key : ByteArray) (k n : Int) (t : ByteArray) (adA : Option Addr) (capA : Nat) (adM : Option Addr) (capM : Nat) (w : World) (h : LedAt w adA adM A M) (hk : key.size ≤ 9223372036854775807) (_ht : t.size ≤ 9223372036854775807) (he : endE Act.chKe 3 A M key ≠ 0) :
    Calls Try.prog 27 #[.agg #[.slice adA A.length capA, .slice adM M.length capM], .agg #[.int .i64 3, .string key, .int .i64 k, .string t, .int .i64 n]] w fun e w' => e = .returned (.tuple #[.agg #[.slice adA A.length capA, .slice adM M.length capM], .bool false]) ∧ Gr w w' := by
  have HN : Hid (∀ w', Gr w w' → Calls Try.prog 24 #[.agg #[.slice adA A.length capA, .slice adM M.length capM], .string key] w' fun e w2 => e = .returned (.tuple #[.agg #[.slice none 0 0, .slice none 0 0], .int .i64 (endE Act.chKe 3 A M key)]) ∧ Gr w' w2) := fun w' g => ownK_no A M key adA capA adM capM w' (h.gr g) hk he
  have hne : (endE Act.chKe 3 A M key != 0) = true := by simpa using he
  clear h he hk _ht
  generalize endE Act.chKe 3 A M key = er at *
  have n0 : ((3 : Int) == 0) = false := by decide
  have n1 : ((3 : Int) == 1) = false := by decide
  have n2 : ((3 : Int) == 2) = false := by decide
  have n3 : ((3 : Int) == 3) = true := by decide
  go_enter Try.func27, Try.ntmps27
  go_wp2_with fail
  refine (HN.out _ ((Gr.refl _).alloc.alloc.alloc.alloc)).mono ?_
  rintro e w1 ⟨rfl, hg1⟩
  have g1 : Gr w w1 := (by repeat (first | exact Gr.refl _ | refine Gr.alloc ?_ | refine Gr.drew ?_ | refine Gr.trans ?_ (by assumption)))
  have HB1 : Hid (TwoAt w1 w.heap.size (.slice adA A.length capA) (.slice adM M.length capM)) := ((((TwoAt.new w _ _ _ _ rfl).gr (Gr.refl _).alloc).gr (Gr.refl _).alloc).gr (Gr.refl _).alloc).gr hg1
  have HR1 : Hid (TwoAt w1 (w.heap.size + 1 + 1) (.slice none 0 0) (.slice none 0 0)) := ((TwoAt.new _ _ _ _ (w.heap.size + 1 + 1) (by simp)).gr (Gr.refl _).alloc).gr hg1
  have HM1 : Hid (TwoAt w1 (w.heap.size + 1 + 1 + 1) (.slice none 0 0) (.slice none 0 0)) := (TwoAt.new _ _ _ _ (w.heap.size + 1 + 1 + 1) (by simp)).gr hg1
  obtain ⟨b0, b1, bf0, bf1, bl⟩ := HB1.out
  obtain ⟨r0, r1, f0, f1, rl⟩ := HR1.out
  obtain ⟨m0, m1, mf0, mf1, ml⟩ := HM1.out
  clear HB1 HR1 HM1
  clear hg1
  go_wp2
  exact bodyPost_ret (v := .tuple #[.agg #[.slice adA A.length capA, .slice adM M.length capM], .bool false]) (by simp [results, Try.results27, go_sem, *]) rfl ⟨rfl, (((g1.set _ (by simp; omega) _).set _ (by simp; omega) _).set _ (by simp; omega) _).set _ (by simp; omega) _⟩
set_option maxHeartbeats 2000000 in
set_option maxRecDepth 100000 in
theorem does3_yes (A : List Acc) (M : List Mk) (key : ByteArray) (k n : Int) (t : ByteArray) (adA : Option Addr) (capA : Nat) (adM : Option Addr) (capM : Nat) (w : World) (h : LedAt w adA adM A M) (hk : key.size ≤ 9223372036854775807) (_ht : t.size ≤ 9223372036854775807) (he : endE Act.chKe 3 A M key = 0) :
    Calls Try.prog 27 #[.agg #[.slice adA A.length capA, .slice adM M.length capM], .agg #[.int .i64 3, .string key, .int .i64 k, .string t, .int .i64 n]] w fun e w' => ∃ a1 c1 a2 c2, e = .returned (.tuple #[.agg #[.slice a1 (endA Act.chKe 3 A M key).length c1, .slice a2 (endM 3 M key).length c2], .bool true]) ∧ AccsAt w' a1 (endA Act.chKe 3 A M key) ∧ MksAt w' a2 (endM 3 M key) ∧ Fr w adA a1 A (endA Act.chKe 3 A M key) ∧ Fr w adM a2 M (endM 3 M key) ∧ Gr w w' := by
  have HN : Hid (∀ w', Gr w w' → Calls Try.prog 24 #[.agg #[.slice adA A.length capA, .slice adM M.length capM], .string key] w' fun e w2 => ∃ a1 c1 a2 c2, e = .returned (.tuple #[.agg #[.slice a1 (endA Act.chKe 3 A M key).length c1, .slice a2 (endM 3 M key).length c2], .int .i64 0]) ∧ AccsAt w2 a1 (endA Act.chKe 3 A M key) ∧ MksAt w2 a2 (endM 3 M key) ∧ (∀ a, a1 = some a → w'.heap.size ≤ a.block) ∧ (∀ a, a2 = some a → w'.heap.size ≤ a.block) ∧ Gr w' w2) := fun w' g =>
    (ownK_yes A M key adA capA adM capM w' (h.gr g) hk he).mono (by
      rintro e w2 ⟨v1, v2, rfl, o1, o2, g2⟩
      skip
      obtain ⟨a1, c1, rfl, _, _, q1, n1, _⟩ := own_row o1
      obtain ⟨a2, c2, rfl, _, _, q2, n2, _⟩ := own_row o2
      exact ⟨a1, c1, a2, c2, rfl, q1, q2, n1, n2, g2⟩)
  clear h he hk _ht
  generalize endA Act.chKe 3 A M key = A2 at *

  generalize endM 3 M key = M2 at *
  have n0 : ((3 : Int) == 0) = false := by decide
  have n1 : ((3 : Int) == 1) = false := by decide
  have n2 : ((3 : Int) == 2) = false := by decide
  have n3 : ((3 : Int) == 3) = true := by decide
  go_enter Try.func27, Try.ntmps27
  go_wp2_with fail
  refine (HN.out _ ((Gr.refl _).alloc.alloc.alloc.alloc)).mono ?_
  rintro e w1 ⟨x1, y1, x2, y2, rfl, ho1, ho2, hn1, hn2, hg1⟩
  have g1 : Gr w w1 := (by repeat (first | exact Gr.refl _ | refine Gr.alloc ?_ | refine Gr.drew ?_ | refine Gr.trans ?_ (by assumption)))
  have HB1 : Hid (TwoAt w1 w.heap.size (.slice adA A.length capA) (.slice adM M.length capM)) := ((((TwoAt.new w _ _ _ _ rfl).gr (Gr.refl _).alloc).gr (Gr.refl _).alloc).gr (Gr.refl _).alloc).gr hg1
  have HR1 : Hid (TwoAt w1 (w.heap.size + 1 + 1) (.slice none 0 0) (.slice none 0 0)) := ((TwoAt.new _ _ _ _ (w.heap.size + 1 + 1) (by simp)).gr (Gr.refl _).alloc).gr hg1
  have HM1 : Hid (TwoAt w1 (w.heap.size + 1 + 1 + 1) (.slice none 0 0) (.slice none 0 0)) := (TwoAt.new _ _ _ _ (w.heap.size + 1 + 1 + 1) (by simp)).gr hg1
  obtain ⟨b0, b1, bf0, bf1, bl⟩ := HB1.out
  obtain ⟨r0, r1, f0, f1, rl⟩ := HR1.out
  obtain ⟨m0, m1, mf0, mf1, ml⟩ := HM1.out
  clear HB1 HR1 HM1
  have HO1 : Hid (AccsAt w1 x1 A2) := ho1
  have HO2 : Hid (MksAt w1 x2 M2) := ho2
  have HN1 : Hid (∀ a, x1 = some a → w.heap.size + 1 + 1 + 1 + 1 ≤ a.block) := fun a e => by have := hn1 a e; simp at this; exact this
  have HN2 : Hid (∀ a, x2 = some a → w.heap.size + 1 + 1 + 1 + 1 ≤ a.block) := fun a e => by have := hn2 a e; simp at this; exact this
  clear hg1 ho1 ho2 hn1 hn2
  go_wp2
  refine bodyPost_ret (v := .tuple #[.agg #[.slice x1 A2.length y1, .slice x2 M2.length y2], .bool true]) (by simp [results, Try.results27, go_sem, *]) rfl ⟨_, _, _, _, rfl, ?_, ?_, Or.inr (fun p e => by have := HN1.out p e; omega), Or.inr (fun p e => by have := HN2.out p e; omega), (((g1.set _ (by simp; omega) _).set _ (by simp; omega) _).set _ (by simp; omega) _).set _ (by simp; omega) _⟩
  · exact (((HO1.out.setFar _ _ (fun a e => by have := HN1.out a e; simp; omega)).setFar _ _ (fun a e => by have := HN1.out a e; simp; omega)).setFar _ _ (fun a e => by have := HN1.out a e; simp; omega)).setFar _ _ (fun a e => by have := HN1.out a e; simp; omega)
  · exact (((HO2.out.setFar _ _ (fun a e => by have := HN2.out a e; simp; omega)).setFar _ _ (fun a e => by have := HN2.out a e; simp; omega)).setFar _ _ (fun a e => by have := HN2.out a e; simp; omega)).setFar _ _ (fun a e => by have := HN2.out a e; simp; omega)
set_option maxHeartbeats 2000000 in
set_option maxRecDepth 100000 in
theorem doesX_no (A : List Acc) (M : List Mk) (kd : Int) (key : ByteArray) (k n : Int) (t : ByteArray) (adA : Option Addr) (capA : Nat) (adM : Option Addr) (capM : Nat) (w : World) (h0 : kd ≠ 0) (h1 : kd ≠ 1) (h2 : kd ≠ 2) (h3 : kd ≠ 3) :
    Calls Try.prog 27 #[.agg #[.slice adA A.length capA, .slice adM M.length capM], .agg #[.int .i64 kd, .string key, .int .i64 k, .string t, .int .i64 n]] w fun e w' => e = .returned (.tuple #[.agg #[.slice adA A.length capA, .slice adM M.length capM], .bool false]) ∧ Gr w w' := by
  have n0 : (kd == 0) = false := by simpa using h0
  have n1 : (kd == 1) = false := by simpa using h1
  have n2 : (kd == 2) = false := by simpa using h2
  have n3 : (kd == 3) = false := by simpa using h3
  clear h0 h1 h2 h3
  go_enter Try.func27, Try.ntmps27
  go_wp2
  exact bodyPost_ret (v := .tuple #[.agg #[.slice adA A.length capA, .slice adM M.length capM], .bool false]) (by simp [results, Try.results27, go_sem, *]) rfl ⟨rfl, (by (with_reducible repeat' (first | exact Gr.refl _ | refine Gr.set ?_ _ ?_ _ | refine Gr.alloc ?_ | refine Gr.drew ?_ | refine Gr.trans ?_ (by assumption))) <;> (first | (simp; done) | (simp; omega) | omega))⟩
theorem does_any (A : List Acc) (M : List Mk) (q : Cal) (adA : Option Addr) (capA : Nat) (adM : Option Addr) (capM : Nat) (w : World) (h : LedAt w adA adM A M) (hk : q.key.size ≤ 9223372036854775807) (ht : q.t.size ≤ 9223372036854775807) :
    Calls Try.prog 27 #[.agg #[.slice adA A.length capA, .slice adM M.length capM], .agg #[.int .i64 q.kd, .string q.key, .int .i64 q.k, .string q.t, .int .i64 q.n]] w fun e w' => ∃ a1 c1 a2 c2, e = .returned (.tuple #[.agg #[.slice a1 (stA A M q).length c1, .slice a2 (stM A M q).length c2], .bool (decide (stE A M q = 0))]) ∧ AccsAt w' a1 (stA A M q) ∧ MksAt w' a2 (stM A M q) ∧ Fr w adA a1 A (stA A M q) ∧ Fr w adM a2 M (stM A M q) ∧ Gr w w' := by
  obtain ⟨kd, key, k, t, n⟩ := q
  have hno : stE A M ⟨kd, key, k, t, n⟩ ≠ 0 → (Calls Try.prog 27 #[.agg #[.slice adA A.length capA, .slice adM M.length capM], .agg #[.int .i64 kd, .string key, .int .i64 k, .string t, .int .i64 n]] w fun e w' => e = .returned (.tuple #[.agg #[.slice adA A.length capA, .slice adM M.length capM], .bool false]) ∧ Gr w w') → Calls Try.prog 27 #[.agg #[.slice adA A.length capA, .slice adM M.length capM], .agg #[.int .i64 kd, .string key, .int .i64 k, .string t, .int .i64 n]] w fun e w' => ∃ a1 c1 a2 c2, e = .returned (.tuple #[.agg #[.slice a1 (stA A M ⟨kd, key, k, t, n⟩).length c1, .slice a2 (stM A M ⟨kd, key, k, t, n⟩).length c2], .bool (decide (stE A M ⟨kd, key, k, t, n⟩ = 0))]) ∧ AccsAt w' a1 (stA A M ⟨kd, key, k, t, n⟩) ∧ MksAt w' a2 (stM A M ⟨kd, key, k, t, n⟩) ∧ Fr w adA a1 A (stA A M ⟨kd, key, k, t, n⟩) ∧ Fr w adM a2 M (stM A M ⟨kd, key, k, t, n⟩) ∧ Gr w w' := by
    intro he hc
    refine hc.mono ?_
    rintro e w' ⟨rfl, g⟩
    have e1 : stA A M ⟨kd, key, k, t, n⟩ = A := by unfold stA; rw [if_neg he]
    have e2 : stM A M ⟨kd, key, k, t, n⟩ = M := by unfold stM; rw [if_neg he]
    rw [e1, e2, decide_eq_false he]
    exact ⟨_, _, _, _, rfl, h.a.gr g, h.m.gr g, Or.inl ⟨rfl, rfl⟩, Or.inl ⟨rfl, rfl⟩, g⟩
  by_cases he : stE A M ⟨kd, key, k, t, n⟩ = 0
  · rw [decide_eq_true he]
    have he' := he
    unfold stE at he'
    simp only at he'
    by_cases h0 : kd = 0
    · subst h0
      have e1 : stA A M ⟨0, key, k, t, n⟩ = openA A t n := by unfold stA; rw [if_pos he, if_pos rfl]
      have e2 : stM A M ⟨0, key, k, t, n⟩ = M := by unfold stM; rw [if_pos he, if_pos rfl]
      rw [e1, e2]; exact does0_yes A M key k n t adA capA adM capM w h hk ht he'
    rw [if_neg h0] at he'
    by_cases h1 : kd = 1
    · subst h1
      have e1 : stA A M ⟨1, key, k, t, n⟩ = doA A M key k t n := by unfold stA; rw [if_pos he, if_neg h0, if_pos rfl]
      have e2 : stM A M ⟨1, key, k, t, n⟩ = doM M key k t n := by unfold stM; rw [if_pos he, if_neg h0, if_pos rfl]
      rw [e1, e2]; exact does1_yes A M key k n t adA capA adM capM w h hk ht he'
    rw [if_neg h1] at he'
    by_cases h2 : kd = 2
    · subst h2
      have e1 : stA A M ⟨2, key, k, t, n⟩ = endA Act.chUn 2 A M key := by unfold stA; rw [if_pos he, if_neg h0, if_neg h1, if_pos rfl]
      have e2 : stM A M ⟨2, key, k, t, n⟩ = endM 2 M key := by unfold stM; rw [if_pos he, if_neg h0, if_neg h1, if_pos rfl]
      rw [e1, e2]; exact does2_yes A M key k n t adA capA adM capM w h hk ht he'
    rw [if_neg h2] at he'
    by_cases h3 : kd = 3
    · subst h3
      have e1 : stA A M ⟨3, key, k, t, n⟩ = endA Act.chKe 3 A M key := by unfold stA; rw [if_pos he, if_neg h0, if_neg h1, if_neg h2]
      have e2 : stM A M ⟨3, key, k, t, n⟩ = endM 3 M key := by unfold stM; rw [if_pos he, if_neg h0, if_neg h1, if_neg h2]
      rw [e1, e2]; exact does3_yes A M key k n t adA capA adM capM w h hk ht he'
    · rw [if_neg h3] at he'; cases he'
  · refine hno he ?_
    unfold stE at he
    simp only at he
    by_cases h0 : kd = 0
    · subst h0; exact does0_no A M key k n t adA capA adM capM w h hk ht he
    rw [if_neg h0] at he
    by_cases h1 : kd = 1
    · subst h1; exact does1_no A M key k n t adA capA adM capM w h hk ht he
    rw [if_neg h1] at he
    by_cases h2 : kd = 2
    · subst h2; exact does2_no A M key k n t adA capA adM capM w h hk ht he
    rw [if_neg h2] at he
    by_cases h3 : kd = 3
    · subst h3; exact does3_no A M key k n t adA capA adM capM w h hk ht he
    · exact doesX_no A M kd key k n t adA capA adM capM w h0 h1 h2 h3
end Go.Proofs.Ytgidkmipecfjhaa
namespace Go.Proofs.Ytgidkmipecfjhaa
open Go.ChangeShapes Go.WideShapes Go.ChangeAt Go.RowKit
open Led (Acc Mk)
theorem own2 : ownKnob Try.prog.godebug = none := by kernel_rfl
theorem laidOut2 : laidOutB Try.prog = true := by kernel_rfl
theorem rng_i64 {n : Int} (h : (Lit.int .i64 n).wf = true) : -9223372036854775808 ≤ n ∧ n ≤ 9223372036854775807 := by
  simp only [Lit.wf, Bool.and_eq_true, decide_eq_true_eq] at h
  exact h
def inC (q : Cal) : Prop := inI q.kd ∧ q.key.size ≤ 9223372036854775807 ∧ inI q.k ∧ q.t.size ≤ 9223372036854775807 ∧ inI q.n
def CalsAt (w : World) (ad : Option Addr) (T : List Cal) : Prop :=
  ∀ j (h : j < T.length), ∃ b off, ad = some ⟨b, off, none⟩ ∧ b < w.heap.size ∧ w.cell? ⟨b, off + j * 5, none⟩ = some (.int .i64 T[j].kd) ∧ w.cell? ⟨b, off + j * 5 + 1, none⟩ = some (.string T[j].key) ∧ w.cell? ⟨b, off + j * 5 + 2, none⟩ = some (.int .i64 T[j].k) ∧ w.cell? ⟨b, off + j * 5 + 3, none⟩ = some (.string T[j].t) ∧ w.cell? ⟨b, off + j * 5 + 4, none⟩ = some (.int .i64 T[j].n)
theorem CalsAt.gr {w w' : World} {ad : Option Addr} {T : List Cal} (h : CalsAt w ad T) (g : Gr w w') : CalsAt w' ad T := by
  intro j hj
  obtain ⟨b, off, e, hb, h1, h2, h3, h4, h5⟩ := h j hj
  exact ⟨b, off, e, Nat.lt_of_lt_of_le hb g.size, g.keep h1, g.keep h2, g.keep h3, g.keep h4, g.keep h5⟩
set_option maxRecDepth 100000 in
theorem trod_act {H : Type} {enc : TypeId × Value → H} {W : World} {base : Nat} {sp : Nat → Bool} {held : Bool} {fuel : Nat} {u v q : Value} {x : DataW H × List MemPlace}
    (h : DataW.trod enc Try.prog W base sp held fuel 44 [u, v, q] = some x) : ∃ k s n, u = .int .i64 k ∧ v = .string s ∧ q = .int .i64 n ∧ inI k ∧ s.size ≤ 9223372036854775807 ∧ inI n := by
  obtain ⟨y0, y1, y2, n, _, _, t0, t1, t2⟩ := Deep.trod_struct3 Try.underlying44 h
  have k0 : Try.prog.cellsOf 3 = 1 := by kernel_rfl
  have k1 : Try.prog.cellsOf 9 = 1 := by kernel_rfl
  have k2 : Try.prog.cellsOf 2 = 1 := by kernel_rfl
  simp [k0, k1, k2] at t0 t1 t2
  obtain ⟨z0, e0, _, r0⟩ := DataW.trod_int Try.underlying3 t0
  obtain ⟨z1, e1, _, r1⟩ := DataW.trod_string Try.underlying9 t1
  obtain ⟨z2, e2, _, r2⟩ := DataW.trod_int Try.underlying2 t2
  simp at e0 e1 e2
  subst e0 e1 e2
  unfold maxLen at r1
  exact ⟨z0, z1, z2, rfl, rfl, rfl, rng_i64 r0, by omega, rng_i64 r2⟩
set_option maxRecDepth 100000 in
theorem trod_cal {H : Type} {enc : TypeId × Value → H} {W : World} {base : Nat} {sp : Nat → Bool} {held : Bool} {fuel : Nat} {v0 v1 v2 v3 v4 : Value} {x : DataW H × List MemPlace}
    (h : DataW.trod enc Try.prog W base sp held fuel 46 [v0, v1, v2, v3, v4] = some x) : ∃ q : Cal, v0 = .int .i64 q.kd ∧ v1 = .string q.key ∧ v2 = .int .i64 q.k ∧ v3 = .string q.t ∧ v4 = .int .i64 q.n ∧ inC q := by
  obtain ⟨y0, y1, y2, n, _, _, t0, t1, t2⟩ := Deep.trod_struct3 Try.underlying46 h
  have k0 : Try.prog.cellsOf 3 = 1 := by kernel_rfl
  have k1 : Try.prog.cellsOf 9 = 1 := by kernel_rfl
  have k2 : Try.prog.cellsOf 44 = 3 := by kernel_rfl
  simp [k0, k1, k2] at t0 t1 t2
  obtain ⟨z0, e0, _, r0⟩ := DataW.trod_int Try.underlying3 t0
  obtain ⟨z1, e1, _, r1⟩ := DataW.trod_string Try.underlying9 t1
  simp at e0 e1
  subst e0 e1
  obtain ⟨k, s, m, rfl, rfl, rfl, h1, h2, h3⟩ := trod_act t2
  unfold maxLen at r1
  exact ⟨⟨z0, z1, k, s, m⟩, rfl, rfl, rfl, rfl, rfl, rng_i64 r0, (by show z1.size ≤ _; omega), h1, h2, h3⟩
set_option maxRecDepth 100000 in
theorem open_calls {H : Type} {enc : TypeId × Value → H} {W : World} {base : Nat} {v : Value} {d : DataW H} {ps : List MemPlace}
    (hok : Value.okWide Try.prog W .any base 57 v) (h : DataW.Trod enc Try.prog W 0 (fun _ => true) true 57 v d ps) :
    ∃ ad cap, ∃ T : List Cal, v = .slice ad T.length cap ∧ CalsAt W ad T ∧ T.length ≤ 9223372036854775807 ∧ ∀ t ∈ T, inC t := by
  obtain ⟨a0, len0, cap0, rfl⟩ := okWide_slice Try.underlying57 hok
  obtain ⟨fuel, hf⟩ := h
  rcases Deep.open_slice Try.underlying57 hf with ⟨hcs, _⟩ | ⟨a, len, cap, m, n, D, Pl, hcs, _, hl, hm, hmm, _, hx⟩
  · simp [Value.cells] at hcs
    obtain ⟨rfl, rfl, rfl⟩ := hcs
    exact ⟨none, 0, [], rfl, fun j hj => absurd hj (by simp), by simp, by simp⟩
  · simp [Value.cells] at hcs
    obtain ⟨rfl, rfl, rfl⟩ := hcs
    have hlm : len0 ≤ m := by rw [hmm]; split <;> omega
    have ce : Try.prog.cellsOf 46 = 5 := by kernel_rfl
    have each : ∀ i, i < len0 → ∃ t : Cal, W.cell? (a.add (i * 5)) = some (.int .i64 t.kd) ∧ W.cell? (a.add (i * 5 + 1)) = some (.string t.key) ∧ W.cell? (a.add (i * 5 + 2)) = some (.int .i64 t.k) ∧ W.cell? (a.add (i * 5 + 3)) = some (.string t.t) ∧ W.cell? (a.add (i * 5 + 4)) = some (.int .i64 t.n) ∧ inC t := by
      intro i hi
      obtain ⟨cs, h1, h2⟩ := hx i (by omega)
      rw [ce] at h1
      obtain ⟨_, hlen, hcell⟩ := World.cells?_some h1
      match cs, hlen with
      | [v0, v1, v2, v3, v4], _ =>
        obtain ⟨q, rfl, rfl, rfl, rfl, rfl, hT⟩ := trod_cal h2
        have c0 := hcell 0 (by omega)
        have c1 := hcell 1 (by omega)
        have c2 := hcell 2 (by omega)
        have c3 := hcell 3 (by omega)
        have c4 := hcell 4 (by omega)
        rw [Deep.add_add] at c0 c1 c2 c3 c4
        exact ⟨q, by simpa using c0, by simpa using c1, by simpa using c2, by simpa using c3, by simpa using c4, hT⟩
    have hin : Inhabited Cal := ⟨⟨0, ⟨#[]⟩, 0, ⟨#[]⟩, 0⟩⟩
    obtain ⟨f, hfq⟩ := Deep.choose_lt each
    unfold maxLen at hm
    refine ⟨some a, cap0, (List.range len0).map f, by simp, ?_, by simp; omega, ?_⟩
    · intro j hj
      have hj' : j < len0 := by simpa using hj
      obtain ⟨c0, c1, c2, c3, c4, _⟩ := hfq j hj'
      obtain ⟨b, off, spot⟩ := a
      have hspot : spot = none := by
        have := World.cell?_spot (hfq 0 (by omega)).1
        simpa [Addr.add] using this
      subst hspot
      rw [Addr.add_lit] at c0 c1 c2 c3 c4
      refine ⟨b, off, rfl, World.block_lt_of_cell? W _ c0, by simpa using c0, ?_, ?_, ?_, ?_⟩
      · rw [← Nat.add_assoc] at c1; simpa using c1
      · rw [← Nat.add_assoc] at c2; simpa using c2
      · rw [← Nat.add_assoc] at c3; simpa using c3
      · rw [← Nat.add_assoc] at c4; simpa using c4
    · intro t ht
      obtain ⟨j, hj, rfl⟩ := List.mem_map.1 ht
      exact (hfq j (by simpa using hj)).2.2.2.2.2
end Go.Proofs.Ytgidkmipecfjhaa
namespace Go.Proofs.Ytgidkmipecfjhaa
open Go.ChangeShapes Go.WideShapes Go.ChangeAt Go.RowKit
open Led (Acc Mk)
def Off {α : Type} (g : Nat) (a : Option Addr) (L : List α) : Prop := L = [] ∨ ∀ p, a = some p → p.block ≠ g
theorem off_new {α : Type} {f : α → List Value} {c : Nat} (hc : ∀ x, (f x).length = c) (h0 : 0 < c) {w : World} {a : Option Addr} {L : List α} (h : RowAt f w a L) {g : Nat} (hg : w.heap.size ≤ g) : Off g a L := by
  cases L with
  | nil => exact Or.inl rfl
  | cons x t =>
    right
    intro p hp
    have hl : 0 < ((x :: t).flatMap f).length := by rw [flat_len hc]; simp; omega
    obtain ⟨b, off, e, hb, _⟩ := h 0 _ (List.getElem?_eq_getElem hl)
    rw [hp] at e
    cases e
    show b ≠ g
    omega
theorem off_fr {α : Type} {g : Nat} {w : World} {o a : Option Addr} {L L' : List α} (h : Off g o L) (hf : Fr w o a L L') (hg : g < w.heap.size) : Off g a L' := by
  rcases hf with ⟨rfl, rfl⟩ | hf
  · exact h
  · exact Or.inr fun p hp => by have := hf p hp; omega
theorem RowAt.setOff {α : Type} {f : α → List Value} {w : World} {a : Option Addr} {L : List α} (h : RowAt f w a L) (p : Addr) (v : Value) (ho : Off p.block a L) : RowAt f (w.setCell p v) a L := by
  rcases ho with rfl | ho
  · exact RowAt.nil
  · exact h.setFar p v fun q hq => fun e => ho q hq e.symm
theorem hold7o {a b : World} (g : Gr a b) {q0 q1 q2 q3 q4 q5 q6 : Addr} {v0 v1 v2 v3 v4 v5 v6 : Value} (h0 : a.cell? q0 = some v0) (h1 : a.cell? q1 = some v1) (h2 : a.cell? q2 = some v2) (h3 : a.cell? q3 = some v3) (h4 : a.cell? q4 = some v4) (h5 : a.cell? q5 = some v5) (h6 : a.cell? q6 = some v6) :
    Gr a b ∧ b.cell? q0 = some v0 ∧ b.cell? q1 = some v1 ∧ b.cell? q2 = some v2 ∧ b.cell? q3 = some v3 ∧ b.cell? q4 = some v4 ∧ b.cell? q5 = some v5 ∧ b.cell? q6 = some v6 :=
  ⟨g, g.keep h0, g.keep h1, g.keep h2, g.keep h3, g.keep h4, g.keep h5, g.keep h6⟩
abbrev DoesAt (W : World) (a1 : Option Addr) (c1 : Nat) (a2 : Option Addr) (c2 : Nat) (A : List Acc) (M : List Mk) (q : Cal) (A' : List Acc) (M' : List Mk) (ok : Bool) : Prop :=
  ∀ w', Gr W w' → Calls Try.prog 27 #[.agg #[.slice a1 A.length c1, .slice a2 M.length c2], .agg #[.int .i64 q.kd, .string q.key, .int .i64 q.k, .string q.t, .int .i64 q.n]] w' fun e w2 => ∃ b1 d1 b2 d2, e = .returned (.tuple #[.agg #[.slice b1 A'.length d1, .slice b2 M'.length d2], .bool ok]) ∧ AccsAt w2 b1 A' ∧ MksAt w2 b2 M' ∧ Fr w' a1 b1 A A' ∧ Fr w' a2 b2 M M' ∧ Gr w' w2
theorem does_at {W : World} {a1 : Option Addr} {c1 : Nat} {a2 : Option Addr} {c2 : Nat} {A : List Acc} {M : List Mk} {q : Cal} (h : LedAt W a1 a2 A M) (hq : inC q) : DoesAt W a1 c1 a2 c2 A M q (stA A M q) (stM A M q) (decide (stE A M q = 0)) := fun w' g =>
  does_any A M q a1 c1 a2 c2 w' (h.gr g) hq.2.1 hq.2.2.2.1
end Go.Proofs.Ytgidkmipecfjhaa
