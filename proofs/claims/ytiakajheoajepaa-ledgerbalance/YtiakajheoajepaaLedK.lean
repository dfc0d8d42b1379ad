/- ledger: isKey, markMayBe. -/
import Derived.Test.YtiakajheoajepaaLedF
import Derived.Test.YtiakajheoajepaaActC
import Derived.Test.YtiakajheoajepaaRegH
namespace Go.Proofs.Ytiakajheoajepaa
open Go.RowKit
open Led (Acc Mk)

theorem eqE (s : ByteArray) : (s.toList == ([] : List UInt8)) = decide (s.size = 0) := by
  rw [show s.toList = s.data.toList from ByteArray.toList_eq s]
  have hl : s.data.toList.length = s.size := by simp
  cases h : s.data.toList with
  | nil => rw [h] at hl; simp at hl; rw [← hl]; rfl
  | cons b t => rw [h] at hl; simp at hl; rw [decide_eq_false (by omega)]; rfl
set_option maxHeartbeats 400000 in
theorem isKey_any (s : ByteArray) (w : World) (hs : s.size ≤ 9223372036854775807) : Calls Try.prog 55 #[.string s] w fun e w' => e = .returned (.bool (Led.keyB s)) ∧ w' = w := by
  have h0 := eqE s
  have h00 : (⟨#[]⟩ : ByteArray).toList = [] := ByteArray.toList_eq _
  unfold Led.keyB
  by_cases h1 : s.size = 0
  · rw [decide_eq_true h1] at h0
    rw [decide_eq_false (by omega)]
    go_enter Try.func55, Try.ntmps55
    go_wp2
    go_ret
    exact ⟨rfl, rfl⟩
  · rw [decide_eq_false h1] at h0
    rw [decide_eq_true (by omega : 0 < s.size)]
    by_cases h2 : s.size ≤ 100
    · have h3 : (s.size : Int) ≤ 100 := by omega
      rw [decide_eq_true h2]
      go_enter Try.func55, Try.ntmps55
      go_wp2
      go_ret
      exact ⟨rfl, rfl⟩
    · have h3 : ¬ (s.size : Int) ≤ 100 := by omega
      rw [decide_eq_false h2]
      go_enter Try.func55, Try.ntmps55
      go_wp2
      go_ret
      exact ⟨rfl, rfl⟩

/- five cells in memory that may be written -/
structure FiveAt (w : World) (g : Nat) (a b c d e : Value) : Prop where
  c0 : w.cell? ⟨g, 0, none⟩ = some a
  c1 : w.cell? ⟨g, 1, none⟩ = some b
  c2 : w.cell? ⟨g, 2, none⟩ = some c
  c3 : w.cell? ⟨g, 3, none⟩ = some d
  c4 : w.cell? ⟨g, 4, none⟩ = some e
  fz : ∀ i, i < 5 → w.frozen? ⟨g, i, none⟩ = false
  lt : g < w.heap.size
theorem FiveAt.gr {w w' : World} {g : Nat} {a b c d e : Value} (x : FiveAt w g a b c d e) (k : Gr w w') : FiveAt w' g a b c d e :=
  ⟨k.keep x.c0, k.keep x.c1, k.keep x.c2, k.keep x.c3, k.keep x.c4, fun i hi => k.keepF x.lt (x.fz i hi), Nat.lt_of_lt_of_le x.lt k.size⟩
theorem FiveAt.new (w : World) (a b c d e : Value) (t : TypeId) (g : Nat) (hg : g = w.heap.size) : FiveAt (w.alloc (.cells #[a, b, c, d, e] t)) g a b c d e := by
  subst hg
  exact ⟨by simp, by simp, by simp, by simp, by simp, fun i hi => by simp [go_sem], by simp⟩

set_option maxHeartbeats 4000000 in
set_option maxRecDepth 100000 in
theorem markMay_any (A : List Acc) (m : Mk) (ad : Option Addr) (cap : Nat) (w : World) (hA : AccsAt w ad A) (hu : Led.upB (Led.nm A) = true) (hn : A.length ≤ 1000000) (hm : inM m) :
    Calls Try.prog 71 #[.agg #[.string m.key, .int .i64 m.k, .string m.t, .int .i64 m.n, .int .i64 m.st], .func (.func 30) #[.slice ad A.length cap] #[]] w fun e w' => e = .returned (.bool (Led.mkOk A m)) ∧ Gr w w' := by
  have HF : Hid (∀ w', Gr w w' → Calls Try.prog 30 #[.slice ad A.length cap, .string m.t] w' fun e w2 => e = .returned (.tuple #[.int .i64 (Led.pos (Led.nm A) m.t : Nat), .bool (Led.hasB (Led.nm A) m.t)]) ∧ Gr w' w2) := fun w' g => findA_any A m.t ad cap w' (hA.gr g) hu hn
  have HI : Hid (∀ w', Calls Try.prog 55 #[.string m.key] w' fun e w2 => e = .returned (.bool (Led.keyB m.key)) ∧ w2 = w') := fun w' => isKey_any m.key w' hm.1
  have HC : Hid (∀ w', Calls Try.prog 56 #[.agg #[.int .i64 m.k, .string m.t, .int .i64 m.n]] w' fun e w2 => e = .returned (.int .i64 (Act.chkE m.k m.t m.n)) ∧ Gr w' w2) := fun w' => actCheck_any m.k m.n m.t w' hm.2.2.1
  clear hA hu hm
  unfold Led.mkOk
  unfold Act.chkE at HC
  generalize Led.pos (Led.nm A) m.t = p at *
  generalize Led.hasB (Led.nm A) m.t = hb at *
  generalize Led.keyB m.key = kb at *
  generalize Act.actB m.k m.t m.n = cb at *
  obtain ⟨key, k, t, n, st⟩ := m
  simp only at HF HI HC ⊢
  have hst : ∃ s1 s2 : Bool, decide (1 ≤ st) = s1 ∧ decide (st ≤ 3) = s2 := ⟨_, _, rfl, rfl⟩
  obtain ⟨s1, s2, hs1, hs2⟩ := hst
  rw [hs1, hs2]
  cases kb
  · clear HC
    cases s1
    · go_enter Try.func71, Try.ntmps71
      go_wp2_with fail
      refine (HF.out _ (Gr.refl _).alloc).mono ?_
      rintro e w1 ⟨rfl, hg1⟩
      obtain ⟨b0, b1, b2, b3, b4, _, b6⟩ := (FiveAt.new w _ _ _ _ _ _ w.heap.size rfl).gr hg1
      go_wp2_with fail
      refine (HI.out _).mono ?_
      rintro e w2 ⟨rfl, hw2⟩; obtain rfl := hw2.symm
      go_wp2
      go_ret
      exact ⟨rfl, (by repeat (first | exact Gr.refl _ | refine Gr.alloc ?_ | refine Gr.drew ?_ | refine Gr.trans ?_ (by assumption)))⟩
    · go_enter Try.func71, Try.ntmps71
      go_wp2_with fail
      refine (HF.out _ (Gr.refl _).alloc).mono ?_
      rintro e w1 ⟨rfl, hg1⟩
      obtain ⟨b0, b1, b2, b3, b4, _, b6⟩ := (FiveAt.new w _ _ _ _ _ _ w.heap.size rfl).gr hg1
      go_wp2_with fail
      refine (HI.out _).mono ?_
      rintro e w2 ⟨rfl, hw2⟩; obtain rfl := hw2.symm
      go_wp2
      go_ret
      exact ⟨rfl, (by repeat (first | exact Gr.refl _ | refine Gr.alloc ?_ | refine Gr.drew ?_ | refine Gr.trans ?_ (by assumption)))⟩
  · cases cb <;> cases hb <;> cases s1
    all_goals
      go_enter Try.func71, Try.ntmps71
      go_wp2_with fail
      refine (HF.out _ (Gr.refl _).alloc).mono ?_
      rintro e w1 ⟨rfl, hg1⟩
      obtain ⟨b0, b1, b2, b3, b4, _, b6⟩ := (FiveAt.new w _ _ _ _ _ _ w.heap.size rfl).gr hg1
      go_wp2_with fail
      refine (HI.out _).mono ?_
      rintro e w2 ⟨rfl, hw2⟩; obtain rfl := hw2.symm
      go_wp2_with fail
      refine (HC.out _).mono ?_
      rintro e w2 ⟨rfl, hg2⟩
      go_wp2
      go_ret
      exact ⟨by simp, (by repeat (first | exact Gr.refl _ | refine Gr.alloc ?_ | refine Gr.drew ?_ | refine Gr.trans ?_ (by assumption)))⟩
end Go.Proofs.Ytiakajheoajepaa
