/- lexic: Scan. -/
import Derived.Test.YtdliljijgokpjaaDoorLexS
import Derived.BigRegion
namespace Go.Proofs.YtdliljijgokpjaaDoor
open Go.RowKit
open Lex (Tok S scF scA scT)

theorem sc_big {s : ByteArray} (h : 2000 < s.size) : scF s.data.toList = 3 ∧ scA s.data.toList = 0 ∧ scT s.data.toList = [] := by
  have hl : s.data.toList.length = s.size := by simp
  unfold Lex.scF Lex.scA Lex.scT
  rw [hl, if_pos h, if_pos h, if_pos h]; exact ⟨rfl, rfl, rfl⟩
theorem sc_yes {s : ByteArray} (h : ¬ 2000 < s.size) (h2 : (S s.data.toList 0).2 = none) : scF s.data.toList = 0 ∧ scA s.data.toList = 0 ∧ scT s.data.toList = (S s.data.toList 0).1 := by
  have hl : s.data.toList.length = s.size := by simp
  unfold Lex.scF Lex.scA Lex.scT
  rw [hl, if_neg h, if_neg h, if_neg h, h2]; exact ⟨rfl, rfl, rfl⟩
theorem sc_no {s : ByteArray} (h : ¬ 2000 < s.size) {p : Nat} (h2 : (S s.data.toList 0).2 = some p) : scF s.data.toList = 80 ∧ scA s.data.toList = p ∧ scT s.data.toList = [] := by
  have hl : s.data.toList.length = s.size := by simp
  unfold Lex.scF Lex.scA Lex.scT
  rw [hl, if_neg h, if_neg h, if_neg h, h2]; exact ⟨rfl, rfl, rfl⟩

set_option maxHeartbeats 4000000 in
set_option maxRecDepth 100000 in
theorem Scan_any (s : ByteArray) (w : World) : Calls Tryd.prog 41 #[.string s] w fun e w' => ∃ ad cap, e = .returned (.tuple #[.slice ad (scT s.data.toList).length cap, .agg #[.int .i64 (scF s.data.toList), .int .i64 (scA s.data.toList)]]) ∧ (scT s.data.toList).length ≤ cap ∧ ToksAt w' ad (scT s.data.toList) ∧ (∀ a, ad = some a → w.heap.size ≤ a.block) ∧ Gr w w' := by
  by_cases hb : 2000 < s.size
  · obtain ⟨h1, h2, h3⟩ := sc_big hb
    rw [h1, h2, h3]
    have hbi : (2000 : Int) < (s.size : Int) := by omega
    clear h1 h2 h3
    go_enter Tryd.func41, Tryd.ntmps41
    go_wp2
    exact bodyPost_ret (v := .tuple #[.slice none 0 0, .agg #[.int .i64 3, .int .i64 0]]) (by simp [results, Tryd.results41, go_sem]) rfl ⟨none, 0, rfl, by simp, ToksAt.nil, (fun a e => by cases e), (by (repeat' (first | with_reducible exact Gr.refl _ | with_reducible refine Gr.set ?_ _ ?_ _ | with_reducible refine Gr.alloc ?_ | with_reducible refine Gr.drew ?_ | with_reducible refine Gr.trans ?_ (by assumption))) <;> (first | (simp; done) | (simp; omega) | omega))⟩
  have hbi : ¬ (2000 : Int) < (s.size : Int) := by omega
  have HS : Hid (∀ (b : Nat) (w' : World), ScAt w' b s 0 (.slice none 0 0) → Calls Tryd.prog 64 #[.pointer (some ⟨b, 0, none⟩)] w' fun e w2 => ∃ x y : Int, e = .returned (.agg #[.int .i64 x, .int .i64 y]) ∧ w'.grownBy w2 (some b) ∧
      (((S s.data.toList 0).2 = none ∧ x = 0 ∧ y = 0 ∧ ∃ ad cap, ScAt w2 b s s.size (.slice ad (S s.data.toList 0).1.length cap) ∧ (S s.data.toList 0).1.length ≤ cap ∧ ToksAt w2 ad (S s.data.toList 0).1 ∧ ∀ a, ad = some a → w'.heap.size ≤ a.block) ∨ (∃ p : Nat, (S s.data.toList 0).2 = some p ∧ x = 80 ∧ y = p))) := fun b w' h => scan_any b s w' h (by omega)
  have HC0 : Hid (ScAt ((w.alloc (.cells #[.int .i64 0, .int .i64 0] 37)).alloc (.cells #[.string s, .int .i64 0, .slice none 0 0] 103)) (w.heap.size + 1) s 0 (.slice none 0 0)) :=
    ⟨⟨by simp, by simp, by simp [go_sem], by simp⟩, by simp, by simp [go_sem]⟩
  have HF0 : Hid (FaAt ((w.alloc (.cells #[.int .i64 0, .int .i64 0] 37)).alloc (.cells #[.string s, .int .i64 0, .slice none 0 0] 103)) w.heap.size 0 0) := (FaAt.new w 0 0 37 _ rfl).gr (Gr.refl _).alloc
  have HY := @sc_yes s hb
  have HN := @sc_no s hb
  generalize scT s.data.toList = RT at *
  generalize scF s.data.toList = RF at *
  generalize scA s.data.toList = RA at *
  generalize S s.data.toList 0 = SS at *
  have HY' : Hid (SS.2 = none → RF = 0 ∧ RA = 0 ∧ RT = SS.1) := HY
  have HN' : Hid (∀ {p : Nat}, SS.2 = some p → RF = 80 ∧ RA = p ∧ RT = []) := HN
  clear HY HN hb
  go_enter Tryd.func41, Tryd.ntmps41
  go_wp2_with fail
  refine (HS.out _ _ HC0.out).mono ?_
  rintro e w1 ⟨x, y, rfl, hgb, hor⟩
  have HF1 : Hid (FaAt w1 w.heap.size 0 0) := HF0.out.grown hgb (by simp)
  have HG1 : Hid (Gr w w1) := Gr.grown (Gr.refl w).alloc.alloc hgb (fun g e => by cases e; omega)
  obtain ⟨r0, r1, f0, f1, rl⟩ := HF1.out
  rcases hor with ⟨h1, rfl, rfl, ad, cap, hsc, hcp, htk, hfr⟩ | ⟨p, h1, rfl, rfl⟩
  · obtain ⟨rfl, rfl, rfl⟩ := HY'.out h1
    have HT1 : Hid (ToksAt w1 ad SS.1) := htk
    have HFR : Hid (∀ a, ad = some a → w.heap.size + 2 ≤ a.block) := fun a e => by have := hfr a e; simp at this; omega
    obtain ⟨⟨q0, q1, qf1, ql⟩, q2, qf2⟩ := hsc
    clear htk hfr h1 hgb
    go_wp2
    refine bodyPost_ret (v := .tuple #[.slice ad SS.1.length cap, .agg #[.int .i64 0, .int .i64 0]]) (by simp [results, Tryd.results41, go_sem, *]) rfl ⟨ad, cap, rfl, hcp, ?_, (fun a e => by have := HFR.out a e; omega), ?_⟩
    · exact ((HT1.out.setFar _ _ (fun a e => by have := HFR.out a e; simp; omega)).setFar _ _ (fun a e => by have := HFR.out a e; simp; omega)).gr (Gr.refl _).alloc
    · have hg1 := HG1.out
      exact (by (repeat' (first | with_reducible exact Gr.refl _ | with_reducible refine Gr.set ?_ _ ?_ _ | with_reducible refine Gr.alloc ?_ | with_reducible refine Gr.drew ?_ | with_reducible refine Gr.trans ?_ (by assumption))) <;> (first | (simp; done) | (simp; omega) | omega))
  · obtain ⟨rfl, rfl, rfl⟩ := HN'.out h1
    clear h1 hgb
    go_wp2
    go_region
    go_wp2
    refine bodyPost_ret (v := .tuple #[.slice none 0 0, .agg #[.int .i64 80, .int .i64 (p : Int)]]) (by simp [results, Tryd.results41, go_sem, *]) rfl ⟨none, 0, rfl, by simp, ToksAt.nil, (fun a e => by cases e), ?_⟩
    have hg1 := HG1.out
    exact (by (repeat' (first | with_reducible exact Gr.refl _ | with_reducible refine Gr.set ?_ _ ?_ _ | with_reducible refine Gr.alloc ?_ | with_reducible refine Gr.drew ?_ | with_reducible refine Gr.trans ?_ (by assumption))) <;> (first | (simp; done) | (simp; omega) | omega))
end Go.Proofs.YtdliljijgokpjaaDoor
