/- the document's Child, of an id without hops. -/
import Derived.Test.YtecpppppadoppaaDoorRChiP
namespace Go.Proofs.YtecpppppadoppaaDoor
open Go.RowKit

set_option maxHeartbeats 8000000 in
set_option maxRecDepth 100000 in
theorem refChild_nil (r n s o : Int) (w : World) :
    Calls Tryd.prog 21 #[.agg #[.int .i64 r, .int .i64 n, .slice none 0 0], .int .i64 s, .int .i64 o] w fun e w' =>
      ((Idn.mayB r n [(s, o)] = true ∧ ∃ ad2 cap2, e = .returned (.tuple #[.agg #[.int .i64 r, .int .i64 n, .slice ad2 1 cap2], .int .i64 0]) ∧ 1 ≤ cap2 ∧ HopsAt w' ad2 [(s, o)]) ∨
       (Idn.mayB r n [(s, o)] = false ∧ e = .returned (.tuple #[.agg #[.int .i64 0, .int .i64 0, .slice none 0 0], .int .i64 30]))) ∧ Gr w w' := by
  have HC : Hid (∀ w' : World, Calls Tryd.prog 10 #[.agg #[.int .i64 r, .int .i64 n, .slice none 0 0]] w' fun e w2 => e = .returned (.int .i64 (errB (Idn.mayB r n []))) ∧ Gr w' w2) := fun w' => refCheck_any r n [] none 0 w' HopsAt.nil (by simp)
  have HD : Hid (∀ (w' : World) (ad2 : Option Addr) (cap2 : Nat), HopsAt w' ad2 [(s, o)] → Calls Tryd.prog 10 #[.agg #[.int .i64 r, .int .i64 n, .slice ad2 1 cap2]] w' fun e w2 => e = .returned (.int .i64 (errB (Idn.mayB r n [(s, o)]))) ∧ Gr w' w2) := fun w' ad2 cap2 h => refCheck_any r n [(s, o)] ad2 cap2 w' h (by simp)
  have HIN : Hid (Idn.mayB r n [(s, o)] = true → Idn.mayB r n [] = true) := may_init r n [] (s, o)
  have hge := grownCap_ge w 1 0 55
  unfold grownCap at hge
  go_enter Tryd.func21, Tryd.ntmps21
  go_wp2_with fail
  refine (HC.out _).mono ?_
  rintro e4 w4 ⟨rfl, hg4⟩
  generalize (Question.appendCap 1 0 55).cut (w.tape w.drawn (Question.appendCap 1 0 55)) = c at *
  have hh : HopsAt w4 (some ⟨w.heap.size + 1 + 1 + 1 + 1 + 1, 0, none⟩) [(s, o)] := by
    refine HopsAt.gr ?_ hg4
    intro j hj
    obtain rfl : j = 0 := by simpa using hj
    refine ⟨_, _, rfl, by simp, ?_, ?_⟩ <;> simp [go_sem, Array.getElem?_append]
  have U2 : BoxAt w4 (w.heap.size + 1) (.int .i64 0) (.int .i64 0) (.slice none 0 0) := by
    refine BoxAt.gr ?_ hg4
    constructor <;> simp [go_sem]
  have U3 : BoxAt w4 (w.heap.size + 1 + 1) (.int .i64 r) (.int .i64 n) (.slice (some ⟨w.heap.size + 1 + 1 + 1 + 1 + 1, 0, none⟩) 1 c) := by
    refine BoxAt.gr ?_ hg4
    constructor <;> simp [go_sem]
  have UG : Hid (Gr w w4) := by
    refine Gr.trans ?_ hg4
    exact (by (repeat' (first | with_reducible exact Gr.refl _ | with_reducible refine Gr.set ?_ _ ?_ _ | with_reducible refine Gr.alloc ?_ | with_reducible refine Gr.drew ?_ | with_reducible refine Gr.trans ?_ (by assumption))) <;> (first | (simp; done) | (simp; omega) | omega))
  have TH : Hid (HopsAt w4 (some ⟨w.heap.size + 1 + 1 + 1 + 1 + 1, 0, none⟩) [(s, o)]) := hh
  obtain ⟨b0, b1, b2, f0, f1, f2, b6⟩ := id U2
  obtain ⟨c0, c1, c2, _, _, _, c6⟩ := id U3
  clear hh hg4
  by_cases hA : Idn.mayB r n [] = true
  · rw [hA, show errB true = 0 from rfl]
    go_wp2_with fail
    refine (HD.out _ _ _ TH.out).mono ?_
    rintro e5 w5 ⟨rfl, hg5⟩
    have HI5 : Hid (HopsAt w5 (some ⟨w.heap.size + 1 + 1 + 1 + 1 + 1, 0, none⟩) [(s, o)]) := TH.out.gr hg5
    obtain ⟨z0, z1, z2, zf0, zf1, zf2, z6⟩ := U2.gr hg5
    obtain ⟨q0, q1, q2, _, _, _, q6⟩ := U3.gr hg5
    have VG : Hid (Gr w w5) := UG.out.trans hg5
    clear U2 U3 b0 b1 b2 f0 f1 f2 c0 c1 c2 hg5
    by_cases hB : Idn.mayB r n [(s, o)] = true
    · have HM : Hid (Idn.mayB r n [(s, o)] = true) := hB
      rw [hB, show errB true = 0 from rfl]
      clear hB hA
      go_wp2
      have hia := HI5.out
      have hfr : ∀ a, (some ⟨w.heap.size + 1 + 1 + 1 + 1 + 1, 0, none⟩ : Option Addr) = some a → w.heap.size + 1 + 1 + 1 ≤ a.block := fun a e => by cases e; simp
      have hgv := VG.out
      exact bodyPost_ret (v := .tuple #[.agg #[.int .i64 r, .int .i64 n, .slice (some ⟨w.heap.size + 1 + 1 + 1 + 1 + 1, 0, none⟩) 1 c], .int .i64 0]) (by simp [results, Tryd.results21, go_sem, z0, z1, z2]) rfl ⟨Or.inl ⟨HM.out, _, c, rfl, hge, (by (repeat' (first | with_reducible exact hia | with_reducible refine HopsAt.set ?_ _ _ ?_ | with_reducible refine HopsAt.alloc ?_ | with_reducible refine HopsAt.drew ?_)) <;> (intro a e; have := hfr a e; simp at this ⊢; omega))⟩, ((hgv.set _ (by simp) _).set _ (by simp) _).set _ (by simp) _⟩
    · have hB' : Idn.mayB r n [(s, o)] = false := by simpa using hB
      have HM : Hid (Idn.mayB r n [(s, o)] = false) := hB'
      rw [hB', show errB false = 30 from rfl]
      clear hB hB' hA
      go_wp2
      have hgv := VG.out
      exact bodyPost_ret (v := .tuple #[.agg #[.int .i64 0, .int .i64 0, .slice none 0 0], .int .i64 30]) (by simp [results, Tryd.results21, go_sem, z0, z1, z2]) rfl ⟨Or.inr ⟨HM.out, rfl⟩, ((hgv.set _ (by simp) _).set _ (by simp) _).set _ (by simp) _⟩
  · have hA' : Idn.mayB r n [] = false := by simpa using hA
    have HM : Hid (Idn.mayB r n [(s, o)] = false) := by
      show _ = _
      cases h : Idn.mayB r n [(s, o)] with
      | false => rfl
      | true => exact absurd (HIN.out h) hA
    rw [hA', show errB false = 30 from rfl]
    clear hA hA' U2 U3
    go_wp2
    have hgv := UG.out
    exact bodyPost_ret (v := .tuple #[.agg #[.int .i64 0, .int .i64 0, .slice none 0 0], .int .i64 30]) (by simp [results, Tryd.results21, go_sem, b0, b1, b2]) rfl ⟨Or.inr ⟨HM.out, rfl⟩, ((hgv.set _ (by simp) _).set _ (by simp) _).set _ (by simp) _⟩

theorem refChild_any (r n s o : Int) (L : List (Int × Int)) (ad : Option Addr) (cap : Nat) (w : World) (hL : HopsAt w ad L) (hz : ad = none → cap = 0) (hn : L.length ≤ 900) :
    Calls Tryd.prog 21 #[.agg #[.int .i64 r, .int .i64 n, .slice ad L.length cap], .int .i64 s, .int .i64 o] w fun e w' =>
      ((Idn.mayB r n (L ++ [(s, o)]) = true ∧ ∃ ad2 cap2, e = .returned (.tuple #[.agg #[.int .i64 r, .int .i64 n, .slice ad2 (L.length + 1) cap2], .int .i64 0]) ∧ L.length + 1 ≤ cap2 ∧ HopsAt w' ad2 (L ++ [(s, o)])) ∨
       (Idn.mayB r n (L ++ [(s, o)]) = false ∧ e = .returned (.tuple #[.agg #[.int .i64 0, .int .i64 0, .slice none 0 0], .int .i64 30]))) ∧ Gr w w' := by
  cases ad with
  | none =>
    obtain rfl : cap = 0 := hz rfl
    obtain rfl : L = [] := by
      cases L with
      | nil => rfl
      | cons x t => obtain ⟨b, off, e, _⟩ := hL 0 (by simp); cases e
    exact refChild_nil r n s o w
  | some a => exact refChild_some r n s o L a cap w hL hn
end Go.Proofs.YtecpppppadoppaaDoor
