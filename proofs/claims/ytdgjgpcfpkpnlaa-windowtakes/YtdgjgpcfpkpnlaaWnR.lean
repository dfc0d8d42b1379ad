
/- The document's Take. -/
import Derived.Test.YtdgjgpcfpkpnlaaWnG
namespace Go.Proofs.Ytdgjgpcfpkpnlaa
open Go.RowKit
open Wn (Wd)

/- what the document's Take answers -/
def RkR (w w' : World) (e : Ending) (r : Wd × Bool × Int) : Prop :=
  ∃ ad cap, e = .returned (.tuple #[wdV r.1.low ad r.1.seen.length cap, .bool r.2.1, .int .i64 r.2.2]) ∧ WdAt w' ad cap r.1 ∧ Gr w w'
theorem RkR.no {w w' : World} (c : Int) (h : Gr w w') : RkR w w' (.returned (.tuple #[wdV 0 none 0 0, .bool false, .int .i64 c])) (⟨0, []⟩, false, c) := ⟨none, 0, rfl, wd_zero _, h⟩
set_option maxHeartbeats 8000000 in
set_option maxRecDepth 100000 in
theorem rtake_bad (W : Wd) (q : Int) (ad : Option Addr) (cap : Nat) (w : World) (h : WdAt w ad cap W) (hb : ¬ (Wn.may W = true ∧ 1 ≤ q ∧ q ≤ 1000000000)) :
    Calls Try.prog 8 #[wdV W.low ad W.seen.length cap, .int .i64 q] w fun e w' => RkR w w' e (⟨0, []⟩, false, 2) := by
  have HM : Hid (∀ w', Gr w w' → Calls Try.prog 10 #[wdV W.low ad W.seen.length cap] w' fun e w2 => e = .returned (.int .i64 (mayE W)) ∧ Gr w' w2) := fun w' g => rmay_any W ad cap w' (h.gr g)
  clear h
  generalize W.seen.length = n at *
  generalize W.low = low at *
  by_cases hm : Wn.may W = true
  · have e0 : mayE W = 0 := by unfold mayE; rw [if_pos hm]
    rw [e0] at HM
    by_cases h1 : q < 1
    · clear hb
      go_enter Try.func8, Try.ntmps8
      go_wp2_with fail
      refine (HM.out _ (by repeat (first | exact Gr.refl _ | refine Gr.alloc ?_ | refine Gr.drew ?_ | refine Gr.trans ?_ (by assumption)))).mono ?_
      rintro e w1 ⟨rfl, hg1⟩
      have G1 : Hid (Gr w w1) := (Gr.refl w).alloc.alloc.trans hg1
      obtain ⟨c0, c1, f0, f1, lt⟩ := (Bx2.new (w.alloc (.cells #[.int .i64 low, .slice ad n cap] 24)) (.int .i64 0) (.slice none 0 0) 24 (w.heap.size + 1) (by simp)).gr hg1
      clear hg1
      go_wp2
      exact bodyPost_ret (v := .tuple #[wdV 0 none 0 0, .bool false, .int .i64 2]) (by simp [results, Try.results8, go_sem, *]) rfl (RkR.no 2 (gr_set2 G1.out _ (by omega) _ _))
    · have h2 : 1000000000 < q := by
        rcases Int.lt_or_le 1000000000 q with c | c
        · exact c
        · exact absurd ⟨hm, by omega, c⟩ hb
      clear hb
      go_enter Try.func8, Try.ntmps8
      go_wp2_with fail
      refine (HM.out _ (by repeat (first | exact Gr.refl _ | refine Gr.alloc ?_ | refine Gr.drew ?_ | refine Gr.trans ?_ (by assumption)))).mono ?_
      rintro e w1 ⟨rfl, hg1⟩
      have G1 : Hid (Gr w w1) := (Gr.refl w).alloc.alloc.trans hg1
      obtain ⟨c0, c1, f0, f1, lt⟩ := (Bx2.new (w.alloc (.cells #[.int .i64 low, .slice ad n cap] 24)) (.int .i64 0) (.slice none 0 0) 24 (w.heap.size + 1) (by simp)).gr hg1
      clear hg1
      go_wp2
      exact bodyPost_ret (v := .tuple #[wdV 0 none 0 0, .bool false, .int .i64 2]) (by simp [results, Try.results8, go_sem, *]) rfl (RkR.no 2 (gr_set2 G1.out _ (by omega) _ _))
  · have e0 : mayE W = 2 := by unfold mayE; rw [if_neg hm]
    rw [e0] at HM
    clear hb hm e0
    go_enter Try.func8, Try.ntmps8
    go_wp2_with fail
    refine (HM.out _ (by repeat (first | exact Gr.refl _ | refine Gr.alloc ?_ | refine Gr.drew ?_ | refine Gr.trans ?_ (by assumption)))).mono ?_
    rintro e w1 ⟨rfl, hg1⟩
    have G1 : Hid (Gr w w1) := (Gr.refl w).alloc.alloc.trans hg1
    obtain ⟨c0, c1, f0, f1, lt⟩ := (Bx2.new (w.alloc (.cells #[.int .i64 low, .slice ad n cap] 24)) (.int .i64 0) (.slice none 0 0) 24 (w.heap.size + 1) (by simp)).gr hg1
    clear hg1
    go_wp2
    exact bodyPost_ret (v := .tuple #[wdV 0 none 0 0, .bool false, .int .i64 2]) (by simp [results, Try.results8, go_sem, *]) rfl (RkR.no 2 (gr_set2 G1.out _ (by omega) _ _))
set_option maxHeartbeats 8000000 in
set_option maxRecDepth 100000 in
theorem rtake_far (W : Wd) (q : Int) (ad : Option Addr) (cap : Nat) (w : World) (h : WdAt w ad cap W) (hm : Wn.may W = true) (h1 : 1 ≤ q) (h2 : q ≤ 1000000000) (hf : W.low + 16 < q) :
    Calls Try.prog 8 #[wdV W.low ad W.seen.length cap, .int .i64 q] w fun e w' => RkR w w' e (⟨0, []⟩, false, 180) := by
  have HM : Hid (∀ w', Gr w w' → Calls Try.prog 10 #[wdV W.low ad W.seen.length cap] w' fun e w2 => e = .returned (.int .i64 (mayE W)) ∧ Gr w' w2) := fun w' g => rmay_any W ad cap w' (h.gr g)
  have hlo := ((Wn.may_iff W).1 hm).1
  have e0 : mayE W = 0 := by unfold mayE; rw [if_pos hm]
  rw [e0] at HM
  clear h hm e0
  generalize W.seen.length = n at *
  generalize W.low = low at *
  go_enter Try.func8, Try.ntmps8
  go_wp2_with fail
  refine (HM.out _ (by repeat (first | exact Gr.refl _ | refine Gr.alloc ?_ | refine Gr.drew ?_ | refine Gr.trans ?_ (by assumption)))).mono ?_
  rintro e w1 ⟨rfl, hg1⟩
  have G1 : Hid (Gr w w1) := (Gr.refl w).alloc.alloc.trans hg1
  obtain ⟨c0, c1, f0, f1, lt⟩ := (Bx2.new (w.alloc (.cells #[.int .i64 low, .slice ad n cap] 24)) (.int .i64 0) (.slice none 0 0) 24 (w.heap.size + 1) (by simp)).gr hg1
  obtain ⟨d0, d1, g0, g1, dt⟩ := ((Bx2.new w (.int .i64 low) (.slice ad n cap) 24 w.heap.size rfl).gr (Gr.refl _).alloc).gr hg1
  clear hg1
  go_wp2
  exact bodyPost_ret (v := .tuple #[wdV 0 none 0 0, .bool false, .int .i64 180]) (by simp [results, Try.results8, go_sem, *]) rfl (RkR.no 180 (gr_set2 G1.out _ (by omega) _ _))
set_option maxHeartbeats 8000000 in
set_option maxRecDepth 100000 in
theorem rtake_had (W : Wd) (q : Int) (ad : Option Addr) (cap : Nat) (w : World) (h : WdAt w ad cap W) (hm : Wn.may W = true) (h1 : 1 ≤ q) (h2 : q ≤ 1000000000) (hf : ¬ (W.low + 16 < q)) (hh : Wn.has W q = true) :
    Calls Try.prog 8 #[wdV W.low ad W.seen.length cap, .int .i64 q] w fun e w' => RkR w w' e (W, false, 0) := by
  have HM : Hid (∀ w', Gr w w' → Calls Try.prog 10 #[wdV W.low ad W.seen.length cap] w' fun e w2 => e = .returned (.int .i64 (mayE W)) ∧ Gr w' w2) := fun w' g => rmay_any W ad cap w' (h.gr g)
  have HH : Hid (∀ w', Gr w w' → Calls Try.prog 20 #[wdV W.low ad W.seen.length cap, .int .i64 q] w' fun e w2 => e = .returned (.bool (Wn.has W q)) ∧ Gr w' w2) := fun w' g => rhas_any W q ad cap w' (h.gr g)
  have hlo := ((Wn.may_iff W).1 hm).1
  have e0 : mayE W = 0 := by unfold mayE; rw [if_pos hm]
  rw [e0] at HM
  rw [hh] at HH
  have HW := Lib.hid h
  clear h hm e0 hh
  have HE : Hid (∀ w', Gr w w' → RkR w w' (.returned (.tuple #[wdV W.low ad W.seen.length cap, .bool false, .int .i64 0])) (W, false, 0)) := fun w' g => ⟨ad, cap, rfl, HW.out.gr g, g⟩
  clear HW
  generalize W.seen.length = n at *
  generalize W.low = low at *
  go_enter Try.func8, Try.ntmps8
  go_wp2_with fail
  refine (HM.out _ (by repeat (first | exact Gr.refl _ | refine Gr.alloc ?_ | refine Gr.drew ?_ | refine Gr.trans ?_ (by assumption)))).mono ?_
  rintro e w1 ⟨rfl, hg1⟩
  have G1 : Hid (Gr w w1) := (Gr.refl w).alloc.alloc.trans hg1
  have B1 := Lib.hid ((Bx2.new (w.alloc (.cells #[.int .i64 low, .slice ad n cap] 24)) (.int .i64 0) (.slice none 0 0) 24 (w.heap.size + 1) (by simp)).gr hg1)
  have A1 := Lib.hid (((Bx2.new w (.int .i64 low) (.slice ad n cap) 24 w.heap.size rfl).gr (Gr.refl _).alloc).gr hg1)
  obtain ⟨d0, d1, _, _, _⟩ := A1.out
  clear hg1 HM
  go_wp2_with fail
  refine (HH.out _ G1.out).mono ?_
  rintro e w2 ⟨rfl, hg2⟩
  have G2 := Lib.hid (G1.out.trans hg2)
  obtain ⟨c0, c1, f0, f1, lt⟩ := B1.out.gr hg2
  obtain ⟨k0, k1, _, _, _⟩ := A1.out.gr hg2
  clear d0 d1 hg2 HH
  go_wp2
  exact bodyPost_ret (v := .tuple #[wdV low ad n cap, .bool false, .int .i64 0]) (by simp [results, Try.results8, go_sem, *]) rfl (HE.out _ (gr_set2 G2.out _ (by omega) _ _))
end Go.Proofs.Ytdgjgpcfpkpnlaa
