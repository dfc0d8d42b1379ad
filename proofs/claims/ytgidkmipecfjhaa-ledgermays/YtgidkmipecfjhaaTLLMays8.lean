/- What the proof is made of, part 8. -/
import Derived.Test.YtgidkmipecfjhaaTLLMays7
import Derived.Lib.AppendZeros
import Derived.Laws.AppendOwnNone
import Derived.Deep.RegionHeld3
namespace Go.Proofs.Ytgidkmipecfjhaa
open Go.RowKit
open Led (Acc Mk)
theorem same_pots (A : List Acc) (M : List Mk) (hn : A.length ≤ 12) : (List.range 12).all (same4 (wrF A) (mvF A M)) = A.all (Led.potsB M) := by
  apply Bool.eq_iff_iff.2
  rw [same_all, List.all_eq_true]
  constructor
  · intro h x hx
    obtain ⟨i, hi, rfl⟩ := List.getElem_of_mem hx
    obtain ⟨h0, h1, h2, h3⟩ := h i (by omega)
    have hx : A[i]? = some A[i] := List.getElem?_eq_getElem hi
    unfold wrF mvF at h0 h1 h2 h3
    rw [show i * 4 / 4 = i by omega, show i * 4 % 4 = 0 by omega, hx] at h0
    rw [show (i * 4 + 1) / 4 = i by omega, show (i * 4 + 1) % 4 = 1 by omega, hx] at h1
    rw [show (i * 4 + 2) / 4 = i by omega, show (i * 4 + 2) % 4 = 2 by omega, hx] at h2
    rw [show (i * 4 + 3) / 4 = i by omega, show (i * 4 + 3) % 4 = 3 by omega, hx] at h3
    exact (Led.pots_iff M A[i]).2 ⟨h0, h1, h2, h3⟩
  · intro h i hi
    unfold wrF mvF
    rw [show i * 4 / 4 = i by omega, show i * 4 % 4 = 0 by omega, show (i * 4 + 1) / 4 = i by omega, show (i * 4 + 1) % 4 = 1 by omega, show (i * 4 + 2) / 4 = i by omega, show (i * 4 + 2) % 4 = 2 by omega, show (i * 4 + 3) / 4 = i by omega, show (i * 4 + 3) % 4 = 3 by omega]
    cases hx : A[i]? with
    | none => exact ⟨rfl, rfl, rfl, rfl⟩
    | some x => exact (Led.pots_iff M x).1 (h x (List.mem_of_getElem? hx))
def mayL (A : List Acc) (M : List Mk) : Int := if Led.mayB A M = true then 0 else 2
theorem mayL_yes {A : List Acc} {M : List Mk} (h : Led.mayB A M = true) : mayL A M = 0 := by unfold mayL; rw [if_pos h]
theorem mayL_no {A : List Acc} {M : List Mk} (h : Led.mayB A M = false) : mayL A M = 2 := by unfold mayL; rw [h]; rfl
theorem hold2a {a b : World} (g : Gr a b) {q0 q1 : Addr} {v0 v1 : Value} (h0 : a.cell? q0 = some v0) (h1 : a.cell? q1 = some v1) : Gr a b ∧ b.cell? q0 = some v0 ∧ b.cell? q1 = some v1 := ⟨g, g.keep h0, g.keep h1⟩
set_option maxHeartbeats 4000000 in
set_option maxRecDepth 100000 in
theorem may7_any (A : List Acc) (M : List Mk) (adA : Option Addr) (capA : Nat) (adM : Option Addr) (capM : Nat) (w : World) (hA : AccsAt w adA A) (hM : MksAt w adM M) (hrA : ∀ x ∈ A, inA x) (hrM : ∀ m ∈ M, inM m) (hnA : A.length ≤ 9223372036854775807) (hnM : M.length ≤ 9223372036854775807) :
    Calls Try.prog 14 #[.agg #[.slice adA A.length capA, .slice adM M.length capM]] w fun e w' => e = .returned (.int .i64 (mayL A M)) ∧ Gr w w' := by
  have H1 : Hid (∀ w', Gr w w' → Calls Try.prog 39 #[.slice adA A.length capA] w' fun e w2 => e = .returned (.bool (Led.accsB A)) ∧ Gr w' w2) := fun w' g => accs_any A adA capA w' (hA.gr g) hrA hnA
  have H2 : Hid (Led.accsB A = true → ∀ w', Gr w w' → Calls Try.prog 40 #[.slice adM M.length capM, .func (.func 30) #[.slice adA A.length capA] #[]] w' fun e w2 => e = .returned (.bool (Led.mksB A M)) ∧ Gr w' w2) := by
    intro h w' g
    obtain ⟨h1, h2, h3⟩ := (Led.accs_iff A).1 h
    exact mks_any A M adA capA adM capM w' (hA.gr g) h3 (by omega) (hM.gr g) hrM hnM
  have H3 : Hid (Led.accsB A = true → ∀ w', Gr w w' → Calls Try.prog 41 #[.slice adA A.length capA] w' fun e w2 => e = .returned (.agg (arrL (wrF A)).toArray) ∧ Gr w' w2) := by
    intro h w' g
    exact written_any A adA capA w' (hA.gr g) ((Led.accs_iff A).1 h).1
  have H4 : Hid (Led.accsB A = true → Led.mksB A M = true → ∀ w', Gr w w' → Calls Try.prog 42 #[.slice adM M.length capM, .func (.func 30) #[.slice adA A.length capA] #[]] w' fun e w2 => e = .returned (.agg (arrL (mvF A M)).toArray) ∧ Gr w' w2) := by
    intro h h' w' g
    obtain ⟨h1, h2, h3⟩ := (Led.accs_iff A).1 h
    exact moved_any A M adA capA adM capM w' (hA.gr g) h3 h1 (hM.gr g) h'
  have HS : Hid (Led.accsB A = true → (List.range 12).all (same4 (wrF A) (mvF A M)) = A.all (Led.potsB M)) := fun h => same_pots A M ((Led.accs_iff A).1 h).1
  have hmf : ∀ (fn : Fn) (first cap : Array Value) (w : World), (Instr.makeFunc fn first cap).run Try.prog w = .ok (.func fn first cap) w := fun _ _ _ _ => rfl
  clear hA hM hrA hrM hnA hnM
  have HE : Hid (Led.mayB A M = (Led.accsB A && Led.mksB A M && A.all (Led.potsB M))) := rfl
  have c0 : (w.alloc (.cells #[.slice adA A.length capA, .slice adM M.length capM] 25)).cell? ⟨w.heap.size, 0, none⟩ = some (.slice adA A.length capA) := by simp
  have c1 : (w.alloc (.cells #[.slice adA A.length capA, .slice adM M.length capM] 25)).cell? ⟨w.heap.size, 1, none⟩ = some (.slice adM M.length capM) := by simp
  obtain ⟨W, hW⟩ : ∃ W, W = w.alloc (.cells #[.slice adA A.length capA, .slice adM M.length capM] 25) := ⟨_, rfl⟩
  have HGW : Hid (Gr w W) := by show Gr _ _; rw [hW]; exact (Gr.refl _).alloc
  rw [← hW] at c0 c1
  cases ha : Led.accsB A with
  | false =>
    rw [ha] at H1
    have HF : Hid (mayL A M = 2) := by show _ = _; refine mayL_no ?_; rw [HE.out, ha]; rfl
    clear H2 H3 H4 HS ha HE
    go_enter Try.func14, Try.ntmps14
    go_wp2_with fail
    rw [← hW]
    clear hW
    refine wp_region_held_drew (S := (fun w' => Gr W w' ∧ w'.cell? ⟨w.heap.size, 0, none⟩ = some (.slice adA A.length capA) ∧ w'.cell? ⟨w.heap.size, 1, none⟩ = some (.slice adM M.length capM))) (by kernel_rfl) (by exact hold2a (by (with_reducible repeat' (first | exact Gr.refl _ | refine Gr.set ?_ _ ?_ _ | refine Gr.alloc ?_ | refine Gr.drew ?_ | refine Gr.trans ?_ (by assumption))) <;> (first | (simp; done) | (simp; omega) | omega)) c0 c1) (fun hHeld => ?_)
    refine ty 0 7 hHeld ?_
    refine ty 1 8 hHeld ?_
    refine wpAnyH_ready (rs := [2]) (by kernel_rfl) (by simp) (AllReadyH.cons rfl (fun K hK => ?_) AllReadyH.nil)
    go_simp
    (go_at_call 39; refine (H1.out _ (HGW.out.trans (by (with_reducible repeat' (first | exact Gr.refl _ | refine Gr.set ?_ _ ?_ _ | refine Gr.alloc ?_ | refine Gr.drew ?_ | refine Gr.trans ?_ (by assumption))) <;> (first | (simp; done) | (simp; omega) | omega)))).mono ?_; rintro e wn ⟨rfl, hgn⟩)
    (try go_wp2_with fail)
    refine hK.out _ _ (by exact hold2a (by (with_reducible repeat' (first | exact Gr.refl _ | refine Gr.set ?_ _ ?_ _ | refine Gr.alloc ?_ | refine Gr.drew ?_ | refine Gr.trans ?_ (by assumption))) <;> (first | (simp; done) | (simp; omega) | omega)) c0 c1) (fun hHeldN => ?_)
    clear hHeld hK K
    have hHeld := hHeldN
    clear hHeldN
    refine ty 3 10 hHeld ?_
    refine ty 4 11 hHeld ?_
    refine tn 5 12 hHeld ?_
    refine tn 6 13 hHeld ?_
    refine tn 7 14 hHeld ?_
    refine tn 8 15 hHeld ?_
    refine tn 9 16 hHeld ?_
    refine ty 10 17 hHeld ?_
    refine ty 11 18 hHeld ?_
    refine tn 12 19 hHeld ?_
    refine tn 13 20 hHeld ?_
    refine tn 14 21 hHeld ?_
    refine tn 15 22 hHeld ?_
    refine tn 16 23 hHeld ?_
    refine tn 17 24 hHeld ?_
    refine tn 18 25 hHeld ?_
    refine tn 19 26 hHeld ?_
    refine ty 20 27 hHeld ?_
    refine wpAnyH_done (by kernel_rfl) ?_ _
    go_wp2
    go_ret
    exact ⟨by rw [HF.out]; rfl, HGW.out.trans (by (with_reducible repeat' (first | exact Gr.refl _ | refine Gr.set ?_ _ ?_ _ | refine Gr.alloc ?_ | refine Gr.drew ?_ | refine Gr.trans ?_ (by assumption))) <;> (first | (simp; done) | (simp; omega) | omega))⟩
  | true =>
    rw [ha] at H1
    have H2 := Hid.out H2 ha
    have H3 := Hid.out H3 ha
    have H4 := Hid.out H4 ha
    have HS := Hid.out HS ha
    cases hm : Led.mksB A M with
    | false =>
      rw [hm] at H2
      have HF : Hid (mayL A M = 2) := by show _ = _; refine mayL_no ?_; rw [HE.out, ha, hm]; rfl
      have H2 : Hid (∀ w', Gr w w' → Calls Try.prog 40 #[.slice adM M.length capM, .func (.func 30) #[.slice adA A.length capA] #[]] w' fun e w2 => e = .returned (.bool false) ∧ Gr w' w2) := H2
      clear H3 H4 HS ha hm HE
      go_enter Try.func14, Try.ntmps14
      go_wp2_with fail
      rw [← hW]
      clear hW
      refine wp_region_held_drew (S := (fun w' => Gr W w' ∧ w'.cell? ⟨w.heap.size, 0, none⟩ = some (.slice adA A.length capA) ∧ w'.cell? ⟨w.heap.size, 1, none⟩ = some (.slice adM M.length capM))) (by kernel_rfl) (by exact hold2a (by (with_reducible repeat' (first | exact Gr.refl _ | refine Gr.set ?_ _ ?_ _ | refine Gr.alloc ?_ | refine Gr.drew ?_ | refine Gr.trans ?_ (by assumption))) <;> (first | (simp; done) | (simp; omega) | omega)) c0 c1) (fun hHeld => ?_)
      refine ty 0 7 hHeld ?_
      refine ty 1 8 hHeld ?_
      refine wpAnyH_ready (rs := [2]) (by kernel_rfl) (by simp) (AllReadyH.cons rfl (fun K hK => ?_) AllReadyH.nil)
      go_simp
      (go_at_call 39; refine (H1.out _ (HGW.out.trans (by (with_reducible repeat' (first | exact Gr.refl _ | refine Gr.set ?_ _ ?_ _ | refine Gr.alloc ?_ | refine Gr.drew ?_ | refine Gr.trans ?_ (by assumption))) <;> (first | (simp; done) | (simp; omega) | omega)))).mono ?_; rintro e wn ⟨rfl, hgn⟩)
      (try go_wp2_with fail)
      refine hK.out _ _ (by exact hold2a (by (with_reducible repeat' (first | exact Gr.refl _ | refine Gr.set ?_ _ ?_ _ | refine Gr.alloc ?_ | refine Gr.drew ?_ | refine Gr.trans ?_ (by assumption))) <;> (first | (simp; done) | (simp; omega) | omega)) c0 c1) (fun hHeldN => ?_)
      clear hHeld hK K
      have hHeld := hHeldN
      clear hHeldN
      refine ty 3 10 hHeld ?_
      refine ty 4 11 hHeld ?_
      refine ty 5 12 hHeld ?_
      refine ty 6 13 hHeld ?_
      refine ty 7 14 hHeld ?_
      refine wpAnyH_ready (rs := [8]) (by kernel_rfl) (by simp) (AllReadyH.cons rfl (fun K hK => ?_) AllReadyH.nil)
      go_simp
      (go_at_call 40; refine (H2.out _ (HGW.out.trans (by (with_reducible repeat' (first | exact Gr.refl _ | refine Gr.set ?_ _ ?_ _ | refine Gr.alloc ?_ | refine Gr.drew ?_ | refine Gr.trans ?_ (by assumption))) <;> (first | (simp; done) | (simp; omega) | omega)))).mono ?_; rintro e wn2 ⟨rfl, hgn2⟩)
      (try go_wp2_with fail)
      refine hK.out _ _ (by exact hold2a (by (with_reducible repeat' (first | exact Gr.refl _ | refine Gr.set ?_ _ ?_ _ | refine Gr.alloc ?_ | refine Gr.drew ?_ | refine Gr.trans ?_ (by assumption))) <;> (first | (simp; done) | (simp; omega) | omega)) c0 c1) (fun hHeldN => ?_)
      clear hHeld hK K
      have hHeld := hHeldN
      clear hHeldN
      refine ty 9 16 hHeld ?_
      refine ty 10 17 hHeld ?_
      refine ty 11 18 hHeld ?_
      refine tn 12 19 hHeld ?_
      refine tn 13 20 hHeld ?_
      refine tn 14 21 hHeld ?_
      refine tn 15 22 hHeld ?_
      refine tn 16 23 hHeld ?_
      refine tn 17 24 hHeld ?_
      refine tn 18 25 hHeld ?_
      refine tn 19 26 hHeld ?_
      refine ty 20 27 hHeld ?_
      refine wpAnyH_done (by kernel_rfl) ?_ _
      go_wp2
      go_ret
      exact ⟨by rw [HF.out]; rfl, HGW.out.trans (by (with_reducible repeat' (first | exact Gr.refl _ | refine Gr.set ?_ _ ?_ _ | refine Gr.alloc ?_ | refine Gr.drew ?_ | refine Gr.trans ?_ (by assumption))) <;> (first | (simp; done) | (simp; omega) | omega))⟩
    | true =>
      rw [hm] at H2
      have H4 := H4 hm
      have hne : ∀ w : World, (Op.equalIn 10000 82 (.agg (arrL (wrF A)).toArray) (.agg (arrL (mvF A M)).toArray)).run Try.prog w = .ok (A.all (Led.potsB M)) w := by intro w; rw [← HS]; exact arr_eqIn w 9997 _ _
      have HN : Hid (∀ w : World, (Op.equalIn 10000 82 (.agg (arrL (wrF A)).toArray) (.agg (arrL (mvF A M)).toArray)).run Try.prog w = .ok (A.all (Led.potsB M)) w) := hne
      have HF : Hid (mayL A M = if A.all (Led.potsB M) = true then 0 else 2) := by
        show _ = _
        unfold mayL
        rw [HE.out, ha, hm]; rfl
      have H2 : Hid (∀ w', Gr w w' → Calls Try.prog 40 #[.slice adM M.length capM, .func (.func 30) #[.slice adA A.length capA] #[]] w' fun e w2 => e = .returned (.bool true) ∧ Gr w' w2) := H2
      have H3 : Hid (∀ w', Gr w w' → Calls Try.prog 41 #[.slice adA A.length capA] w' fun e w2 => e = .returned (.agg (arrL (wrF A)).toArray) ∧ Gr w' w2) := H3
      have H4 : Hid (∀ w', Gr w w' → Calls Try.prog 42 #[.slice adM M.length capM, .func (.func 30) #[.slice adA A.length capA] #[]] w' fun e w2 => e = .returned (.agg (arrL (mvF A M)).toArray) ∧ Gr w' w2) := H4
      clear HS ha hm HE hne
      generalize (arrL (wrF A)).toArray = x1 at *
      generalize (arrL (mvF A M)).toArray = x2 at *
      generalize A.all (Led.potsB M) = pb at *
      go_enter Try.func14, Try.ntmps14
      go_wp2_with fail
      rw [← hW]
      clear hW
      refine wp_region_held_drew (S := (fun w' => Gr W w' ∧ w'.cell? ⟨w.heap.size, 0, none⟩ = some (.slice adA A.length capA) ∧ w'.cell? ⟨w.heap.size, 1, none⟩ = some (.slice adM M.length capM))) (by kernel_rfl) (by exact hold2a (by (with_reducible repeat' (first | exact Gr.refl _ | refine Gr.set ?_ _ ?_ _ | refine Gr.alloc ?_ | refine Gr.drew ?_ | refine Gr.trans ?_ (by assumption))) <;> (first | (simp; done) | (simp; omega) | omega)) c0 c1) (fun hHeld => ?_)
      refine ty 0 7 hHeld ?_
      refine ty 1 8 hHeld ?_
      refine wpAnyH_ready (rs := [2]) (by kernel_rfl) (by simp) (AllReadyH.cons rfl (fun K hK => ?_) AllReadyH.nil)
      go_simp
      (go_at_call 39; refine (H1.out _ (HGW.out.trans (by (with_reducible repeat' (first | exact Gr.refl _ | refine Gr.set ?_ _ ?_ _ | refine Gr.alloc ?_ | refine Gr.drew ?_ | refine Gr.trans ?_ (by assumption))) <;> (first | (simp; done) | (simp; omega) | omega)))).mono ?_; rintro e wn ⟨rfl, hgn⟩)
      (try go_wp2_with fail)
      refine hK.out _ _ (by exact hold2a (by (with_reducible repeat' (first | exact Gr.refl _ | refine Gr.set ?_ _ ?_ _ | refine Gr.alloc ?_ | refine Gr.drew ?_ | refine Gr.trans ?_ (by assumption))) <;> (first | (simp; done) | (simp; omega) | omega)) c0 c1) (fun hHeldN => ?_)
      clear hHeld hK K
      have hHeld := hHeldN
      clear hHeldN
      refine ty 3 10 hHeld ?_
      refine ty 4 11 hHeld ?_
      refine ty 5 12 hHeld ?_
      refine ty 6 13 hHeld ?_
      refine ty 7 14 hHeld ?_
      refine wpAnyH_ready (rs := [8]) (by kernel_rfl) (by simp) (AllReadyH.cons rfl (fun K hK => ?_) AllReadyH.nil)
      go_simp
      (go_at_call 40; refine (H2.out _ (HGW.out.trans (by (with_reducible repeat' (first | exact Gr.refl _ | refine Gr.set ?_ _ ?_ _ | refine Gr.alloc ?_ | refine Gr.drew ?_ | refine Gr.trans ?_ (by assumption))) <;> (first | (simp; done) | (simp; omega) | omega)))).mono ?_; rintro e wn2 ⟨rfl, hgn2⟩)
      (try go_wp2_with fail)
      refine hK.out _ _ (by exact hold2a (by (with_reducible repeat' (first | exact Gr.refl _ | refine Gr.set ?_ _ ?_ _ | refine Gr.alloc ?_ | refine Gr.drew ?_ | refine Gr.trans ?_ (by assumption))) <;> (first | (simp; done) | (simp; omega) | omega)) c0 c1) (fun hHeldN => ?_)
      clear hHeld hK K
      have hHeld := hHeldN
      clear hHeldN
      refine ty 9 16 hHeld ?_
      refine ty 10 17 hHeld ?_
      refine ty 11 18 hHeld ?_
      refine ty 12 19 hHeld ?_
      refine ty 13 20 hHeld ?_
      refine ty 15 22 hHeld ?_
      refine ty 16 23 hHeld ?_
      refine ty 17 24 hHeld ?_
      refine wpAnyH_ready (rs := [14]) (by kernel_rfl) (by simp) (AllReadyH.cons rfl (fun K hK => ?_) AllReadyH.nil)
      go_simp
      (go_at_call 41; refine (H3.out _ (HGW.out.trans (by (with_reducible repeat' (first | exact Gr.refl _ | refine Gr.set ?_ _ ?_ _ | refine Gr.alloc ?_ | refine Gr.drew ?_ | refine Gr.trans ?_ (by assumption))) <;> (first | (simp; done) | (simp; omega) | omega)))).mono ?_; rintro e wn3 ⟨rfl, hgn3⟩)
      (try go_wp2_with fail)
      refine hK.out _ _ (by exact hold2a (by (with_reducible repeat' (first | exact Gr.refl _ | refine Gr.set ?_ _ ?_ _ | refine Gr.alloc ?_ | refine Gr.drew ?_ | refine Gr.trans ?_ (by assumption))) <;> (first | (simp; done) | (simp; omega) | omega)) c0 c1) (fun hHeldN => ?_)
      clear hHeld hK K
      have hHeld := hHeldN
      clear hHeldN
      refine wpAnyH_ready (rs := [18]) (by kernel_rfl) (by simp) (AllReadyH.cons rfl (fun K hK => ?_) AllReadyH.nil)
      go_simp
      (go_at_call 42; refine (H4.out _ (HGW.out.trans (by (with_reducible repeat' (first | exact Gr.refl _ | refine Gr.set ?_ _ ?_ _ | refine Gr.alloc ?_ | refine Gr.drew ?_ | refine Gr.trans ?_ (by assumption))) <;> (first | (simp; done) | (simp; omega) | omega)))).mono ?_; rintro e wn4 ⟨rfl, hgn4⟩)
      (try go_wp2_with fail)
      refine hK.out _ _ (by exact hold2a (by (with_reducible repeat' (first | exact Gr.refl _ | refine Gr.set ?_ _ ?_ _ | refine Gr.alloc ?_ | refine Gr.drew ?_ | refine Gr.trans ?_ (by assumption))) <;> (first | (simp; done) | (simp; omega) | omega)) c0 c1) (fun hHeldN => ?_)
      clear hHeld hK K
      have hHeld := hHeldN
      clear hHeldN
      refine take_yes 19 26 (v := (.bool (!pb))) rfl rfl (by kernel_rfl) (by kernel_rfl) (by kernel_rfl) (fun _ _ _ h => h) (by rfl) (by (intro w hSw; have hn := HN.out w; clear hHeld hSw; go_simp)) hHeld ?_
      simp only [Act.put, List.setIfInBounds_toArray, List.set_cons_zero, List.set_cons_succ]
      refine ty 20 27 hHeld ?_
      refine wpAnyH_done (by kernel_rfl) ?_ _
      cases pb
      · go_wp2
        go_ret
        exact ⟨by rw [HF.out]; rfl, HGW.out.trans (by (with_reducible repeat' (first | exact Gr.refl _ | refine Gr.set ?_ _ ?_ _ | refine Gr.alloc ?_ | refine Gr.drew ?_ | refine Gr.trans ?_ (by assumption))) <;> (first | (simp; done) | (simp; omega) | omega))⟩
      · go_wp2
        go_ret
        exact ⟨by rw [HF.out]; rfl, HGW.out.trans (by (with_reducible repeat' (first | exact Gr.refl _ | refine Gr.set ?_ _ ?_ _ | refine Gr.alloc ?_ | refine Gr.drew ?_ | refine Gr.trans ?_ (by assumption))) <;> (first | (simp; done) | (simp; omega) | omega))⟩
end Go.Proofs.Ytgidkmipecfjhaa
namespace Go.Proofs.Ytgidkmipecfjhaa
open Go.RowKit
open Led (Acc Mk)
theorem own_litA (w : World) (base : Nat) (t : TypeId) (g : Nat) (hg : g = w.heap.size) (hb : base ≤ w.heap.size) : (w.alloc (.cells #[] t)).ownsRow base t 7 (.slice (some ⟨g, 0, none⟩) 0 0) 0 [] := by
  subst hg; exact World.ownsRow_lit w #[] 0 hb (by unfold maxLen; omega) rfl
theorem own_litM (w : World) (base : Nat) (t : TypeId) (g : Nat) (hg : g = w.heap.size) (hb : base ≤ w.heap.size) : (w.alloc (.cells #[] t)).ownsRow base t 5 (.slice (some ⟨g, 0, none⟩) 0 0) 0 [] := by
  subst hg; exact World.ownsRow_lit w #[] 0 hb (by unfold maxLen; omega) rfl
set_option maxHeartbeats 1000000 in
set_option maxRecDepth 100000 in
theorem cloneA_any (A : List Acc) (ad : Option Addr) (cap : Nat) (w : World) (hA : AccsAt w ad A) (hn : A.length ≤ 1000000) :
    Calls Try.prog 78 #[.slice ad A.length cap] w fun e w' => ∃ v, e = .returned v ∧ w'.ownsRow w.heap.size 31 7 v A.length (A.flatMap accC) ∧ Gr w w' := by
  obtain ⟨i0, hi, hz0, hz1, hz2⟩ := info_parts infoAcc
  cases ad with
  | none =>
    have hnil := RowAt.none accC_len (by omega) hA
    subst hnil
    have he : ∀ w : World, (binOp .eql 22 (.slice none 0 cap) (.slice none 0 0)).run Try.prog w = .ok (.bool true) w := fun _ => rfl
    clear hA hi hz0 hz1 hz2 hn
    rw [List.length_nil]
    go_enter Try.func78, Try.ntmps78
    go_wp2
    go_ret
    exact ⟨_, rfl, World.ownsRow_nil _ _ _ _, (by repeat (first | exact Gr.refl _ | refine Gr.alloc ?_ | refine Gr.drew ?_ | refine Gr.trans ?_ (by assumption)))⟩
  | some a =>
    have hnews := (hA.gr ((Gr.refl w).alloc (o := .cells #[] 31))).news
    have HN : Hid (∀ j u, (A.flatMap accC)[j]? = some u → (w.alloc (.cells #[] 31)).cell? (a.add j) = some u) := hnews
    have hln : (A.flatMap accC).length = A.length * 7 := flat_len accC_len A
    have hm1 : 0 + A.length ≤ maxLen := by unfold maxLen; omega
    clear hA hnews
    have he : ∀ w : World, (binOp .eql 22 (.slice (some a) A.length cap) (.slice none 0 0)).run Try.prog w = .ok (.bool false) w := fun _ => rfl
    go_enter Try.func78, Try.ntmps78
    go_wp2_with (first
      | (at_builtin; refine wpList_append_own _ rfl _ _ 22 rfl w.heap.size 31 i0 (.agg #[.string ⟨#[]⟩, .int .i64 0, .int .i64 0, .int .i64 0, .int .i64 0, .int .i64 0, .int .i64 0]) 7 64 Try.underlying22 hi hz0 hz1 hz2 rfl (by decide) _ _ _ rfl (own_litA _ _ _ _ (by simp) (by simp)) a A.length cap (A.flatMap accC) rfl hln HN.out (acc_one A) hm1 (by omega) (by simp) ?_)
      | fail)
    intro v' w1 hown' hgrow _
    have HI : Hid (w1.ownsRow w.heap.size 31 7 v' A.length (A.flatMap accC)) := by
      show World.ownsRow _ _ _ _ _ _ _
      simpa using hown'
    have hb1 : Below w.heap.size w (w.alloc (.cells #[] 31)) := (Below.refl w.heap.size w).alloc (Nat.le_refl _) _
    have HG : Hid (Gr w w1) := ⟨hb1.grown hgrow (by simp) (fun k hk => by simp [Value.ownBlock] at hk; omega)⟩
    clear hown'
    go_wp2
    go_ret
    exact ⟨v', rfl, HI.out, HG.out⟩
set_option maxHeartbeats 1000000 in
set_option maxRecDepth 100000 in
theorem cloneM_any (M : List Mk) (ad : Option Addr) (cap : Nat) (w : World) (hM : MksAt w ad M) (hn : M.length ≤ 1000000) :
    Calls Try.prog 79 #[.slice ad M.length cap] w fun e w' => ∃ v, e = .returned v ∧ w'.ownsRow w.heap.size 64 5 v M.length (M.flatMap mkC) ∧ Gr w w' := by
  obtain ⟨i0, hi, hz0, hz1, hz2⟩ := info_parts infoMk
  cases ad with
  | none =>
    have hnil := RowAt.none mkC_len (by omega) hM
    subst hnil
    have he : ∀ w : World, (binOp .eql 23 (.slice none 0 cap) (.slice none 0 0)).run Try.prog w = .ok (.bool true) w := fun _ => rfl
    clear hM hi hz0 hz1 hz2 hn
    rw [List.length_nil]
    go_enter Try.func79, Try.ntmps79
    go_wp2
    go_ret
    exact ⟨_, rfl, World.ownsRow_nil _ _ _ _, (by repeat (first | exact Gr.refl _ | refine Gr.alloc ?_ | refine Gr.drew ?_ | refine Gr.trans ?_ (by assumption)))⟩
  | some a =>
    have hnews := (hM.gr ((Gr.refl w).alloc (o := .cells #[] 64))).news
    have HN : Hid (∀ j u, (M.flatMap mkC)[j]? = some u → (w.alloc (.cells #[] 64)).cell? (a.add j) = some u) := hnews
    have hln : (M.flatMap mkC).length = M.length * 5 := flat_len mkC_len M
    have hm1 : 0 + M.length ≤ maxLen := by unfold maxLen; omega
    clear hM hnews
    have he : ∀ w : World, (binOp .eql 23 (.slice (some a) M.length cap) (.slice none 0 0)).run Try.prog w = .ok (.bool false) w := fun _ => rfl
    go_enter Try.func79, Try.ntmps79
    go_wp2_with (first
      | (at_builtin; refine wpList_append_own _ rfl _ _ 23 rfl w.heap.size 64 i0 (.agg #[.string ⟨#[]⟩, .int .i64 0, .string ⟨#[]⟩, .int .i64 0, .int .i64 0]) 5 56 Try.underlying23 hi hz0 hz1 hz2 rfl (by decide) _ _ _ rfl (own_litM _ _ _ _ (by simp) (by simp)) a M.length cap (M.flatMap mkC) rfl hln HN.out (mk_one M) hm1 (by omega) (by simp) ?_)
      | fail)
    intro v' w1 hown' hgrow _
    have HI : Hid (w1.ownsRow w.heap.size 64 5 v' M.length (M.flatMap mkC)) := by
      show World.ownsRow _ _ _ _ _ _ _
      simpa using hown'
    have hb1 : Below w.heap.size w (w.alloc (.cells #[] 64)) := (Below.refl w.heap.size w).alloc (Nat.le_refl _) _
    have HG : Hid (Gr w w1) := ⟨hb1.grown hgrow (by simp) (fun k hk => by simp [Value.ownBlock] at hk; omega)⟩
    clear hown'
    go_wp2
    go_ret
    exact ⟨v', rfl, HI.out, HG.out⟩
end Go.Proofs.Ytgidkmipecfjhaa
namespace Go.Proofs.Ytgidkmipecfjhaa
open Go.RowKit
theorem own_low {w : World} {base base' : Nat} {e : TypeId} {size n : Nat} {v : Value} {xs : List Value} (h : w.ownsRow base e size v n xs) (hb : base' ≤ base) : w.ownsRow base' e size v n xs := by
  obtain ⟨h1, ⟨rfl, h2⟩ | ⟨g, cap, cur, rfl, h3, h4⟩⟩ := h
  · exact ⟨h1, Or.inl ⟨rfl, h2⟩⟩
  · exact ⟨h1, Or.inr ⟨g, cap, cur, rfl, Nat.le_trans hb h3, h4⟩⟩
theorem Gr.grown {a b c : World} (h : Gr a b) {r : Option Nat} (k : b.grownBy c r) (hr : ∀ g, r = some g → a.heap.size ≤ g) : Gr a c := ⟨h.below.grown k h.below.size hr⟩
end Go.Proofs.Ytgidkmipecfjhaa
