/- the document's Child, of an id whose hops lie somewhere (no nil slice). -/
import Derived.Test.YtecpppppadoppaaDoorRFamP
import Derived.Test.YtecpppppadoppaaDoorReadP
namespace Go.Proofs.YtecpppppadoppaaDoor
open Go.RowKit

theorem pathB_init (l m : List Int) : ∀ seen, Idn.pathB seen (l ++ m) = true → Idn.pathB seen l = true := by
  induction l with
  | nil => intro seen _; rfl
  | cons o t ih =>
    intro seen h
    rw [List.cons_append, Idn.pathB] at h
    rw [Idn.pathB]
    rw [Bool.and_eq_true] at h ⊢
    exact ⟨h.1, ih _ h.2⟩
theorem may_init (r n : Int) (L : List (Int × Int)) (h : Int × Int) (hm : Idn.mayB r n (L ++ [h]) = true) : Idn.mayB r n L = true := by
  unfold Idn.mayB at *
  simp only [Bool.and_eq_true, decide_eq_true_eq] at *
  obtain ⟨⟨⟨⟨h1, h2⟩, h3⟩, h4⟩, h5⟩ := hm
  refine ⟨⟨⟨⟨h1, h2⟩, ?_⟩, ?_⟩, ?_⟩
  · rw [List.length_append] at h3; simp at h3; omega
  · unfold Idn.stepsB at *
    rw [List.all_append, Bool.and_eq_true] at h4
    exact h4.1
  · have e : Idn.path r (L ++ [h]) = Idn.path r L ++ [h.2] := by simp [Idn.path]
    rw [e] at h5
    exact pathB_init _ _ _ h5

set_option maxHeartbeats 8000000 in
set_option maxRecDepth 100000 in
theorem refChild_some (r n s o : Int) (L : List (Int × Int)) (a : Addr) (cap : Nat) (w : World) (hL : HopsAt w (some a) L) (hn : L.length ≤ 900) :
    Calls Tryd.prog 21 #[.agg #[.int .i64 r, .int .i64 n, .slice (some a) L.length cap], .int .i64 s, .int .i64 o] w fun e w' =>
      ((Idn.mayB r n (L ++ [(s, o)]) = true ∧ ∃ ad2 cap2, e = .returned (.tuple #[.agg #[.int .i64 r, .int .i64 n, .slice ad2 (L.length + 1) cap2], .int .i64 0]) ∧ L.length + 1 ≤ cap2 ∧ HopsAt w' ad2 (L ++ [(s, o)])) ∨
       (Idn.mayB r n (L ++ [(s, o)]) = false ∧ e = .returned (.tuple #[.agg #[.int .i64 0, .int .i64 0, .slice none 0 0], .int .i64 30]))) ∧ Gr w w' := by
  obtain ⟨i0, hi, hz0, hz1, hz2⟩ := info_parts infoHop
  have HC : Hid (∀ w', Gr w w' → Calls Tryd.prog 10 #[.agg #[.int .i64 r, .int .i64 n, .slice (some a) L.length cap]] w' fun e w2 => e = .returned (.int .i64 (errB (Idn.mayB r n L))) ∧ Gr w' w2) := fun w' g => refCheck_any r n L (some a) cap w' (hL.gr g) (by omega)
  have HD : Hid (∀ (w' : World) (ad2 : Option Addr) (cap2 : Nat), HopsAt w' ad2 (L ++ [(s, o)]) → Calls Tryd.prog 10 #[.agg #[.int .i64 r, .int .i64 n, .slice ad2 (L.length + 1) cap2]] w' fun e w2 => e = .returned (.int .i64 (errB (Idn.mayB r n (L ++ [(s, o)])))) ∧ Gr w' w2) := by
    intro w' ad2 cap2 h
    have := refCheck_any r n (L ++ [(s, o)]) ad2 cap2 w' h (by simp; omega)
    rw [List.length_append] at this
    exact this
  have HIN : Hid (Idn.mayB r n (L ++ [(s, o)]) = true → Idn.mayB r n L = true) := may_init r n L (s, o)
  have HL : Hid (HopsAt w (some a) L) := hL
  have hm0 : 0 + L.length ≤ maxLen := by unfold maxLen; omega
  have hm1 : L.length + 1 ≤ maxLen := by unfold maxLen; omega
  have hln := hopV_len L
  clear hL
  · have HN : Hid (∀ (w' : World), Gr w w' → ∀ j u, (hopV L)[j]? = some u → w'.cell? (a.add j) = some u) := by
      intro w' g
      cases L with
      | nil => intro j u hu; simp [hopV] at hu
      | cons x t =>
        obtain ⟨b, off, e, _⟩ := HL.out 0 (by simp)
        cases e
        exact (HL.out.gr g).news
    clear HL
    go_enter Tryd.func21, Tryd.ntmps21
    go_wp2_with (first
      | (at_builtin; refine wpList_append_own _ rfl _ _ 22 rfl (w.heap.size + 1 + 1 + 1) 55 i0 (.agg #[.int .i64 0, .int .i64 0]) 2 16 Tryd.underlying22 hi hz0 hz1 hz2 rfl (by decide) _ _ _ rfl (own_lit0 _ _ _ _ (by simp) (by simp)) a L.length cap (hopV L) rfl hln (HN.out _ (by repeat (first | exact Gr.refl _ | refine Gr.alloc ?_ | refine Gr.drew ?_ | refine Gr.trans ?_ (by assumption)))) (hopV_one L) hm0 (by omega) (by simp) ?_)
      | fail)
    intro v1 w1 hown1 hgrow1 _
    have hbW : Below (w.heap.size + 1 + 1 + 1) ((((w.alloc (.cells #[.int .i64 r, .int .i64 n, .slice (some a) L.length cap] 24)).alloc (.cells #[.int .i64 0, .int .i64 0, .slice none 0 0] 24)).alloc (.cells #[.int .i64 r, .int .i64 n, .slice none 0 0] 24)).alloc (.cells #[] 55)) w1 := (Below.refl _ _).grown hgrow1 (by simp) (fun k hk => by simp [Value.ownBlock] at hk; omega)
    clear hgrow1
    have k1 : BoxAt w1 w.heap.size (.int .i64 r) (.int .i64 n) (.slice (some a) L.length cap) := ((BoxAt.new w (.int .i64 r) (.int .i64 n) (.slice (some a) L.length cap) 24 w.heap.size rfl).gr (Gr.refl _).alloc.alloc.alloc).below hbW (by omega)
    have k2 : BoxAt w1 (w.heap.size + 1) (.int .i64 0) (.int .i64 0) (.slice none 0 0) := ((BoxAt.new (w.alloc (.cells #[.int .i64 r, .int .i64 n, .slice (some a) L.length cap] 24)) (.int .i64 0) (.int .i64 0) (.slice none 0 0) 24 (w.heap.size + 1) (by simp)).gr (Gr.refl _).alloc.alloc).below hbW (by omega)
    have k3 : BoxAt w1 (w.heap.size + 1 + 1) (.int .i64 r) (.int .i64 n) (.slice none 0 0) := ((BoxAt.new ((w.alloc (.cells #[.int .i64 r, .int .i64 n, .slice (some a) L.length cap] 24)).alloc (.cells #[.int .i64 0, .int .i64 0, .slice none 0 0] 24)) (.int .i64 r) (.int .i64 n) (.slice none 0 0) 24 (w.heap.size + 1 + 1) (by simp)).gr (Gr.refl _).alloc).below hbW (by omega)
    have hg1 : Gr w w1 := ⟨(show Gr w ((((w.alloc (.cells #[.int .i64 r, .int .i64 n, .slice (some a) L.length cap] 24)).alloc (.cells #[.int .i64 0, .int .i64 0, .slice none 0 0] 24)).alloc (.cells #[.int .i64 r, .int .i64 n, .slice none 0 0] 24)).alloc (.cells #[] 55)) from (Gr.refl _).alloc.alloc.alloc.alloc).below.trans (hbW.mono (by omega))⟩
    have hs1 : w.heap.size + 1 + 1 + 1 ≤ w1.heap.size := by have := hbW.size; simp at this; omega
    have K1 : Hid (BoxAt w1 w.heap.size (.int .i64 r) (.int .i64 n) (.slice (some a) L.length cap)) := k1
    have K2 : Hid (BoxAt w1 (w.heap.size + 1) (.int .i64 0) (.int .i64 0) (.slice none 0 0)) := k2
    have K3 : Hid (BoxAt w1 (w.heap.size + 1 + 1) (.int .i64 r) (.int .i64 n) (.slice none 0 0)) := k3
    have G1 : Hid (Gr w w1) := hg1
    have hnews : ∀ j u, (hopV [(s, o)])[j]? = some u → (w1.alloc (.cells #[.int .i64 s, .int .i64 o] 55)).cell? ((⟨w1.heap.size, 0, none⟩ : Addr).add j) = some u := (hops_lit1' w1 s o 55).news
    have HN1 : Hid (∀ j u, (hopV [(s, o)])[j]? = some u → (w1.alloc (.cells #[.int .i64 s, .int .i64 o] 55)).cell? ((⟨w1.heap.size, 0, none⟩ : Addr).add j) = some u) := hnews
    have HO1 : Hid (w1.ownsRow (w.heap.size + 1 + 1 + 1) 55 2 v1 L.length (hopV L)) := hown1
    clear k1 k2 k3 hg1 hbW hnews hown1
    go_wp2_with (first
      | (at_builtin; refine wpList_append_own _ rfl _ _ 22 rfl (w.heap.size + 1 + 1 + 1) 55 i0 (.agg #[.int .i64 0, .int .i64 0]) 2 16 Tryd.underlying22 hi hz0 hz1 hz2 rfl (by decide) _ _ _ rfl (HO1.out.alloc _) ⟨w1.heap.size, 0, none⟩ 1 1 (hopV [(s, o)]) rfl rfl HN1.out (hopV_one _) hm1 (by omega) (by simp; omega) ?_)
      | fail)
    intro v2 w2 hown2 hgrow2 _
    have hb2 : Below (w.heap.size + 1 + 1 + 1) (w1.alloc (.cells #[.int .i64 s, .int .i64 o] 55)) w2 := (Below.refl _ _).grown hgrow2 (by simp; omega) (fun k hk => (HO1.out.lt k hk).1)
    have key : ∀ {u : Value}, w2.ownsRow (w.heap.size + 1 + 1 + 1) 55 2 u (L.length + 1) (hopV L ++ hopV [(s, o)]) → ∃ ad2 cap2, u = .slice ad2 (L.length + 1) cap2 ∧ L.length + 1 ≤ cap2 ∧ HopsAt w2 ad2 (L ++ [(s, o)]) ∧ ∀ a, ad2 = some a → w.heap.size + 1 + 1 + 1 ≤ a.block := by
      intro u hu
      rw [← hopV_app] at hu
      have := own_hops (L := L ++ [(s, o)]) (by rw [List.length_append]; exact hu)
      rw [List.length_append] at this
      exact this
    obtain ⟨ad2, cap2, rfl, hcp, hia2, hfr2⟩ := key hown2
    have k1 : BoxAt w2 w.heap.size (.int .i64 r) (.int .i64 n) (.slice (some a) L.length cap) := (K1.out.gr (Gr.refl _).alloc).below hb2 (by omega)
    have k2 : BoxAt w2 (w.heap.size + 1) (.int .i64 0) (.int .i64 0) (.slice none 0 0) := (K2.out.gr (Gr.refl _).alloc).below hb2 (by omega)
    have k3 : BoxAt w2 (w.heap.size + 1 + 1) (.int .i64 r) (.int .i64 n) (.slice none 0 0) := (K3.out.gr (Gr.refl _).alloc).below hb2 (by omega)
    have G2 : Hid (Gr w w2) := ⟨(G1.out.alloc).below.trans (hb2.mono (by omega))⟩
    obtain ⟨x0, x1, x2, xf0, xf1, xf2, xlt⟩ := id k1
    obtain ⟨y0, y1, y2, yf0, yf1, yf2, ylt⟩ := id k3
    have T1 : Hid (BoxAt (w2.setCell ⟨w.heap.size + 1 + 1, 2, none⟩ (.slice ad2 (L.length + 1) cap2)) w.heap.size (.int .i64 r) (.int .i64 n) (.slice (some a) L.length cap)) := k1.setFar _ _ (by simp; omega)
    have T2 : Hid (BoxAt (w2.setCell ⟨w.heap.size + 1 + 1, 2, none⟩ (.slice ad2 (L.length + 1) cap2)) (w.heap.size + 1) (.int .i64 0) (.int .i64 0) (.slice none 0 0)) := k2.setFar _ _ (by simp)
    have T3 : Hid (BoxAt (w2.setCell ⟨w.heap.size + 1 + 1, 2, none⟩ (.slice ad2 (L.length + 1) cap2)) (w.heap.size + 1 + 1) (.int .i64 r) (.int .i64 n) (.slice ad2 (L.length + 1) cap2)) := k3.set2 _
    have TH : Hid (HopsAt (w2.setCell ⟨w.heap.size + 1 + 1, 2, none⟩ (.slice ad2 (L.length + 1) cap2)) ad2 (L ++ [(s, o)])) := hia2.set _ _ (fun a e => by have := hfr2 a e; simp; omega)
    have TG : Hid (Gr w (w2.setCell ⟨w.heap.size + 1 + 1, 2, none⟩ (.slice ad2 (L.length + 1) cap2))) := G2.out.set _ (by simp; omega) _
    have HFR : Hid (∀ a, ad2 = some a → w.heap.size + 1 + 1 + 1 ≤ a.block) := hfr2
    clear k1 k2 k3 hia2 hfr2 hown2 key hgrow2 hb2 K1 K2 K3 G1 G2 HN1 HO1
    go_wp2_with fail
    refine (HC.out _ TG.out).mono ?_
    rintro e4 w4 ⟨rfl, hg4⟩
    have U2 := T2.out.gr hg4
    have U3 := T3.out.gr hg4
    obtain ⟨b0, b1, b2, f0, f1, f2, b6⟩ := id U2
    obtain ⟨c0, c1, c2, _, _, _, c6⟩ := id U3
    have UG : Hid (Gr w w4) := TG.out.trans hg4
    by_cases hA : Idn.mayB r n L = true
    · rw [hA, show errB true = 0 from rfl]
      go_wp2_with fail
      refine (HD.out _ _ _ ?_).mono ?_
      · exact TH.out.gr hg4
      rintro e5 w5 ⟨rfl, hg5⟩
      have hia5 : HopsAt w5 ad2 (L ++ [(s, o)]) := (TH.out.gr hg4).gr hg5
      have HI5 : Hid (HopsAt w5 ad2 (L ++ [(s, o)])) := hia5
      obtain ⟨z0, z1, z2, zf0, zf1, zf2, z6⟩ := U2.gr hg5
      obtain ⟨q0, q1, q2, _, _, _, q6⟩ := U3.gr hg5
      have VG : Hid (Gr w w5) := UG.out.trans hg5
      clear hia5 U2 U3 b0 b1 b2 f0 f1 f2 c0 c1 c2
      by_cases hB : Idn.mayB r n (L ++ [(s, o)]) = true
      · have HM : Hid (Idn.mayB r n (L ++ [(s, o)]) = true) := hB
        rw [hB, show errB true = 0 from rfl]
        clear hB hA
        go_wp2
        have hia := HI5.out
        have hfr := HFR.out
        have hgv := VG.out
        exact bodyPost_ret (v := .tuple #[.agg #[.int .i64 r, .int .i64 n, .slice ad2 (L.length + 1) cap2], .int .i64 0]) (by simp [results, Tryd.results21, go_sem, z0, z1, z2]) rfl ⟨Or.inl ⟨HM.out, ad2, cap2, rfl, hcp, (by (repeat' (first | with_reducible exact hia | with_reducible refine HopsAt.set ?_ _ _ ?_ | with_reducible refine HopsAt.alloc ?_ | with_reducible refine HopsAt.drew ?_)) <;> (intro a e; have := hfr a e; simp at this ⊢; omega))⟩, ((hgv.set _ (by simp) _).set _ (by simp) _).set _ (by simp) _⟩
      · have hB' : Idn.mayB r n (L ++ [(s, o)]) = false := by simpa using hB
        have HM : Hid (Idn.mayB r n (L ++ [(s, o)]) = false) := hB'
        rw [hB', show errB false = 30 from rfl]
        clear hB hB' hA
        go_wp2
        have hgv := VG.out
        exact bodyPost_ret (v := .tuple #[.agg #[.int .i64 0, .int .i64 0, .slice none 0 0], .int .i64 30]) (by simp [results, Tryd.results21, go_sem, z0, z1, z2]) rfl ⟨Or.inr ⟨HM.out, rfl⟩, ((hgv.set _ (by simp) _).set _ (by simp) _).set _ (by simp) _⟩
    · have hA' : Idn.mayB r n L = false := by simpa using hA
      have HM : Hid (Idn.mayB r n (L ++ [(s, o)]) = false) := by
        show _ = _
        cases h : Idn.mayB r n (L ++ [(s, o)]) with
        | false => rfl
        | true => exact absurd (HIN.out h) hA
      rw [hA', show errB false = 30 from rfl]
      clear hA hA' U2 U3
      go_wp2
      have hgv := UG.out
      exact bodyPost_ret (v := .tuple #[.agg #[.int .i64 0, .int .i64 0, .slice none 0 0], .int .i64 30]) (by simp [results, Tryd.results21, go_sem, b0, b1, b2]) rfl ⟨Or.inr ⟨HM.out, rfl⟩, ((hgv.set _ (by simp) _).set _ (by simp) _).set _ (by simp) _⟩
end Go.Proofs.YtecpppppadoppaaDoor
