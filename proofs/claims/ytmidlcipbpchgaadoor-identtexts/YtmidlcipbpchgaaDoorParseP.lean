/- Parse: the id that may be whose Show a text is. -/
import Derived.Test.YtmidlcipbpchgaaDoorReadP
import Derived.Test.YtmidlcipbpchgaaDoorShowP
namespace Go.Proofs.YtmidlcipbpchgaaDoor
open Go.RowKit

/- is a text the text of the id that is read from it? -/
def parB (l : List UInt8) : Bool := Idn.mayB (readR l).1 (readR l).2 (readL l) && decide (Idn.showT (readR l).1 (readR l).2 (readL l) = l)

set_option maxHeartbeats 4000000 in
set_option maxRecDepth 100000 in
theorem parse_any (s : ByteArray) (w : World) (hs : s.size ≤ 140737488355328) (he : Env w) :
    Calls Tryd.prog 29 #[.string s] w fun e w' =>
      ((parB s.data.toList = true ∧ ∃ ad2 cap2, e = .returned (.tuple #[.agg #[.int .i64 (readR s.data.toList).1, .int .i64 (readR s.data.toList).2, .slice ad2 (readL s.data.toList).length cap2], .int .i64 0]) ∧ (readL s.data.toList).length ≤ cap2 ∧ HopsAt w' ad2 (readL s.data.toList)) ∨
       (parB s.data.toList = false ∧ e = .returned (.tuple #[.agg #[.int .i64 0, .int .i64 0, .slice none 0 0], .int .i64 30]))) ∧ Gr w w' := by
  have HR : Hid (∀ w', Gr w w' → Calls Tryd.prog 43 #[.string s] w' fun e w2 => ∃ ad2 cap2, e = .returned (.agg #[.int .i64 (readR s.data.toList).1, .int .i64 (readR s.data.toList).2, .slice ad2 (readL s.data.toList).length cap2]) ∧ (readL s.data.toList).length ≤ cap2 ∧ HopsAt w2 ad2 (readL s.data.toList) ∧ (∀ a, ad2 = some a → w'.heap.size ≤ a.block) ∧ Gr w' w2) := fun w' g => read_any s w' hs (he.gr g)
  have h4 : (readL s.data.toList).length ≤ 4 := readH_len 4 _ _
  have HPB : Hid (parB s.data.toList = (Idn.mayB (readR s.data.toList).1 (readR s.data.toList).2 (readL s.data.toList) && decide (Idn.showT (readR s.data.toList).1 (readR s.data.toList).2 (readL s.data.toList) = s.data.toList))) := rfl
  obtain ⟨⟨r, n⟩, hrn⟩ : ∃ x, readR s.data.toList = x := ⟨_, rfl⟩
  obtain ⟨L, hL⟩ : ∃ x, readL s.data.toList = x := ⟨_, rfl⟩
  rw [hrn, hL] at HR HPB
  rw [hL] at h4
  rw [hrn, hL]
  simp only at HR HPB ⊢
  have HS : Hid (∀ (w' : World) (ad2 : Option Addr) (cap2 : Nat), Gr w w' → HopsAt w' ad2 L → Calls Tryd.prog 27 #[.agg #[.int .i64 r, .int .i64 n, .slice ad2 L.length cap2]] w' fun e w2 => ((Idn.mayB r n L = true ∧ e = .returned (.tuple #[.string ⟨(Idn.showT r n L).toArray⟩, .int .i64 0])) ∨ (Idn.mayB r n L = false ∧ e = .returned (.tuple #[.string ⟨#[]⟩, .int .i64 30]))) ∧ Gr w' w2) := fun w' ad2 cap2 g h => show_any r n L ad2 cap2 w' h (by omega) (he.gr g)
  clear hrn hL he
  go_enter Tryd.func29, Tryd.ntmps29
  go_wp2_with fail
  refine (HR.out _ (by repeat (first | exact Gr.refl _ | refine Gr.alloc ?_ | refine Gr.drew ?_ | refine Gr.trans ?_ (by assumption)))).mono ?_
  rintro e1 w1 ⟨ad2, cap2, rfl, hcp, hia, hfr, hg1⟩
  have HB : Hid (BoxAt w1 w.heap.size (.int .i64 0) (.int .i64 0) (.slice none 0 0)) := (BoxAt.new w _ _ _ 24 _ rfl).gr hg1
  have HI : Hid (HopsAt w1 ad2 L) := hia
  have HFR : Hid (∀ a, ad2 = some a → w.heap.size + 1 ≤ a.block) := fun a e => by have := hfr a e; simpa using this
  clear hia hfr
  go_wp2_with fail
  refine (HS.out _ _ _ ?_ ?_).mono ?_
  · exact (by repeat (first | exact Gr.refl _ | refine Gr.alloc ?_ | refine Gr.drew ?_ | refine Gr.trans ?_ (by assumption)))
  · exact HI.out.gr (by repeat (first | exact Gr.refl _ | refine Gr.alloc ?_ | refine Gr.drew ?_ | refine Gr.trans ?_ (by assumption)))
  rintro e2 w2 ⟨hcase, hg2⟩
  obtain ⟨b0, b1, b2, f0, f1, f2, b6⟩ := (HB.out.gr (Gr.refl _).alloc).gr hg2
  obtain ⟨c0, c1, c2, k0, k1, k2, c6⟩ := (BoxAt.new w1 (.int .i64 r) (.int .i64 n) (.slice ad2 L.length cap2) 24 _ rfl).gr hg2
  rcases hcase with ⟨hm, rfl⟩ | ⟨hm, rfl⟩
  · by_cases hq : Idn.showT r n L = s.data.toList
    · have HP : Hid (parB s.data.toList = true) := by show _ = _; rw [HPB.out, hm]; simp [hq]
      have heq : (⟨(Idn.showT r n L).toArray⟩ : ByteArray) = s := by rw [hq]
      rw [heq]
      clear hm hq heq HPB
      have HI2 : Hid (HopsAt w2 ad2 L) := (HI.out.alloc).gr hg2
      go_wp2
      have hia := HI2.out
      have hfr := HFR.out
      exact bodyPost_ret (v := .tuple #[.agg #[.int .i64 r, .int .i64 n, .slice ad2 L.length cap2], .int .i64 0]) (by simp [results, Tryd.results29, go_sem, b0, b1, b2]) rfl ⟨Or.inl ⟨HP.out, ad2, cap2, rfl, hcp, (by (repeat' (first | with_reducible exact hia | with_reducible refine HopsAt.set ?_ _ _ ?_ | with_reducible refine HopsAt.alloc ?_ | with_reducible refine HopsAt.drew ?_)) <;> (intro a e; have := hfr a e; simp at this ⊢; omega))⟩, (by (repeat' (first | with_reducible exact Gr.refl _ | with_reducible refine Gr.set ?_ _ ?_ _ | with_reducible refine Gr.alloc ?_ | with_reducible refine Gr.drew ?_ | with_reducible refine Gr.trans ?_ (by assumption))) <;> (first | (simp; done) | (simp; omega) | omega))⟩
    · have HP : Hid (parB s.data.toList = false) := by show _ = _; rw [HPB.out]; simp [hq]
      have hne : ((⟨(Idn.showT r n L).toArray⟩ : ByteArray).toList == s.toList) = false := by
        rw [ByteArray.toList_eq, ByteArray.toList_eq]
        simpa using hq
      generalize (⟨(Idn.showT r n L).toArray⟩ : ByteArray) = t at *
      clear HPB hm hq
      go_wp2
      exact bodyPost_ret (v := .tuple #[.agg #[.int .i64 0, .int .i64 0, .slice none 0 0], .int .i64 30]) (by simp [results, Tryd.results29, go_sem, b0, b1, b2]) rfl ⟨Or.inr ⟨HP.out, rfl⟩, (by (repeat' (first | with_reducible exact Gr.refl _ | with_reducible refine Gr.set ?_ _ ?_ _ | with_reducible refine Gr.alloc ?_ | with_reducible refine Gr.drew ?_ | with_reducible refine Gr.trans ?_ (by assumption))) <;> (first | (simp; done) | (simp; omega) | omega))⟩
  · have HP : Hid (parB s.data.toList = false) := by show _ = _; rw [HPB.out, hm]; rfl
    clear HPB hm
    go_wp2
    exact bodyPost_ret (v := .tuple #[.agg #[.int .i64 0, .int .i64 0, .slice none 0 0], .int .i64 30]) (by simp [results, Tryd.results29, go_sem, b0, b1, b2]) rfl ⟨Or.inr ⟨HP.out, rfl⟩, (by (repeat' (first | with_reducible exact Gr.refl _ | with_reducible refine Gr.set ?_ _ ?_ _ | with_reducible refine Gr.alloc ?_ | with_reducible refine Gr.drew ?_ | with_reducible refine Gr.trans ?_ (by assumption))) <;> (first | (simp; done) | (simp; omega) | omega))⟩
end Go.Proofs.YtmidlcipbpchgaaDoor
