
/- The document's Cut, at version 3. -/
import Derived.Test.YtoeibjflaiiljaaDoorROpenP
import Derived.Test.YtoeibjflaiiljaaDoorCutM
import Derived.Test.YtoeibjflaiiljaaDoorFormM
import Derived.Test.YtoeibjflaiiljaaDoorStrs
import Derived.Test.YtoeibjflaiiljaaDoorAppS
namespace Go.Proofs.YtoeibjflaiiljaaDoor
open Go.RowKit

/- what Cut answers from a place on -/
theorem cut_go (s : List UInt8) (v : Int) (a : Nat) (l : List (List UInt8)) (h : Sl.cutE s v = (l ++ (Sl.frames s a v).map (·.1), Sl.lastEnd a (Sl.frames s a v), if Sl.lastEnd a (Sl.frames s a v) = s.length then 0 else (Sl.openE s (Sl.lastEnd a (Sl.frames s a v)) v).2.2)) (ha : a < s.length) {b : List UInt8} {q : Nat} (ho : Sl.openE s a v = (b, q, 0)) :
    Sl.cutE s v = (l ++ [b] ++ (Sl.frames s q v).map (·.1), Sl.lastEnd q (Sl.frames s q v), if Sl.lastEnd q (Sl.frames s q v) = s.length then 0 else (Sl.openE s (Sl.lastEnd q (Sl.frames s q v)) v).2.2) := by
  rw [Sl.frames_next s a v b q ha ho, Sl.lastEnd_cons] at h
  rw [h]
  simp
set_option maxHeartbeats 2000000 in
set_option maxRecDepth 100000 in
theorem refCut_any (s : ByteArray) (w : World) (hs : s.size ≤ 1000000) :
    Calls Tryd.prog 31 #[.string s, .int .i64 3] w fun e w' => ∃ ad cap, e = .returned (.tuple #[.slice ad (Sl.cutE s.data.toList 3).1.length cap, .int .i64 (Sl.cutE s.data.toList 3).2.1, .int .i64 (Sl.cutE s.data.toList 3).2.2]) ∧
      StrsAt w' ad ((Sl.cutE s.data.toList 3).1.map mkT) ∧ Gr w w' := by
  obtain ⟨i0, hi0, hz0, hz1, hz2⟩ := info_parts info9
  have hsz : s.data.toList.length = s.size := by simp
  go_enter Tryd.func31, Tryd.ntmps31
  go_wp2
  go_loopw [7, 8] (fun v a wr => ∃ (p : Nat) (l : List (List UInt8)), p ≤ s.size ∧ l.length ≤ p ∧ a = .int .i64 (p : Int) ∧ wr.ownsRow w.heap.size 9 1 v l.length (strV l) ∧
      Sl.cutE s.data.toList 3 = (l ++ (Sl.frames s.data.toList p 3).map (·.1), Sl.lastEnd p (Sl.frames s.data.toList p 3), if Sl.lastEnd p (Sl.frames s.data.toList p 3) = s.data.toList.length then 0 else (Sl.openE s.data.toList (Sl.lastEnd p (Sl.frames s.data.toList p 3)) 3).2.2) ∧ Gr w wr) (fun _ a _ => s.size - (intOf a).toNat)
  case atStart => exact ⟨0, [], Nat.zero_le _, Nat.le_refl _, rfl, World.ownsRow_nil _ _ _ _, rfl, Gr.refl _⟩
  case round =>
    rename_i v
    obtain ⟨p, l, hp, hl, rfl, hown, hcu, hg⟩ := hrel
    have HC := Lib.hid hcu
    have HG := Lib.hid hg
    have hgs := hg.size
    by_cases hlt : p < s.size
    · have HO : Hid (∀ w' : World, Calls Tryd.prog 30 #[.string s, .int .i64 (p : Int), .int .i64 3] w' fun e w2 => e = .returned (.tuple #[.string ⟨(Sl.openE s.data.toList p 3).1.toArray⟩, .int .i64 (Sl.openE s.data.toList p 3).2.1, .int .i64 (Sl.openE s.data.toList p 3).2.2]) ∧ Gr w' w2) := fun w' => refOpen_any s p 3 w' (by omega)
      obtain ⟨⟨b, q, er⟩, ho⟩ : ∃ r, Sl.openE s.data.toList p 3 = r := ⟨_, rfl⟩
      rw [ho] at HO
      simp only at HO
      have hpi : (p : Int) < (s.size : Int) := by omega
      by_cases he : er = 0
      · subst he
        have had := Sl.open_adv _ _ _ _ _ ho
        have HC2 := Lib.hid (cut_go s.data.toList 3 p l HC.out (by omega) ho)
        have hq1 : p < q := by have := had.2.1; simpa using this
        have hq2 : q ≤ s.size := by have := had.2.2.1; omega
        have hm1 : l.length + 1 ≤ maxLen := by unfold maxLen; omega
        clear had ho hcu HC hg
        go_wp2_with fail
        refine (HO.out _).mono ?_
        rintro e w2 ⟨rfl, hg2⟩
        have hown2 := hown.kept hg2.grownBy (own_or _)
        have HG2 := Lib.hid (HG.out.trans hg2)
        have hgs2 := HG2.out.size
        go_wp2_with (first
          | (at_builtin; refine wpList_append_own _ rfl _ _ 22 rfl w.heap.size 9 i0 (.string ⟨#[]⟩) 1 16 Tryd.underlying22 hi0 hz0 hz1 hz2 rfl (by decide) _ _ _ rfl (hown2.alloc _) ⟨w2.heap.size, 0, none⟩ 1 1 [.string ⟨b.toArray⟩] rfl rfl (cell_one_new _ _ _) (by intro u hu; simp at hu; subst hu; rfl) hm1 (by omega) (by simp; omega) ?_)
          | fail)
        intro v' w1 hown' hgrow _
        have HG1 : Hid (Gr w w1) := HG2.out.alloc.grown hgrow (fun k hk => (hown2.lt k hk).1)
        have HO1 : Hid (w1.ownsRow w.heap.size 9 1 v' (l ++ [b]).length (strV (l ++ [b]))) := by rw [strV_snoc, List.length_append]; exact hown'
        clear hown hown2 hown' hgrow hg2
        go_wp2
        go_roundw
        case rel => exact ⟨q, l ++ [b], hq2, by rw [List.length_append, List.length_singleton]; omega, rfl, HO1.out, HC2.out, HG1.out⟩
        case measure => simp [intOf]; omega
      · have hb := Sl.frames_bad s.data.toList p 3 (by rw [ho]; exact he)
        have HE : Hid (Sl.cutE s.data.toList 3 = (l, p, er)) := by
          show _ = _
          rw [HC.out, hb, show Sl.lastEnd p [] = p from rfl, if_neg (by omega), ho, List.map_nil, List.append_nil]
        obtain ⟨ad, cap, rfl, hst⟩ := own_strs hown
        have HST := Lib.hid hst
        have hne : ((er : Int) != 0) = true := by rw [bne_iff_ne]; omega
        clear hown hcu HC hg hb ho hst
        go_wp2_with fail
        refine (HO.out _).mono ?_
        rintro e w2 ⟨rfl, hg2⟩
        go_wp2
        go_ret3
        rw [HE.out]
        exact ⟨ad, cap, rfl, HST.out.gr hg2, HG.out.trans hg2⟩
    · have hps : p = s.size := by omega
      have hb := Sl.frames_end s.data.toList p 3 (by omega)
      have HE : Hid (Sl.cutE s.data.toList 3 = (l, p, 0)) := by
        show _ = _
        rw [HC.out, hb, show Sl.lastEnd p [] = p from rfl, if_pos (by omega), List.map_nil, List.append_nil]
      obtain ⟨ad, cap, rfl, hst⟩ := own_strs hown
      have HST := Lib.hid hst
      have hge : ¬ ((p : Int) < (s.size : Int)) := by omega
      clear hown hcu HC hg hb hst hps
      go_wp2
      go_ret3
      rw [HE.out]
      exact ⟨ad, ⟨cap, rfl⟩, HST.out, HG.out⟩
end Go.Proofs.YtoeibjflaiiljaaDoor
