/- the document's Path and Org. -/
import Derived.Test.YtecpppppadoppaaDoorRChkP
import Derived.Test.YtecpppppadoppaaDoorOrgP
namespace Go.Proofs.YtecpppppadoppaaDoor
open Go.RowKit

set_option maxHeartbeats 2000000 in
set_option maxRecDepth 100000 in
theorem refPath_any (r n : Int) (L : List (Int × Int)) (ad : Option Addr) (cap : Nat) (w : World) (hL : HopsAt w ad L) (hn : L.length ≤ 9223372036854775807) :
    Calls Tryd.prog 15 #[.agg #[.int .i64 r, .int .i64 n, .slice ad L.length cap]] w fun e w' =>
      ∃ ad2 cap2, e = .returned (.slice ad2 (pathE r n L).length cap2) ∧ (pathE r n L).length ≤ cap2 ∧ IntsAt w' ad2 (pathE r n L) ∧ Gr w w' := by
  have HC : Hid (∀ w', Gr w w' → Calls Tryd.prog 10 #[.agg #[.int .i64 r, .int .i64 n, .slice ad L.length cap]] w' fun e w2 => e = .returned (.int .i64 (errB (Idn.mayB r n L))) ∧ Gr w' w2) := fun w' g => refCheck_any r n L ad cap w' (hL.gr g) hn
  by_cases hm : Idn.mayB r n L = true
  · have h4 := may_len hm
    obtain ⟨i0, hi, hz0, hz1, hz2⟩ := info_parts infoInt
    have HL : Hid (HopsAt w ad L) := hL
    have HE : Hid (pathE r n L = Idn.path r L) := by show _ = _; unfold pathE; rw [if_pos hm]
    rw [hm, show errB true = 0 from rfl] at HC
    clear hL hm
    go_enter Tryd.func15, Tryd.ntmps15
    go_wp2_with fail
    refine (HC.out _ (by repeat (first | exact Gr.refl _ | refine Gr.alloc ?_ | refine Gr.drew ?_ | refine Gr.trans ?_ (by assumption)))).mono ?_
    rintro e1 w1 ⟨rfl, hg1⟩
    have p0 : w1.cell? ⟨w.heap.size, 0, none⟩ = some (.int .i64 r) := hg1.keep (by simp)
    have p2 : w1.cell? ⟨w.heap.size, 2, none⟩ = some (.slice ad L.length cap) := hg1.keep (by simp)
    have hs1 : w.heap.size < w1.heap.size := by have := hg1.size; simp at this; omega
    have HG1 : Hid (Gr w w1) := (by repeat (first | exact Gr.refl _ | refine Gr.alloc ?_ | refine Gr.drew ?_ | refine Gr.trans ?_ (by assumption)))
    clear hg1
    go_wp2
    go_loopw [3, 4] (fun p i wr => ∃ k : Nat, k ≤ L.length ∧ i = .int .i64 k ∧ wr.ownsRow w1.heap.size 3 1 p (k + 1) (intV (Idn.path r (L.take k))) ∧ Below w1.heap.size w1 wr)
      (fun _ i _ => L.length - (intOf i).toNat)
    case atStart => exact ⟨0, by omega, rfl, own_lit1 _ _ _ _ _ (by simp) (by simp), (Below.refl _ _).alloc (Nat.le_refl _) _⟩
    case round =>
      obtain ⟨k, hk, rfl, hown, hb⟩ := hrel
      have hbs := hb.size
      have hgr : Gr w1 wr := ⟨hb⟩
      have q2 := hgr.keep p2
      have HGR : Hid (Gr w wr) := HG1.out.trans hgr
      clear p0 p2 hgr
      by_cases hlt : k < L.length
      · obtain ⟨b, off, rfl, hbl, hc, hd⟩ := HL.out k hlt
        have hd' := HGR.out.keep hd
        have HP : Hid (intV (Idn.path r (L.take (k + 1))) = intV (Idn.path r (L.take k)) ++ [.int .i64 L[k].2]) := by
          show _ = _
          rw [path_more r L k hlt]; simp [intV]
        have hm1 : k + 1 + 1 ≤ maxLen := by unfold maxLen; omega
        obtain ⟨⟨h1, h2⟩, hh⟩ : ∃ h, L[k] = h := ⟨_, rfl⟩
        rw [hh] at hd' HP
        clear hc hd hh
        go_wp2_with (first
          | (at_builtin; refine wpList_append_own _ rfl _ _ 29 rfl w1.heap.size 3 i0 (.int .i64 0) 1 8 Tryd.underlying29 hi hz0 hz1 hz2 rfl (by decide) _ _ _ rfl (hown.alloc _) ⟨wr.heap.size, 0, none⟩ 1 1 [.int .i64 h2] rfl rfl (cell_one_at _ _ _ _ (by simp)) (by intro u hu; simp at hu; subst hu; rfl) hm1 (by omega) (by simp; omega) ?_)
          | fail)
        intro v' w5 hown' hgrow _
        go_wp2
        go_roundw
        case rel =>
          exact ⟨k + 1, by omega, by go_num, by rw [HP.out]; exact hown', (hb.alloc hbs _).grown hgrow (by simp; omega) (fun k hk => (hown.lt k hk).1)⟩
        case measure => simp [intOf]; omega
      · have hkl : k = L.length := by omega
        subst hkl
        have key : ∀ {u : Value}, wr.ownsRow w1.heap.size 3 1 u (L.length + 1) (intV (Idn.path r (L.take L.length))) → ∃ ad2 cap2, u = .slice ad2 (L.length + 1) cap2 ∧ L.length + 1 ≤ cap2 ∧ IntsAt wr ad2 (Idn.path r L) := by
          intro u h
          rw [List.take_length] at h
          have := own_ints (l := Idn.path r L) (by rw [path_len]; exact h)
          rw [path_len] at this
          exact this
        obtain ⟨ad2, cap2, rfl, hcp, hia⟩ := key hown
        have HI : Hid (IntsAt wr ad2 (Idn.path r L)) := hia
        clear hown key hia
        go_wp2
        go_ret
        rw [HE.out, path_len]
        exact ⟨ad2, cap2, rfl, hcp, HI.out, HGR.out⟩
  · have hm' : Idn.mayB r n L = false := by simpa using hm
    have HE : Hid (pathE r n L = []) := by show _ = _; unfold pathE; rw [if_neg hm]
    rw [hm', show errB false = 30 from rfl] at HC
    clear hL hm hm'
    go_enter Tryd.func15, Tryd.ntmps15
    go_wp2_with fail
    refine (HC.out _ (by repeat (first | exact Gr.refl _ | refine Gr.alloc ?_ | refine Gr.drew ?_ | refine Gr.trans ?_ (by assumption)))).mono ?_
    rintro e1 w1 ⟨rfl, hg1⟩
    go_wp2
    go_ret
    rw [HE.out]
    exact ⟨none, 0, rfl, by simp, fun j h => absurd h (by simp), (by repeat (first | exact Gr.refl _ | refine Gr.alloc ?_ | refine Gr.drew ?_ | refine Gr.trans ?_ (by assumption)))⟩

set_option maxHeartbeats 1000000 in
set_option maxRecDepth 100000 in
theorem refOrg_any (r n : Int) (L : List (Int × Int)) (ad : Option Addr) (cap : Nat) (w : World) (hL : HopsAt w ad L) (hn : L.length ≤ 9223372036854775807) :
    Calls Tryd.prog 12 #[.agg #[.int .i64 r, .int .i64 n, .slice ad L.length cap]] w fun e w' => e = .returned (.int .i64 (orgE r n L)) ∧ Gr w w' := by
  have HC : Hid (∀ w', Gr w w' → Calls Tryd.prog 15 #[.agg #[.int .i64 r, .int .i64 n, .slice ad L.length cap]] w' fun e w2 => ∃ ad2 cap2, e = .returned (.slice ad2 (pathE r n L).length cap2) ∧ (pathE r n L).length ≤ cap2 ∧ IntsAt w2 ad2 (pathE r n L) ∧ Gr w' w2) := fun w' g => refPath_any r n L ad cap w' (hL.gr g) hn
  have hl5 : (pathE r n L).length ≤ 5 := by
    unfold pathE
    split
    · next h => rw [path_len]; have := may_len h; omega
    · simp
  have HE : Hid (orgE r n L = (pathE r n L).getLastD (-1)) := rfl
  generalize pathE r n L = l at *
  clear hL
  by_cases h0 : l = []
  · subst h0
    go_enter Tryd.func12, Tryd.ntmps12
    go_wp2_with fail
    refine (HC.out _ (by repeat (first | exact Gr.refl _ | refine Gr.alloc ?_ | refine Gr.drew ?_ | refine Gr.trans ?_ (by assumption)))).mono ?_
    rintro e1 w1 ⟨ad2, cap2, rfl, hcp, hia, hg1⟩
    go_wp2
    go_ret
    exact ⟨by rw [HE.out]; rfl, (by repeat (first | exact Gr.refl _ | refine Gr.alloc ?_ | refine Gr.drew ?_ | refine Gr.trans ?_ (by assumption)))⟩
  · have hp : 0 < l.length := List.length_pos_iff.2 h0
    have hne : ((l.length : Int) == 0) = false := by rw [beq_eq_false_iff_ne]; omega
    have HL : Hid (orgE r n L = l[l.length - 1]'(by omega)) := by
      show _ = _
      rw [HE.out, List.getLastD_eq_getLast?, List.getLast?_eq_getElem?, List.getElem?_eq_getElem (by omega)]; rfl
    have hsub : (l.length : Int) - 1 = ((l.length - 1 : Nat) : Int) := by omega
    have hlt1 : l.length - 1 < l.length := by omega
    go_enter Tryd.func12, Tryd.ntmps12
    go_wp2_with fail
    refine (HC.out _ (by repeat (first | exact Gr.refl _ | refine Gr.alloc ?_ | refine Gr.drew ?_ | refine Gr.trans ?_ (by assumption)))).mono ?_
    rintro e1 w1 ⟨ad2, cap2, rfl, hcp, hia, hg1⟩
    obtain ⟨b, off, rfl, hbl, hc⟩ := hia (l.length - 1) (by omega)
    clear hia
    generalize l[l.length - 1]'hlt1 = o at *
    go_wp2
    go_ret
    exact ⟨by rw [HL.out]; rfl, (by repeat (first | exact Gr.refl _ | refine Gr.alloc ?_ | refine Gr.drew ?_ | refine Gr.trans ?_ (by assumption)))⟩
end Go.Proofs.YtecpppppadoppaaDoor
