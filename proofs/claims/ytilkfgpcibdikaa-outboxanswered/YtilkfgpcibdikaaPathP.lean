
/- pathOf: the path of an id. -/
import Derived.Test.YtilkfgpcibdikaaIdA
namespace Go.Proofs.Ytilkfgpcibdikaa
open Go.RowKit

theorem path_more (r : Int) (L : List (Int × Int)) (k : Nat) (h : k < L.length) : Idn.path r (L.take (k + 1)) = Idn.path r (L.take k) ++ [L[k].2] := by
  unfold Idn.path; rw [List.take_succ_eq_append_getElem h, List.map_append]; rfl
theorem path_len (r : Int) (L : List (Int × Int)) : (Idn.path r L).length = L.length + 1 := by simp [Idn.path]

set_option maxHeartbeats 1000000 in
set_option maxRecDepth 100000 in
theorem pathOf_any (r n : Int) (L : List (Int × Int)) (ad : Option Addr) (cap : Nat) (w : World) (hL : HopsAt w ad L) (hn : L.length ≤ 1000) :
    Calls Try.prog 68 #[.agg #[.int .i64 r, .int .i64 n, .slice ad L.length cap]] w fun e w' =>
      ∃ ad2 cap2, e = .returned (.slice ad2 (L.length + 1) cap2) ∧ L.length + 1 ≤ cap2 ∧ IntsAt w' ad2 (Idn.path r L) ∧ Gr w w' := by
  obtain ⟨i0, hi, hz0, hz1, hz2⟩ := info_parts infoInt
  have HL : Hid (HopsAt w ad L) := hL
  clear hL
  go_enter Try.func68, Try.ntmps68
  go_wp2
  go_loopw [3, 12] (fun p i wr => ∃ k : Nat, k ≤ L.length ∧ i = .int .i64 k ∧ wr.ownsRow w.heap.size 3 1 p (k + 1) (intV (Idn.path r (L.take k))) ∧ Below w.heap.size w wr)
    (fun _ i _ => L.length - (intOf i).toNat)
  case atStart => exact ⟨0, by omega, rfl, own_lit1 _ _ _ _ _ (by simp) (by simp), ((Below.refl _ _).alloc (Nat.le_refl _) _).alloc (by simp) _⟩
  case round =>
    obtain ⟨k, hk, rfl, hown, hb⟩ := hrel
    have hbs := hb.size
    by_cases hlt : k < L.length
    · obtain ⟨b, off, rfl, hbl, hc, hd⟩ := HL.out k hlt
      have hc' := (hb.cell (p := ⟨b, off + k * 2, none⟩) hbl).trans hc
      have hd' := (hb.cell (p := ⟨b, off + k * 2 + 1, none⟩) hbl).trans hd
      have HP : Hid (intV (Idn.path r (L.take (k + 1))) = intV (Idn.path r (L.take k)) ++ [.int .i64 L[k].2]) := by
        show _ = _
        rw [path_more r L k hlt]; simp [intV]
      have hm1 : k + 1 + 1 ≤ maxLen := by unfold maxLen; omega
      obtain ⟨⟨h1, h2⟩, hh⟩ : ∃ h, L[k] = h := ⟨_, rfl⟩
      rw [hh] at hc' hd' HP
      clear hc hd hh
      go_wp2_with (first
        | (at_builtin; refine wpList_append_own _ rfl _ _ 87 rfl w.heap.size 3 i0 (.int .i64 0) 1 8 Try.underlying87 hi hz0 hz1 hz2 rfl (by decide) _ _ _ rfl ((hown.alloc _).alloc _) ⟨wr.heap.size + 1, 0, none⟩ 1 1 [.int .i64 h2] rfl rfl (cell_one_at _ _ _ _ (by simp)) (by intro u hu; simp at hu; subst hu; rfl) hm1 (by omega) (by simp; omega) ?_)
        | fail)
      intro v' w1 hown' hgrow _
      go_wp2
      go_roundw
      case rel =>
        exact ⟨k + 1, by omega, by go_num, by rw [HP.out]; exact hown', ((hb.alloc hbs _).alloc (by simp; omega) _).grown hgrow (by simp; omega) (fun k hk => (hown.lt k hk).1)⟩
      case measure => simp [intOf]; omega
    · have hkl : k = L.length := by omega
      subst hkl
      have key : ∀ {u : Value}, wr.ownsRow w.heap.size 3 1 u (L.length + 1) (intV (Idn.path r (L.take L.length))) → ∃ ad2 cap2, u = .slice ad2 (L.length + 1) cap2 ∧ L.length + 1 ≤ cap2 ∧ IntsAt wr ad2 (Idn.path r L) := by
        intro u h
        rw [List.take_length] at h
        have := own_ints (l := Idn.path r L) (by rw [path_len]; exact h)
        rw [path_len] at this
        exact this
      obtain ⟨ad2, cap2, rfl, hcp, hia⟩ := key hown
      have HI : Hid (IntsAt wr ad2 (Idn.path r L)) := hia
      clear hown key hia
      go_wp2
      go_ret
      exact ⟨ad2, cap2, rfl, hcp, HI.out, ⟨hb⟩⟩
end Go.Proofs.Ytilkfgpcibdikaa
