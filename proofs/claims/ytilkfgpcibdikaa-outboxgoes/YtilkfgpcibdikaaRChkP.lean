
/- the document's Check. -/
import Derived.Test.YtilkfgpcibdikaaChkP
import Derived.BigRegion
namespace Go.Proofs.Ytilkfgpcibdikaa
open Go.RowKit

def orgs (L : List (Int × Int)) : List Int := L.map (·.2)
theorem orgs_get (L : List (Int × Int)) (i j : Nat) (hj : j < i) (hi : i ≤ L.length) (o : Int) : ((orgs (L.take i)).drop j).contains o = (o == (L[j]'(by omega)).2 || ((orgs (L.take i)).drop (j + 1)).contains o) := by
  have hl : j < (orgs (L.take i)).length := by simp [orgs]; omega
  rw [List.drop_eq_getElem_cons hl]
  have e : (orgs (L.take i))[j] = (L[j]'(by omega)).2 := by simp [orgs]
  rw [e]; rfl

set_option maxHeartbeats 2000000 in
set_option maxRecDepth 100000 in
theorem refCheck_any (r n : Int) (L : List (Int × Int)) (ad : Option Addr) (cap : Nat) (w : World) (hL : HopsAt w ad L) (hn : L.length ≤ 9223372036854775807) :
    Calls Try.prog 43 #[.agg #[.int .i64 r, .int .i64 n, .slice ad L.length cap]] w fun e w' => e = .returned (.int .i64 (errB (Idn.mayB r n L))) ∧ Gr w w' := by
  have HM := Idn.may_hops r n L
  by_cases hc : 1 ≤ n ∧ n ≤ 999999 ∧ L.length ≤ 4 ∧ 0 ≤ r ∧ r < 16
  · obtain ⟨h1, h2, h3, h4, h5⟩ := hc
    have HM : Hid (Idn.mayB r n L = Idn.hopsB r [] L) := by
      show _ = _
      rw [HM]; simp [h1, h2, h3, h4, h5]
    rename_i HM0
    clear HM0
    have HL : Hid (HopsAt w ad L) := hL
    have h3' : (L.length : Int) ≤ 4 := by omega
    clear hL
    go_enter Try.func43, Try.ntmps43
    go_wp2
    go_loopw [3] (fun i wr => ∃ k : Nat, k ≤ L.length ∧ i = .int .i64 k ∧ Idn.hopsB r [] L = Idn.hopsB r (orgs (L.take k)) (L.drop k) ∧ Below (w.heap.size + 1) (w.alloc (.cells #[.int .i64 r, .int .i64 n, .slice ad L.length cap] 35)) wr) (fun i _ => L.length - (intOf i).toNat)
    case atStart => exact ⟨0, by omega, rfl, rfl, Below.refl _ _⟩
    case round =>
      obtain ⟨w0, rfl⟩ : ∃ x, x = wr := ⟨wr, rfl⟩
      obtain ⟨k, hk, rfl, hs, hb⟩ := hrel
      have hbs : w.heap.size + 1 ≤ w0.heap.size := by have := hb.size; simpa using this
      have HS : Hid (Idn.hopsB r [] L = Idn.hopsB r (orgs (L.take k)) (L.drop k)) := hs
      have hgr : Gr w w0 := ⟨((Below.refl _ _).alloc (Nat.le_refl _) _).trans (hb.mono (by omega))⟩
      have q0 : w0.cell? ⟨w.heap.size, 0, none⟩ = some (.int .i64 r) := (hb.cell (p := ⟨w.heap.size, 0, none⟩) (by simp)).trans (by simp)
      have q2 : w0.cell? ⟨w.heap.size, 2, none⟩ = some (.slice ad L.length cap) := (hb.cell (p := ⟨w.heap.size, 2, none⟩) (by simp)).trans (by simp)
      clear hs
      by_cases hlt : k < L.length
      · obtain ⟨b, off, rfl, hbl, hc, hd⟩ := HL.out k hlt
        have hc' := hgr.keep hc
        have hd' := hgr.keep hd
        have HS2 : Hid (Idn.hopsB r [] L = (decide (0 ≤ L[k].1) && decide (L[k].1 < 8) && decide (0 ≤ L[k].2) && decide (L[k].2 < 16) && !(L[k].2 == r) && !((orgs (L.take k)).contains L[k].2) && Idn.hopsB r (orgs (L.take (k + 1))) (L.drop (k + 1)))) := by
          show _ = _
          rw [HS.out, List.drop_eq_getElem_cons hlt, Idn.hopsB]
          have : orgs (L.take (k + 1)) = orgs (L.take k) ++ [L[k].2] := by unfold orgs; rw [List.take_succ_eq_append_getElem hlt, List.map_append]; rfl
          rw [this]
        have HALL : Hid (∀ j (h : j < L.length), ∀ w', Gr w w' → w'.cell? ⟨b, off + j * 2 + 1, none⟩ = some (.int .i64 L[j].2)) := by
          intro j hj w' g
          obtain ⟨b', off', e, _, _, h⟩ := HL.out j hj
          simp at e
          obtain ⟨rfl, rfl⟩ := e
          exact g.keep h
        obtain ⟨⟨p1, p2⟩, hh⟩ : ∃ h, L[k] = h := ⟨_, rfl⟩
        rw [hh] at hc' hd' HS2
        clear hc hd hh HL HS
        by_cases gc : 0 ≤ p1 ∧ p1 < 8 ∧ 0 ≤ p2 ∧ p2 < 16 ∧ p2 ≠ r
        · obtain ⟨g0, g1, g2, g3, g4⟩ := gc
          have HS3 : Hid (Idn.hopsB r [] L = (!((orgs (L.take k)).contains p2) && Idn.hopsB r (orgs (L.take (k + 1))) (L.drop (k + 1)))) := by
            show _ = _
            rw [HS2.out, show (p2 == r) = false by simpa using g4]; simp [g0, g1, g2, g3]
          have g4' : (p2 == r) = false := by simpa using g4
          clear HS2 g4
          have hwl : w.heap.size < w0.heap.size := by omega
          go_wp2
          go_loopw [5] (fun j wr => ∃ m : Nat, m ≤ k ∧ j = .int .i64 m ∧ (orgs (L.take k)).contains p2 = ((orgs (L.take k)).drop m).contains p2 ∧ Below (w0.heap.size + 1) (w0.alloc (.cells #[.int .i64 p1, .int .i64 p2] 63)) wr) (fun j _ => k - (intOf j).toNat)
          case atStart => exact ⟨0, by omega, rfl, rfl, Below.refl _ _⟩
          case round =>
            obtain ⟨m, hm, rfl, hcn, hb2⟩ := hrel
            have HCN : Hid ((orgs (L.take k)).contains p2 = ((orgs (L.take k)).drop m).contains p2) := hcn
            have hbs2 : w0.heap.size + 1 ≤ wr.heap.size := by have := hb2.size; simpa using this
            have hgr2 : Gr w0 wr := ⟨((Below.refl _ _).alloc (Nat.le_refl _) _).trans (hb2.mono (by omega))⟩
            have s0 := hgr2.keep q0
            have s2 := hgr2.keep q2
            have t1 : wr.cell? ⟨w0.heap.size, 1, none⟩ = some (.int .i64 p2) := (hb2.cell (p := ⟨w0.heap.size, 1, none⟩) (by simp)).trans (by simp)
            have hbx : Below (w.heap.size + 1) (w.alloc (.cells #[.int .i64 r, .int .i64 n, .slice (some ⟨b, off, none⟩) L.length cap] 35)) wr := (hb.alloc hbs _).trans (hb2.mono (by omega))
            have HBX : Hid (Below (w.heap.size + 1) (w.alloc (.cells #[.int .i64 r, .int .i64 n, .slice (some ⟨b, off, none⟩) L.length cap] 35)) wr) := hbx
            have HGR : Hid (Gr w wr) := hgr.trans hgr2
            clear hcn q0 q2 hc' hd' hbx hb
            by_cases hmk : m < k
            · have hx := HALL.out m (by omega) wr HGR.out
              have hml : m < L.length := by omega
              have HCN2 : Hid ((orgs (L.take k)).contains p2 = (p2 == (L[m]'hml).2 || ((orgs (L.take k)).drop (m + 1)).contains p2)) := by
                show _ = _
                rw [HCN.out, orgs_get L k m hmk (by omega)]
              obtain ⟨o, ho⟩ : ∃ o, (L[m]'hml).2 = o := ⟨_, rfl⟩
              rw [ho] at hx HCN2
              have hm1 : (m : Int) < L.length := by omega
              clear ho HALL hgr hgr2
              by_cases he : o = p2
              · subst he
                have HF : Hid (Idn.mayB r n L = false) := by
                  show _ = _
                  rw [HM.out, HS3.out, HCN2.out]; simp
                clear HS3 HCN HCN2 HM
                go_wp2
                go_region
                go_wp2
                go_ret
                exact ⟨by rw [HF.out]; rfl, HGR.out.drew⟩
              · have he' : (o == p2) = false := by simpa using he
                have HF : Hid ((orgs (L.take k)).contains p2 = ((orgs (L.take k)).drop (m + 1)).contains p2) := by
                  show _ = _
                  rw [HCN2.out, show (p2 == o) = false by simpa using fun h => he h.symm]; rfl
                clear HCN HCN2 he
                go_wp2
                go_region
                go_wp2
                go_roundw
                case rel => exact ⟨m + 1, by omega, by go_num, HF.out, hb2.drew⟩
                case measure => simp [intOf]; omega
            · have hmk' : m = k := by omega
              subst hmk'
              have HF : Hid (Idn.hopsB r [] L = Idn.hopsB r (orgs (L.take (m + 1))) (L.drop (m + 1))) := by
                show _ = _
                rw [HS3.out, HCN.out]
                simp [orgs]
              clear HALL HS3 HCN
              go_wp2
              go_roundw
              case rel => exact ⟨m + 1, by omega, by go_num, HF.out, HBX.out⟩
              case measure => simp [intOf]; omega
        · have HF : Hid (Idn.mayB r n L = false) := by
            show _ = _
            rw [HM.out, HS2.out]
            cases h : (decide (0 ≤ p1) && decide (p1 < 8) && decide (0 ≤ p2) && decide (p2 < 16) && !p2 == r) with
            | false => simp
            | true => exact absurd (by simpa [and_assoc] using h) gc
          have hwl : w.heap.size < w0.heap.size := by omega
          have hcb : ((((p1 < 0 ∨ 7 < p1) ∨ p2 < 0) ∨ 15 < p2) ∨ (p2 == r) = true) := by
            by_cases e : p2 = r
            · exact Or.inr (by simpa using e)
            · exact Or.inl (by omega)
          have HCB : Hid ((((p1 < 0 ∨ 7 < p1) ∨ p2 < 0) ∨ 15 < p2) ∨ (p2 == r) = true) := hcb
          clear HS2 gc HALL hcb
          go_wp2
          all_goals first
            | (go_ret; exact ⟨by rw [HF.out]; rfl, hgr.alloc⟩)
            | (exfalso; rename_i hx; rcases HCB.out with ((((h | h) | h) | h) | h) <;> first | omega | (rw [h] at hx; simp at hx))
      · have HF : Hid (Idn.mayB r n L = true) := by
          show _ = _
          rw [HM.out, HS.out, List.drop_eq_nil_of_le (by omega)]; rfl
        clear HS HL
        go_wp2
        go_ret
        exact ⟨by rw [HF.out]; rfl, hgr⟩
  · have HF : Hid (Idn.mayB r n L = false) := by
      show _ = _
      rw [HM]
      cases h : (decide (1 ≤ n) && decide (n ≤ 999999) && decide (L.length ≤ 4) && decide (0 ≤ r) && decide (r < 16)) with
      | false => simp
      | true => exact absurd (by simpa [and_assoc] using h) hc
    have hcb : ((((n < 1 ∨ 999999 < n) ∨ (4 : Int) < L.length) ∨ r < 0) ∨ 15 < r) := by omega
    clear hc HM hL
    go_enter Try.func43, Try.ntmps43
    go_wp2
    all_goals first
      | (go_ret; exact ⟨by rw [HF.out]; rfl, (Gr.refl _).alloc⟩)
      | (exfalso; omega)
end Go.Proofs.Ytilkfgpcibdikaa
