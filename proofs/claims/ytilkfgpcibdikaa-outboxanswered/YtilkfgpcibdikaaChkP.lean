
/- checkPath and Check: may an id be? -/
import Derived.Test.YtilkfgpcibdikaaPathP
import Derived.Test.YtilkfgpcibdikaaShelf
namespace Go.Proofs.Ytilkfgpcibdikaa
open Go.RowKit

def errB (b : Bool) : Int := if b = true then 0 else 30

set_option maxHeartbeats 1000000 in
set_option maxRecDepth 100000 in
theorem checkPath_any (l : List Int) (ad : Option Addr) (cap : Nat) (w : World) (hL : IntsAt w ad l) (hn : l.length ≤ 1001) (hcap : l.length ≤ cap) :
    Calls Try.prog 67 #[.slice ad l.length cap] w fun e w' => e = .returned (.int .i64 (errB (Idn.pathB [] l))) ∧ w' = w := by
  have HL : Hid (IntsAt w ad l) := hL
  clear hL
  go_enter Try.func67, Try.ntmps67
  go_wp2
  go_loop [7] (fun i => ∃ k : Nat, k ≤ l.length ∧ i = .int .i64 k ∧ Idn.pathB [] l = Idn.pathB (l.take k) (l.drop k)) (fun i => l.length - (intOf i).toNat)
  case atStart => exact ⟨0, by omega, rfl, by simp⟩
  case round =>
    obtain ⟨k, hk, rfl, hp⟩ := hrel
    have HP : Hid (Idn.pathB [] l = Idn.pathB (l.take k) (l.drop k)) := hp
    clear hp
    by_cases hlt : k < l.length
    · obtain ⟨b, off, rfl, hbl, hc⟩ := HL.out k hlt
      have HP2 : Hid (Idn.pathB [] l = (decide (0 ≤ l[k]) && decide (l[k] < 16) && !((l.take k).contains l[k]) && Idn.pathB (l.take (k + 1)) (l.drop (k + 1)))) := by
        show _ = _
        rw [HP.out, List.drop_eq_getElem_cons hlt, Idn.pathB, List.take_succ_eq_append_getElem hlt]
      have hall : ∀ j, j < l.length → w.cell? ⟨b, off + j, none⟩ = some (.int .i64 (l.getD j 0)) := by
        intro j hj
        obtain ⟨b', off', e, _, h⟩ := HL.out j hj
        simp at e
        obtain ⟨rfl, rfl⟩ := e
        rw [h, List.getD_eq_getElem?_getD, List.getElem?_eq_getElem hj]; rfl
      have HC : Hid (Calls Try.prog 72 #[.slice (some ⟨b, off, none⟩) k cap, .int .i64 l[k]] w fun e w' => e = .returned (.bool ((l.take k).contains l[k])) ∧ w' = w) := Try.slices_Contains_int b off k cap l l[k] w (by omega) (by omega) hall
      generalize (l.take k).contains l[k] = ct at HC HP2
      generalize l[k] = o at *
      clear hall
      by_cases h0 : 0 ≤ o
      · by_cases h1 : o < 16
        · cases ct with
          | true =>
            go_wp2_with fail
            refine HC.out.mono ?_
            rintro e1 w1 ⟨rfl, hw1⟩; obtain rfl := hw1.symm
            go_wp2
            go_ret
            exact ⟨by rw [HP2.out]; simp [errB], rfl⟩
          | false =>
            go_wp2_with fail
            refine HC.out.mono ?_
            rintro e1 w1 ⟨rfl, hw1⟩; obtain rfl := hw1.symm
            go_wp2
            go_round
            case rel => exact ⟨k + 1, by omega, by go_num, by rw [HP2.out]; simp [h0, h1]⟩
            case measure => simp [intOf]; omega
        · have HF : Hid (Idn.pathB [] l = false) := by show _ = _; rw [HP2.out]; simp [h1]
          go_wp2
          go_ret
          exact ⟨by rw [HF.out]; rfl, rfl⟩
      · have HF : Hid (Idn.pathB [] l = false) := by show _ = _; rw [HP2.out]; simp [h0]
        go_wp2
        go_ret
        exact ⟨by rw [HF.out]; rfl, rfl⟩
    · go_wp2
      go_ret
      exact ⟨by rw [HP.out, List.drop_eq_nil_of_le (by omega)]; rfl, rfl⟩

set_option maxHeartbeats 1000000 in
set_option maxRecDepth 100000 in
theorem check_any (r n : Int) (L : List (Int × Int)) (ad : Option Addr) (cap : Nat) (w : World) (hL : HopsAt w ad L) (hn : L.length ≤ 9223372036854775807) :
    Calls Try.prog 60 #[.agg #[.int .i64 r, .int .i64 n, .slice ad L.length cap]] w fun e w' => e = .returned (.int .i64 (errB (Idn.mayB r n L))) ∧ Gr w w' := by
  by_cases h1 : 1 ≤ n
  · by_cases h2 : n ≤ 999999
    · by_cases h3 : L.length ≤ 4
      · have HM : Hid (Idn.mayB r n L = (Idn.stepsB L && Idn.pathB [] (Idn.path r L))) := by
          show _ = _
          simp [Idn.mayB, h1, h2, h3]
        have HL : Hid (HopsAt w ad L) := hL
        have HO : Hid (∀ w', Gr w w' → Calls Try.prog 68 #[.agg #[.int .i64 r, .int .i64 n, .slice ad L.length cap]] w' fun e w2 => ∃ ad2 cap2, e = .returned (.slice ad2 (L.length + 1) cap2) ∧ L.length + 1 ≤ cap2 ∧ IntsAt w2 ad2 (Idn.path r L) ∧ Gr w' w2) := fun w' g => pathOf_any r n L ad cap w' (hL.gr g) (by omega)
        clear hL
        go_enter Try.func60, Try.ntmps60
        go_wp2
        go_loopw [22] (fun i wr => ∃ k : Nat, k ≤ L.length ∧ i = .int .i64 k ∧ Idn.stepsB L = Idn.stepsB (L.drop k) ∧ Below (w.heap.size + 1) (w.alloc (.cells #[.int .i64 r, .int .i64 n, .slice ad L.length cap] 35)) wr) (fun i _ => L.length - (intOf i).toNat)
        case atStart => exact ⟨0, by omega, rfl, rfl, Below.refl _ _⟩
        case round =>
          obtain ⟨k, hk, rfl, hs, hb⟩ := hrel
          have hbs : w.heap.size + 1 ≤ wr.heap.size := by have := hb.size; simpa using this
          have HS : Hid (Idn.stepsB L = Idn.stepsB (L.drop k)) := hs
          have hgr : Gr w wr := ⟨((Below.refl _ _).alloc (Nat.le_refl _) _).trans (hb.mono (by omega))⟩
          have q0 : wr.cell? ⟨w.heap.size, 0, none⟩ = some (.int .i64 r) := (hb.cell (p := ⟨w.heap.size, 0, none⟩) (by simp)).trans (by simp)
          have q1 : wr.cell? ⟨w.heap.size, 1, none⟩ = some (.int .i64 n) := (hb.cell (p := ⟨w.heap.size, 1, none⟩) (by simp)).trans (by simp)
          have q2 : wr.cell? ⟨w.heap.size, 2, none⟩ = some (.slice ad L.length cap) := (hb.cell (p := ⟨w.heap.size, 2, none⟩) (by simp)).trans (by simp)
          clear hs
          by_cases hlt : k < L.length
          · obtain ⟨b, off, rfl, hbl, hc, hd⟩ := HL.out k hlt
            have hc' := hgr.keep hc
            have hd' := hgr.keep hd
            have HS2 : Hid (Idn.stepsB L = (decide (0 ≤ L[k].1) && decide (L[k].1 < 8) && Idn.stepsB (L.drop (k + 1)))) := by
              show _ = _
              rw [HS.out, List.drop_eq_getElem_cons hlt]; rfl
            obtain ⟨⟨p1, p2⟩, hh⟩ : ∃ h, L[k] = h := ⟨_, rfl⟩
            rw [hh] at hc' hd' HS2
            clear hc hd hh HL
            by_cases g0 : 0 ≤ p1
            · by_cases g1 : p1 < 8
              · go_wp2
                go_roundw
                case rel => exact ⟨k + 1, by omega, by go_num, by rw [HS2.out]; simp [g0, g1], hb.alloc hbs _⟩
                case measure => simp [intOf]; omega
              · have HF : Hid (Idn.mayB r n L = false) := by show _ = _; rw [HM.out, HS2.out]; simp [g1]
                go_wp2
                go_ret
                exact ⟨by rw [HF.out]; rfl, ⟨hgr.below.alloc hgr.size _⟩⟩
            · have HF : Hid (Idn.mayB r n L = false) := by show _ = _; rw [HM.out, HS2.out]; simp [g0]
              go_wp2
              go_ret
              exact ⟨by rw [HF.out]; rfl, ⟨hgr.below.alloc hgr.size _⟩⟩
          · have HM2 : Hid (Idn.mayB r n L = Idn.pathB [] (Idn.path r L)) := by
              show _ = _
              rw [HM.out, HS.out, List.drop_eq_nil_of_le (by omega)]; simp [Idn.stepsB]
            have HC : Hid (∀ (w' : World) (ad2 : Option Addr) (cap2 : Nat), IntsAt w' ad2 (Idn.path r L) → L.length + 1 ≤ cap2 → Calls Try.prog 67 #[.slice ad2 (L.length + 1) cap2] w' fun e w2 => e = .returned (.int .i64 (errB (Idn.pathB [] (Idn.path r L)))) ∧ w2 = w') := by
              intro w' ad2 cap2 hi hc
              have := checkPath_any (Idn.path r L) ad2 cap2 w' hi (by rw [path_len]; omega) (by rw [path_len]; exact hc)
              rw [path_len] at this
              exact this
            go_wp2_with fail
            refine (HO.out _ hgr).mono ?_
            rintro e1 w1 ⟨ad2, cap2, rfl, hcp, hia, hg1⟩
            go_wp2_with fail
            refine (HC.out _ _ _ hia hcp).mono ?_
            rintro e2 w2 ⟨rfl, hw2⟩; obtain rfl := hw2.symm
            go_wp2
            go_ret
            exact ⟨by rw [HM2.out]; rfl, hgr.trans hg1⟩
      · have h3' : ((4 : Int) < L.length) := by omega
        have HM : Hid (Idn.mayB r n L = false) := by show _ = _; simp [Idn.mayB, h3]
        go_enter Try.func60, Try.ntmps60
        go_wp2
        go_ret
        exact ⟨by rw [HM.out]; rfl, ⟨(Below.refl _ _).alloc (Nat.le_refl _) _⟩⟩
    · have HM : Hid (Idn.mayB r n L = false) := by show _ = _; simp [Idn.mayB, h2]
      go_enter Try.func60, Try.ntmps60
      go_wp2
      go_ret
      exact ⟨by rw [HM.out]; rfl, ⟨(Below.refl _ _).alloc (Nat.le_refl _) _⟩⟩
  · have HM : Hid (Idn.mayB r n L = false) := by show _ = _; simp [Idn.mayB, h1]
    go_enter Try.func60, Try.ntmps60
    go_wp2
    go_ret
    exact ⟨by rw [HM.out]; rfl, ⟨(Below.refl _ _).alloc (Nat.le_refl _) _⟩⟩
end Go.Proofs.Ytilkfgpcibdikaa
