import Derived.Test.YtilkfgpcibdikaaNtP
import Derived.Test.YtilkfgpcibdikaaRChkP
import Derived.Test.YtilkfgpcibdikaaOrgP
import Derived.Test.YtilkfgpcibdikaaBase
import Derived.Test.YtilkfgpcibdikaaActM
import Derived.BigQuiet
import Derived.Deep.QuietTactic

/- note: what Ends answers. -/
namespace Go.Proofs.Ytilkfgpcibdikaa
open Go.RowKit

theorem may_drop {r n : Int} {L : List (Int × Int)} (hm : Idn.mayB r n L = true) (h0 : 0 < L.length) : Idn.mayB r n L.dropLast = true := by
  have hne : L ≠ [] := List.length_pos_iff.1 h0
  obtain ⟨⟨s, o⟩, hlast⟩ : ∃ x, L.getLast hne = x := ⟨_, rfl⟩
  have e : L = L.dropLast ++ [(s, o)] := by rw [← hlast]; exact (List.dropLast_concat_getLast hne).symm
  rw [e] at hm
  exact (Idn.may_snoc hm).1
theorem org_up {r n : Int} {L : List (Int × Int)} (hm : Idn.mayB r n L = true) : orgE r n L = (Idn.path r L).getLastD (-1) := by
  unfold orgE pathE; rw [if_pos hm]

end Go.Proofs.Ytilkfgpcibdikaa

/- the document's Path and Org. -/
namespace Go.Proofs.Ytilkfgpcibdikaa
open Go.RowKit

end Go.Proofs.Ytilkfgpcibdikaa

/- The document's names. -/
namespace Go.Proofs.Ytilkfgpcibdikaa
open Go.RowKit

theorem let_parts {b : UInt8} (h : Act.letB b = true) : (97 : Int) ≤ (b.toNat : Int) ∧ (b.toNat : Int) ≤ 122 := by
  unfold Act.letB at h; simpa only [Bool.and_eq_true, decide_eq_true_eq] using h
theorem dig_parts {b : UInt8} (h : Act.digB b = true) : (48 : Int) ≤ (b.toNat : Int) ∧ (b.toNat : Int) ≤ 57 := by
  unfold Act.digB at h; simpa only [Bool.and_eq_true, decide_eq_true_eq] using h

set_option maxHeartbeats 4000000 in
set_option maxRecDepth 100000 in
theorem refName_any (s : ByteArray) (w : World) (hs : s.size ≤ 9223372036854775807) : Calls Try.prog 44 #[.string s] w fun e w' => e = .returned (.bool (Act.nameB s)) ∧ w' = w := by
  by_cases hz : (s.size : Int) < 1
  · have HE : Hid (Act.nameB s = false) := Act.name_empty s (by omega)
    go_enter Try.func44, Try.ntmps44
    go_wp2
    go_ret
    exact ⟨by rw [HE.out]; rfl, rfl⟩
  have hp : 0 < s.size := by omega
  by_cases h16 : (16 : Int) < (s.size : Int)
  · have HE : Hid (Act.nameB s = false) := Act.name_long s (by omega)
    go_enter Try.func44, Try.ntmps44
    go_wp2
    go_ret
    exact ⟨by rw [HE.out]; rfl, rfl⟩
  go_enter Try.func44, Try.ntmps44
  go_wp2
  go_loop [3] (fun i => ∃ k : Nat, k ≤ s.size ∧ i = .int .i64 k ∧ (0 < k → Act.letB (s[0]'hp) = true) ∧ ∀ j (hj : j < s.size), j < k → Act.sgnB (s[j]'hj) = true) (fun i => s.size - (intOf i).toNat)
  case atStart => exact ⟨0, by omega, rfl, fun h => absurd h (by omega), fun j hj h => absurd h (by omega)⟩
  case round =>
    obtain ⟨k, hk, rfl, hfirst, hall⟩ := hrel
    have HA : Hid (∀ j (hj : j < s.size), j < k → Act.sgnB (s[j]'hj) = true) := hall
    have HF : Hid (0 < k → Act.letB (s[0]'hp) = true) := hfirst
    clear hall hfirst
    by_cases hlt : k < s.size
    · cases hlk : Act.letB (s[k]'hlt) with
      | true =>
        have HS : Hid (Act.sgnB (s[k]'hlt) = true) := Act.sgn_let hlk
        have HK : Hid (Act.letB (s[k]'hlt) = true) := hlk
        obtain ⟨h1, h2⟩ := let_parts hlk
        have h3 : ¬ (((s[k]'hlt).toNat : Int) ≤ 57) := by omega
        have h4 : (48 : Int) ≤ ((s[k]'hlt).toNat : Int) := by omega
        clear hlk
        obtain ⟨b, hb⟩ : ∃ b, s[k]'hlt = b := ⟨_, rfl⟩
        have hb' : ((s[k]'hlt).toNat : Int) = (b.toNat : Int) := by rw [hb]
        rw [hb] at h1 h2 h3 h4
        clear hb
        by_cases hk0 : k = 0
        · subst hk0
          go_wp2
          go_round
          case rel => exact ⟨0 + 1, by omega, by go_num, fun _ => HK.out, fun j hj h => if e : j = 0 then by subst e; exact HS.out else HA.out j hj (by omega)⟩
          case measure => simp [intOf]; omega
        · have hk1 : ((k : Int) == 0) = false := by rw [beq_eq_false_iff_ne]; omega
          go_wp2
          go_round
          case rel => exact ⟨k + 1, by omega, by go_num, fun _ => HF.out (by omega), fun j hj h => if e : j = k then by subst e; exact HS.out else HA.out j hj (by omega)⟩
          case measure => simp [intOf]; omega
      | false =>
        cases hdk : Act.digB (s[k]'hlt) with
        | true =>
          have HS : Hid (Act.sgnB (s[k]'hlt) = true) := Act.sgn_dig hdk
          obtain ⟨h1, h2⟩ := dig_parts hdk
          have h3 : ¬ ((97 : Int) ≤ ((s[k]'hlt).toNat : Int)) := by omega
          have HK : Hid (Act.letB (s[k]'hlt) = false) := hlk
          clear hlk hdk
          obtain ⟨b, hb⟩ : ∃ b, s[k]'hlt = b := ⟨_, rfl⟩
          have hb' : ((s[k]'hlt).toNat : Int) = (b.toNat : Int) := by rw [hb]
          rw [hb] at h1 h2 h3
          clear hb
          by_cases hk0 : k = 0
          · subst hk0
            have HE : Hid (Act.nameB s = false) := Act.name_head s hp HK.out
            go_wp2
            go_ret
            exact ⟨by rw [HE.out]; rfl, rfl⟩
          · have hk1 : ((k : Int) == 0) = false := by rw [beq_eq_false_iff_ne]; omega
            go_wp2
            go_round
            case rel => exact ⟨k + 1, by omega, by go_num, fun _ => HF.out (by omega), fun j hj h => if e : j = k then by subst e; exact HS.out else HA.out j hj (by omega)⟩
            case measure => simp [intOf]; omega
        | false =>
          have HE : Hid (Act.nameB s = false) := Act.name_sign s k hlt (Act.sgn_no hlk hdk)
          obtain ⟨x, hx⟩ : ∃ x, Act.letB (s[k]'hlt) = x := ⟨_, rfl⟩
          have hx1 : (decide ((97 : Int) ≤ ((s[k]'hlt).toNat : Int)) && decide (((s[k]'hlt).toNat : Int) ≤ 122)) = false := hlk
          have hx2 : (decide ((48 : Int) ≤ ((s[k]'hlt).toNat : Int)) && decide (((s[k]'hlt).toNat : Int) ≤ 57)) = false := hdk
          clear hlk hdk hx
          obtain ⟨b, hb⟩ : ∃ b, s[k]'hlt = b := ⟨_, rfl⟩
          have hb' : ((s[k]'hlt).toNat : Int) = (b.toNat : Int) := by rw [hb]
          rw [hb] at hx1 hx2
          clear hb
          have hor : ((b.toNat : Int) < 48 ∨ (57 < (b.toNat : Int) ∧ (b.toNat : Int) < 97)) ∨ 122 < (b.toNat : Int) := by
            simp only [Bool.and_eq_false_iff, decide_eq_false_iff_not] at hx1 hx2
            omega
          clear hx1 hx2
          rcases hor with (h1 | ⟨h1, h2⟩) | h1
          · have k1 : ¬ ((97 : Int) ≤ (b.toNat : Int)) := by omega
            have k2 : ¬ ((48 : Int) ≤ (b.toNat : Int)) := by omega
            clear h1
            go_wp2
            go_ret
            exact ⟨by rw [HE.out]; rfl, rfl⟩
          · have k1 : ¬ ((97 : Int) ≤ (b.toNat : Int)) := by omega
            have k2 : (48 : Int) ≤ (b.toNat : Int) := by omega
            have k3 : ¬ ((b.toNat : Int) ≤ 57) := by omega
            clear h1 h2
            go_wp2
            go_ret
            exact ⟨by rw [HE.out]; rfl, rfl⟩
          · have k1 : (97 : Int) ≤ (b.toNat : Int) := by omega
            have k2 : (48 : Int) ≤ (b.toNat : Int) := by omega
            have k3 : ¬ ((b.toNat : Int) ≤ 57) := by omega
            have k4 : ¬ ((b.toNat : Int) ≤ 122) := by omega
            clear h1
            go_wp2
            go_ret
            exact ⟨by rw [HE.out]; rfl, rfl⟩
    · have HE : Hid (Act.nameB s = true) := Act.name_yes s hp (by omega) (HF.out (by omega)) (fun j hj => HA.out j hj (by omega))
      go_wp2
      go_ret
      exact ⟨by rw [HE.out]; rfl, rfl⟩
end Go.Proofs.Ytilkfgpcibdikaa

/- The document's Check and Ends of notes. -/
namespace Go.Proofs.Ytilkfgpcibdikaa
open Go.RowKit

set_option maxHeartbeats 4000000 in
set_option maxRecDepth 100000 in
theorem refNCheck_any (k r n : Int) (L : List (Int × Int)) (d : ByteArray) (y : Int) (ad : Option Addr) (cap : Nat) (w : World) (hL : HopsAt w ad L) (hn : L.length ≤ 9223372036854775807) (hd : d.size ≤ 9223372036854775807) :
    Calls Try.prog 29 #[.agg #[.int .i64 k, .int .i64 r, .int .i64 n, .slice ad L.length cap, .string d, .int .i64 y]] w fun e w' => e = .returned (.int .i64 (Nt.ckE (⟨k, r, n, L, d, y⟩ : Nt))) ∧ Gr w w' := by
  have H0 : Hid (∀ w', Gr w w' → Calls Try.prog 43 #[.agg #[.int .i64 r, .int .i64 n, .slice ad L.length cap]] w' fun e w2 => e = .returned (.int .i64 (errB (Idn.mayB r n L))) ∧ Gr w' w2) := fun w' g => refCheck_any r n L ad cap w' (hL.gr g) hn
  have H1 : Hid (∀ w', Calls Try.prog 44 #[.string d] w' fun e w2 => e = .returned (.bool (Act.nameB d)) ∧ Gr w' w2) := fun w' => (refName_any d w' hd).mono (by rintro e w2 ⟨rfl, rfl⟩; exact ⟨rfl, Gr.refl _⟩)
  have HE : Hid (Nt.ckE (⟨k, r, n, L, d, y⟩ : Nt) = if (Nt.inB k 1 7 && (Idn.mayB r n L && decide (0 < L.length)) && (if k = 1 then Act.nameB d else decide (d = ⟨#[]⟩)) && (if k = 6 then Nt.inB y 1 9 else decide (y = 0))) = true then 0 else 130) := rfl
  have hi7 : Nt.inB k 1 7 = (decide (1 ≤ k) && decide (k ≤ 7)) := rfl
  have hi9 : Nt.inB y 1 9 = (decide (1 ≤ y) && decide (y ≤ 9)) := rfl
  rw [hi7, hi9] at HE
  generalize Nt.ckE (⟨k, r, n, L, d, y⟩ : Nt) = R at *
  clear hL hn hd hi7 hi9
  by_cases h1 : k < 1
  · have HV : Hid (R = 130) := by
      show _ = _
      rw [HE.out, decide_eq_false (show ¬ 1 ≤ k by omega)]; simp
    clear HE
    go_enter Try.func29, Try.ntmps29
    go_wp2
    go_ret
    exact ⟨by rw [HV.out]; rfl, (by repeat (first | exact Gr.refl _ | refine Gr.alloc ?_ | refine Gr.drew ?_ | refine Gr.trans ?_ (by assumption)))⟩
  · rw [decide_eq_true (show 1 ≤ k by omega)] at HE
    by_cases h7 : 7 < k
    · have HV : Hid (R = 130) := by
        show _ = _
        rw [HE.out, decide_eq_false (show ¬ k ≤ 7 by omega)]; simp
      clear HE
      go_enter Try.func29, Try.ntmps29
      go_wp2
      go_ret
      exact ⟨by rw [HV.out]; rfl, (by repeat (first | exact Gr.refl _ | refine Gr.alloc ?_ | refine Gr.drew ?_ | refine Gr.trans ?_ (by assumption)))⟩
    · rw [decide_eq_true (show k ≤ 7 by omega)] at HE
      generalize Idn.mayB r n L = bm at *
      cases bm with
      | false =>
        have HV : Hid (R = 130) := by show _ = _; rw [HE.out]; simp
        rw [show errB false = 30 from rfl] at H0
        clear HE
        go_enter Try.func29, Try.ntmps29
        go_wp2_with fail
        refine (H0.out _ ?_).mono ?_
        · exact (by repeat (first | exact Gr.refl _ | refine Gr.alloc ?_ | refine Gr.drew ?_ | refine Gr.trans ?_ (by assumption)))
        rintro e0 w1 ⟨rfl, hg0⟩
        have B1 := (Cs.new w [.int .i64 k, .int .i64 r, .int .i64 n, .slice ad L.length cap, .string d, .int .i64 y] 37 _ rfl).gr hg0
        have c0 := B1.at_ 0 _ rfl
        have c1 := B1.at_ 1 _ rfl
        have c2 := B1.at_ 2 _ rfl
        have c3 := B1.at_ 3 _ rfl
        have c4 := B1.at_ 4 _ rfl
        have c5 := B1.at_ 5 _ rfl
        have clt := B1.lt
        go_wp2
        go_ret
        exact ⟨by rw [HV.out]; rfl, (by repeat (first | exact Gr.refl _ | refine Gr.alloc ?_ | refine Gr.drew ?_ | refine Gr.trans ?_ (by assumption)))⟩
      | true =>
        rw [show errB true = 0 from rfl] at H0
        by_cases hl : L.length = 0
        · have HV : Hid (R = 130) := by show _ = _; rw [HE.out, decide_eq_false (show ¬ 0 < L.length by omega)]; simp
          obtain rfl : L = [] := List.length_eq_zero_iff.1 hl
          simp only [List.length_nil] at H0
          simp only [List.length_nil]
          clear hl HE
          go_enter Try.func29, Try.ntmps29
          go_wp2_with fail
          refine (H0.out _ ?_).mono ?_
          · exact (by repeat (first | exact Gr.refl _ | refine Gr.alloc ?_ | refine Gr.drew ?_ | refine Gr.trans ?_ (by assumption)))
          rintro e0 w1 ⟨rfl, hg0⟩
          have B1 := (Cs.new w [.int .i64 k, .int .i64 r, .int .i64 n, .slice ad 0 cap, .string d, .int .i64 y] 37 _ rfl).gr hg0
          have c0 := B1.at_ 0 _ rfl
          have c1 := B1.at_ 1 _ rfl
          have c2 := B1.at_ 2 _ rfl
          have c3 := B1.at_ 3 _ rfl
          have c4 := B1.at_ 4 _ rfl
          have c5 := B1.at_ 5 _ rfl
          have clt := B1.lt
          go_wp2
          go_ret
          exact ⟨by rw [HV.out]; rfl, (by repeat (first | exact Gr.refl _ | refine Gr.alloc ?_ | refine Gr.drew ?_ | refine Gr.trans ?_ (by assumption)))⟩
        · rw [decide_eq_true (show 0 < L.length by omega)] at HE
          have hl' : ((L.length : Int) == 0) = false := by rw [beq_eq_false_iff_ne]; omega
          clear hl
          simp only [Bool.true_and, Bool.and_self] at HE
          by_cases k1 : k = 1
          · subst k1
            rw [if_pos rfl] at HE
            simp only [if_neg (show ¬ ((1 : Int) = 6) by decide)] at HE
            generalize Act.nameB d = bn at *
            cases bn with
            | false =>
              have HV : Hid (R = 130) := by show _ = _; rw [HE.out]; simp
              clear HE
              go_enter Try.func29, Try.ntmps29
              go_wp2_with fail
              refine (H0.out _ ?_).mono ?_
              · exact (by repeat (first | exact Gr.refl _ | refine Gr.alloc ?_ | refine Gr.drew ?_ | refine Gr.trans ?_ (by assumption)))
              rintro e0 w1 ⟨rfl, hg0⟩
              have B1 := (Cs.new w [.int .i64 1, .int .i64 r, .int .i64 n, .slice ad L.length cap, .string d, .int .i64 y] 37 _ rfl).gr hg0
              have c0 := B1.at_ 0 _ rfl
              have c1 := B1.at_ 1 _ rfl
              have c2 := B1.at_ 2 _ rfl
              have c3 := B1.at_ 3 _ rfl
              have c4 := B1.at_ 4 _ rfl
              have c5 := B1.at_ 5 _ rfl
              have clt := B1.lt
              go_wp2_with fail
              refine (H1.out _).mono ?_
              rintro e1 w2 ⟨rfl, hg1⟩
              have B2 := B1.gr hg1
              have c0 := B2.at_ 0 _ rfl
              have c1 := B2.at_ 1 _ rfl
              have c2 := B2.at_ 2 _ rfl
              have c3 := B2.at_ 3 _ rfl
              have c4 := B2.at_ 4 _ rfl
              have c5 := B2.at_ 5 _ rfl
              have clt := B2.lt
              go_wp2
              go_ret
              exact ⟨by rw [HV.out]; rfl, (by repeat (first | exact Gr.refl _ | refine Gr.alloc ?_ | refine Gr.drew ?_ | refine Gr.trans ?_ (by assumption)))⟩
            | true =>
              by_cases hy : y = 0
              · subst hy
                have HV : Hid (R = 0) := by show _ = _; rw [HE.out]; simp
                clear HE
                go_enter Try.func29, Try.ntmps29
                go_wp2_with fail
                refine (H0.out _ ?_).mono ?_
                · exact (by repeat (first | exact Gr.refl _ | refine Gr.alloc ?_ | refine Gr.drew ?_ | refine Gr.trans ?_ (by assumption)))
                rintro e0 w1 ⟨rfl, hg0⟩
                have B1 := (Cs.new w [.int .i64 1, .int .i64 r, .int .i64 n, .slice ad L.length cap, .string d, .int .i64 0] 37 _ rfl).gr hg0
                have c0 := B1.at_ 0 _ rfl
                have c1 := B1.at_ 1 _ rfl
                have c2 := B1.at_ 2 _ rfl
                have c3 := B1.at_ 3 _ rfl
                have c4 := B1.at_ 4 _ rfl
                have c5 := B1.at_ 5 _ rfl
                have clt := B1.lt
                go_wp2_with fail
                refine (H1.out _).mono ?_
                rintro e1 w2 ⟨rfl, hg1⟩
                have B2 := B1.gr hg1
                have c0 := B2.at_ 0 _ rfl
                have c1 := B2.at_ 1 _ rfl
                have c2 := B2.at_ 2 _ rfl
                have c3 := B2.at_ 3 _ rfl
                have c4 := B2.at_ 4 _ rfl
                have c5 := B2.at_ 5 _ rfl
                have clt := B2.lt
                go_wp2
                go_ret
                exact ⟨by rw [HV.out]; rfl, (by repeat (first | exact Gr.refl _ | refine Gr.alloc ?_ | refine Gr.drew ?_ | refine Gr.trans ?_ (by assumption)))⟩
              · have HV : Hid (R = 130) := by show _ = _; rw [HE.out, decide_eq_false hy]; simp
                have hy' : (y != 0) = true := by simpa using hy
                clear HE
                go_enter Try.func29, Try.ntmps29
                go_wp2_with fail
                refine (H0.out _ ?_).mono ?_
                · exact (by repeat (first | exact Gr.refl _ | refine Gr.alloc ?_ | refine Gr.drew ?_ | refine Gr.trans ?_ (by assumption)))
                rintro e0 w1 ⟨rfl, hg0⟩
                have B1 := (Cs.new w [.int .i64 1, .int .i64 r, .int .i64 n, .slice ad L.length cap, .string d, .int .i64 y] 37 _ rfl).gr hg0
                have c0 := B1.at_ 0 _ rfl
                have c1 := B1.at_ 1 _ rfl
                have c2 := B1.at_ 2 _ rfl
                have c3 := B1.at_ 3 _ rfl
                have c4 := B1.at_ 4 _ rfl
                have c5 := B1.at_ 5 _ rfl
                have clt := B1.lt
                go_wp2_with fail
                refine (H1.out _).mono ?_
                rintro e1 w2 ⟨rfl, hg1⟩
                have B2 := B1.gr hg1
                have c0 := B2.at_ 0 _ rfl
                have c1 := B2.at_ 1 _ rfl
                have c2 := B2.at_ 2 _ rfl
                have c3 := B2.at_ 3 _ rfl
                have c4 := B2.at_ 4 _ rfl
                have c5 := B2.at_ 5 _ rfl
                have clt := B2.lt
                go_wp2
                go_ret
                exact ⟨by rw [HV.out]; rfl, (by repeat (first | exact Gr.refl _ | refine Gr.alloc ?_ | refine Gr.drew ?_ | refine Gr.trans ?_ (by assumption)))⟩
          · have k1' : (k == 1) = false := by simpa using k1
            have k1'' : (k != 1) = true := by simpa using k1
            rw [if_neg k1] at HE
            by_cases hd : d = ⟨#[]⟩
            · subst hd
              rw [decide_eq_true rfl, Bool.true_and] at HE
              by_cases k6 : k = 6
              · subst k6
                rw [if_pos rfl] at HE
                by_cases y1 : y < 1
                · have HV : Hid (R = 130) := by show _ = _; rw [HE.out, decide_eq_false (show ¬ 1 ≤ y by omega)]; simp
                  clear HE
                  go_enter Try.func29, Try.ntmps29
                  go_wp2_with fail
                  refine (H0.out _ ?_).mono ?_
                  · exact (by repeat (first | exact Gr.refl _ | refine Gr.alloc ?_ | refine Gr.drew ?_ | refine Gr.trans ?_ (by assumption)))
                  rintro e0 w1 ⟨rfl, hg0⟩
                  have B1 := (Cs.new w [.int .i64 6, .int .i64 r, .int .i64 n, .slice ad L.length cap, .string ⟨#[]⟩, .int .i64 y] 37 _ rfl).gr hg0
                  have c0 := B1.at_ 0 _ rfl
                  have c1 := B1.at_ 1 _ rfl
                  have c2 := B1.at_ 2 _ rfl
                  have c3 := B1.at_ 3 _ rfl
                  have c4 := B1.at_ 4 _ rfl
                  have c5 := B1.at_ 5 _ rfl
                  have clt := B1.lt
                  go_wp2
                  go_ret
                  exact ⟨by rw [HV.out]; rfl, (by repeat (first | exact Gr.refl _ | refine Gr.alloc ?_ | refine Gr.drew ?_ | refine Gr.trans ?_ (by assumption)))⟩
                · by_cases y9 : 9 < y
                  · have HV : Hid (R = 130) := by show _ = _; rw [HE.out, decide_eq_false (show ¬ y ≤ 9 by omega)]; simp
                    clear HE
                    go_enter Try.func29, Try.ntmps29
                    go_wp2_with fail
                    refine (H0.out _ ?_).mono ?_
                    · exact (by repeat (first | exact Gr.refl _ | refine Gr.alloc ?_ | refine Gr.drew ?_ | refine Gr.trans ?_ (by assumption)))
                    rintro e0 w1 ⟨rfl, hg0⟩
                    have B1 := (Cs.new w [.int .i64 6, .int .i64 r, .int .i64 n, .slice ad L.length cap, .string ⟨#[]⟩, .int .i64 y] 37 _ rfl).gr hg0
                    have c0 := B1.at_ 0 _ rfl
                    have c1 := B1.at_ 1 _ rfl
                    have c2 := B1.at_ 2 _ rfl
                    have c3 := B1.at_ 3 _ rfl
                    have c4 := B1.at_ 4 _ rfl
                    have c5 := B1.at_ 5 _ rfl
                    have clt := B1.lt
                    go_wp2
                    go_ret
                    exact ⟨by rw [HV.out]; rfl, (by repeat (first | exact Gr.refl _ | refine Gr.alloc ?_ | refine Gr.drew ?_ | refine Gr.trans ?_ (by assumption)))⟩
                  · have HV : Hid (R = 0) := by show _ = _; rw [HE.out, decide_eq_true (show 1 ≤ y by omega), decide_eq_true (show y ≤ 9 by omega)]; simp
                    clear HE
                    go_enter Try.func29, Try.ntmps29
                    go_wp2_with fail
                    refine (H0.out _ ?_).mono ?_
                    · exact (by repeat (first | exact Gr.refl _ | refine Gr.alloc ?_ | refine Gr.drew ?_ | refine Gr.trans ?_ (by assumption)))
                    rintro e0 w1 ⟨rfl, hg0⟩
                    have B1 := (Cs.new w [.int .i64 6, .int .i64 r, .int .i64 n, .slice ad L.length cap, .string ⟨#[]⟩, .int .i64 y] 37 _ rfl).gr hg0
                    have c0 := B1.at_ 0 _ rfl
                    have c1 := B1.at_ 1 _ rfl
                    have c2 := B1.at_ 2 _ rfl
                    have c3 := B1.at_ 3 _ rfl
                    have c4 := B1.at_ 4 _ rfl
                    have c5 := B1.at_ 5 _ rfl
                    have clt := B1.lt
                    go_wp2
                    go_ret
                    exact ⟨by rw [HV.out]; rfl, (by repeat (first | exact Gr.refl _ | refine Gr.alloc ?_ | refine Gr.drew ?_ | refine Gr.trans ?_ (by assumption)))⟩
              · rw [if_neg k6] at HE
                have k6' : (k == 6) = false := by simpa using k6
                have k6'' : (k != 6) = true := by simpa using k6
                by_cases hy : y = 0
                · subst hy
                  have HV : Hid (R = 0) := by show _ = _; rw [HE.out]; simp
                  clear HE
                  go_enter Try.func29, Try.ntmps29
                  go_wp2_with fail
                  refine (H0.out _ ?_).mono ?_
                  · exact (by repeat (first | exact Gr.refl _ | refine Gr.alloc ?_ | refine Gr.drew ?_ | refine Gr.trans ?_ (by assumption)))
                  rintro e0 w1 ⟨rfl, hg0⟩
                  have B1 := (Cs.new w [.int .i64 k, .int .i64 r, .int .i64 n, .slice ad L.length cap, .string ⟨#[]⟩, .int .i64 0] 37 _ rfl).gr hg0
                  have c0 := B1.at_ 0 _ rfl
                  have c1 := B1.at_ 1 _ rfl
                  have c2 := B1.at_ 2 _ rfl
                  have c3 := B1.at_ 3 _ rfl
                  have c4 := B1.at_ 4 _ rfl
                  have c5 := B1.at_ 5 _ rfl
                  have clt := B1.lt
                  go_wp2
                  go_ret
                  exact ⟨by rw [HV.out]; rfl, (by repeat (first | exact Gr.refl _ | refine Gr.alloc ?_ | refine Gr.drew ?_ | refine Gr.trans ?_ (by assumption)))⟩
                · have HV : Hid (R = 130) := by show _ = _; rw [HE.out, decide_eq_false hy]; simp
                  have hy' : (y != 0) = true := by simpa using hy
                  clear HE
                  go_enter Try.func29, Try.ntmps29
                  go_wp2_with fail
                  refine (H0.out _ ?_).mono ?_
                  · exact (by repeat (first | exact Gr.refl _ | refine Gr.alloc ?_ | refine Gr.drew ?_ | refine Gr.trans ?_ (by assumption)))
                  rintro e0 w1 ⟨rfl, hg0⟩
                  have B1 := (Cs.new w [.int .i64 k, .int .i64 r, .int .i64 n, .slice ad L.length cap, .string ⟨#[]⟩, .int .i64 y] 37 _ rfl).gr hg0
                  have c0 := B1.at_ 0 _ rfl
                  have c1 := B1.at_ 1 _ rfl
                  have c2 := B1.at_ 2 _ rfl
                  have c3 := B1.at_ 3 _ rfl
                  have c4 := B1.at_ 4 _ rfl
                  have c5 := B1.at_ 5 _ rfl
                  have clt := B1.lt
                  go_wp2
                  go_ret
                  exact ⟨by rw [HV.out]; rfl, (by repeat (first | exact Gr.refl _ | refine Gr.alloc ?_ | refine Gr.drew ?_ | refine Gr.trans ?_ (by assumption)))⟩
            · have HV : Hid (R = 130) := by show _ = _; rw [HE.out, decide_eq_false hd]; simp
              have hd' : d.toList.isEmpty = false := by rw [eqE, decide_eq_false hd]
              clear HE
              go_enter Try.func29, Try.ntmps29
              go_wp2_with fail
              refine (H0.out _ ?_).mono ?_
              · exact (by repeat (first | exact Gr.refl _ | refine Gr.alloc ?_ | refine Gr.drew ?_ | refine Gr.trans ?_ (by assumption)))
              rintro e0 w1 ⟨rfl, hg0⟩
              have B1 := (Cs.new w [.int .i64 k, .int .i64 r, .int .i64 n, .slice ad L.length cap, .string d, .int .i64 y] 37 _ rfl).gr hg0
              have c0 := B1.at_ 0 _ rfl
              have c1 := B1.at_ 1 _ rfl
              have c2 := B1.at_ 2 _ rfl
              have c3 := B1.at_ 3 _ rfl
              have c4 := B1.at_ 4 _ rfl
              have c5 := B1.at_ 5 _ rfl
              have clt := B1.lt
              go_wp2
              go_ret
              exact ⟨by rw [HV.out]; rfl, (by repeat (first | exact Gr.refl _ | refine Gr.alloc ?_ | refine Gr.drew ?_ | refine Gr.trans ?_ (by assumption)))⟩

theorem path_last (r : Int) (L : List (Int × Int)) (h0 : 0 < L.length) : (Idn.path r L)[L.length]? = some ((Idn.path r L).getLastD (-1)) ∧ (Idn.path r L)[L.length - 1]? = some ((Idn.path r L.dropLast).getLastD (-1)) := by
  have hne : L ≠ [] := List.length_pos_iff.1 h0
  obtain ⟨⟨s, o⟩, hlast⟩ : ∃ x, L.getLast hne = x := ⟨_, rfl⟩
  have e : L = L.dropLast ++ [(s, o)] := by rw [← hlast]; exact (List.dropLast_concat_getLast hne).symm
  generalize L.dropLast = M at *
  subst e
  rw [Idn.path_snoc]
  have hp : (Idn.path r M).length = M.length + 1 := path_len r M
  constructor
  · rw [List.length_append, List.length_singleton, List.getElem?_append_right (by omega), hp]
    simp
  · rw [List.length_append, List.length_singleton, Nat.add_sub_cancel, List.getElem?_append_left (by omega)]
    rw [List.getLastD_eq_getLast?, List.getLast?_eq_getElem?, hp, Nat.add_sub_cancel, List.getElem?_eq_getElem (by omega)]
    rfl

end Go.Proofs.Ytilkfgpcibdikaa
