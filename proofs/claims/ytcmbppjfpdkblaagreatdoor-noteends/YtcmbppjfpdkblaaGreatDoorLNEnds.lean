import Derived.Test.YtcmbppjfpdkblaaGreatDoorHC
import Derived.Test.YtcmbppjfpdkblaaGreatDoorHB
import Derived.Test.YtcmbppjfpdkblaaGreatDoorGV
import Derived.SevenTiedAt

/- For every input the law NoteEnds answers true: a note's ends are two organisations of its path, one behind the other. -/
namespace Go.Proofs.YtcmbppjfpdkblaaGreatDoor
open Go.ChangeShapes Go.WideShapes Go.ChangeAt Go.RowKit
open Go.ChangeMaps (open_string shut_string)

set_option maxHeartbeats 8000000 in
set_option maxRecDepth 100000 in
theorem noteEnds_walk (k r n : Int) (L : List (Int × Int)) (d : ByteArray) (y : Int) (ad : Option Addr) (cap : Nat) (w : World) (he : EnvN w) (hL : HopsAt w ad L) (hn : L.length ≤ 9223372036854775807) (hc : L.length ≤ cap) (hd : d.size ≤ 9223372036854775807) :
    Calls Tryz.prog 7 #[.agg #[.int .i64 k, .int .i64 r, .int .i64 n, .slice ad L.length cap, .string d, .int .i64 y]] w fun e w' => e = .returned (.bool true) ∧ Gr w w' := by
  have HA : Hid (∀ w', Gr w w' → Calls Tryz.prog 9 #[] w' fun e w2 => e = .returned (.bool true) ∧ Gr w' w2) := fun w' g => awake_any w' (he.gr g)
  have HW : Hid (∀ w', Gr w w' → Calls Tryz.prog 8 #[.agg #[.int .i64 k, .int .i64 r, .int .i64 n, .slice ad L.length cap, .string d, .int .i64 y]] w' fun e w2 => e = .returned (.bool (decide (L.length ≤ 200) && decide (d.size ≤ 10000))) ∧ Gr w' w2) := fun w' _ => few_any k r n L d y ad cap w'
  by_cases hf : (decide (L.length ≤ 200) && decide (d.size ≤ 10000)) = true
  · rw [hf] at HW
    have H1 : Hid (∀ w', Gr w w' → Calls Tryz.prog 10 #[.agg #[.int .i64 k, .int .i64 r, .int .i64 n, .slice ad L.length cap, .string d, .int .i64 y]] w' fun e w2 => e = .returned (.tuple #[.int .i64 (Nt.ends1 (⟨k, r, n, L, d, y⟩ : Nt)), .int .i64 (Nt.ends2 (⟨k, r, n, L, d, y⟩ : Nt))]) ∧ Gr w' w2) := fun w' g => nEnds_any k r n L d y ad cap w' (hL.gr g) hn hd hc
    have H2 : Hid (∀ w', Gr w w' → Calls Tryz.prog 14 #[.agg #[.int .i64 k, .int .i64 r, .int .i64 n, .slice ad L.length cap, .string d, .int .i64 y]] w' fun e w2 => e = .returned (.int .i64 (if Nt.ntB (⟨k, r, n, L, d, y⟩ : Nt) = true then 0 else 130)) ∧ Gr w' w2) := fun w' g => nCheck_any k r n L d y ad cap w' (hL.gr g) hn hd
    have HE1 : Hid (Nt.ends1 (⟨k, r, n, L, d, y⟩ : Nt) = if Nt.ntB (⟨k, r, n, L, d, y⟩ : Nt) = true then (if k ≤ 4 then Nt.upO (⟨k, r, n, L, d, y⟩ : Nt) else Nt.dnO (⟨k, r, n, L, d, y⟩ : Nt)) else -1) := rfl
    have HE2 : Hid (Nt.ends2 (⟨k, r, n, L, d, y⟩ : Nt) = if Nt.ntB (⟨k, r, n, L, d, y⟩ : Nt) = true then (if k ≤ 4 then Nt.dnO (⟨k, r, n, L, d, y⟩ : Nt) else Nt.upO (⟨k, r, n, L, d, y⟩ : Nt)) else -1) := rfl
    by_cases hm : Nt.ntB (⟨k, r, n, L, d, y⟩ : Nt) = true
    · rw [if_pos hm] at H2 HE1 HE2
      obtain ⟨hk, hi, h0, _, _⟩ := Nt.may_note hm
      simp only at hk hi h0
      have hpe : pathE r n L = Idn.path r L := by unfold pathE; rw [if_pos hi]
      have hpl := path_len r L
      obtain ⟨p1, p2⟩ := path_last r L h0
      have h4 := may_len hi
      have hnd := Idn.may_nodup hi
      have HP : Hid (∀ w', Gr w w' → Calls Tryz.prog 23 #[.agg #[.int .i64 r, .int .i64 n, .slice ad L.length cap]] w' fun e w2 => ∃ ad2 cap2, e = .returned (.slice ad2 (L.length + 1) cap2) ∧ L.length + 1 ≤ cap2 ∧ IntsAt w2 ad2 (Idn.path r L) ∧ Gr w' w2) := fun w' g => by
        have := path_any r n L ad cap w' (hL.gr g) hn
        rw [hpe, hpl] at this
        exact this
      have HO : Hid (∀ w', Gr w w' → Calls Tryz.prog 24 #[.agg #[.int .i64 r, .int .i64 n, .slice ad L.length cap]] w' fun e w2 => e = .returned (.int .i64 (Nt.dnO (⟨k, r, n, L, d, y⟩ : Nt))) ∧ Gr w' w2) := fun w' g => by
        have := org_any r n L ad cap w' (hL.gr g) hn
        rw [org_up hi] at this
        exact this
      have p1 : (Idn.path r L)[L.length]? = some (Nt.dnO (⟨k, r, n, L, d, y⟩ : Nt)) := p1
      have p2 : (Idn.path r L)[L.length - 1]? = some (Nt.upO (⟨k, r, n, L, d, y⟩ : Nt)) := p2
      generalize Nt.upO (⟨k, r, n, L, d, y⟩ : Nt) = U at *
      generalize Nt.dnO (⟨k, r, n, L, d, y⟩ : Nt) = V at *
      generalize Idn.path r L = pl at *
      obtain ⟨m, hmL⟩ : ∃ m, m = L.length := ⟨_, rfl⟩
      rw [← hmL] at p1 p2 hpl h4 h0
      have HP : Hid (∀ w', Gr w w' → Calls Tryz.prog 23 #[.agg #[.int .i64 r, .int .i64 n, .slice ad L.length cap]] w' fun e w2 => ∃ ad2 cap2, e = .returned (.slice ad2 (m + 1) cap2) ∧ m + 1 ≤ cap2 ∧ IntsAt w2 ad2 pl ∧ Gr w' w2) := by rw [hmL]; exact HP
      have hv1 : pl[m]'(by omega) = V := (List.getElem?_eq_some_iff.1 p1).2
      have hv2 : pl[m - 1]'(by omega) = U := (List.getElem?_eq_some_iff.1 p2).2
      have hUV : (U == V) = false := by
        have := Idn.nodup_get hnd (i := m - 1) (j := m) (by omega) (by omega) (by omega)
        rw [hv1, hv2] at this
        exact this
      have HFar : Hid (∀ j (hj : j < pl.length), j + 1 < m → (pl[j] == U) = false ∧ (pl[j] == V) = false) := by
        intro j hj hjm
        have e1 := Idn.nodup_get hnd (i := j) (j := m - 1) hj (by omega) (by omega)
        have e2 := Idn.nodup_get hnd (i := j) (j := m) hj (by omega) (by omega)
        rw [hv2] at e1
        rw [hv1] at e2
        exact ⟨e1, e2⟩
      have HV1 := Lib.hid hv1
      have HV2 := Lib.hid hv2
      have hVU : (V == U) = false := by
        rw [beq_eq_false_iff_ne] at hUV ⊢
        exact fun e => hUV e.symm
      have hUVn : (U != V) = true := by rw [bne, hUV]; rfl
      have hVUn : (V != U) = true := by rw [bne, hVU]; rfl
      have HML := Lib.hid hmL
      clear he hL hn hc hd hf hm hi hpe p1 p2 hnd hv1 hv2 hmL
      by_cases hk4 : k ≤ 4
      · rw [if_pos hk4] at HE1 HE2
        rw [HE1.out, HE2.out] at H1
        have hk4b : decide (k ≤ 4) = true := decide_eq_true hk4
        clear HE1 HE2 hVU hVUn
        go_enter Tryz.func7, Tryz.ntmps7
        go_wp2_with fail
        refine (HW.out _ ?_).mono ?_
        · exact (by repeat (first | exact Gr.refl _ | refine Gr.alloc ?_ | refine Gr.drew ?_ | refine Gr.trans ?_ (by assumption)))
        rintro e0 w0 ⟨rfl, hg0⟩
        have G0 : Gr w w0 := (by repeat (first | exact Gr.refl _ | refine Gr.alloc ?_ | refine Gr.drew ?_ | refine Gr.trans ?_ (by assumption)))
        have B0 := (Cs.new w [.int .i64 k, .int .i64 r, .int .i64 n, .slice ad L.length cap, .string d, .int .i64 y] 26 _ rfl).gr hg0
        have c0 := B0.at_ 0 _ rfl
        have c1 := B0.at_ 1 _ rfl
        have c2 := B0.at_ 2 _ rfl
        have c3 := B0.at_ 3 _ rfl
        have c4 := B0.at_ 4 _ rfl
        have c5 := B0.at_ 5 _ rfl
        have clt := B0.lt
        clear hg0
        go_wp2_with fail
        refine (H1.out _ ?_).mono ?_
        · exact G0
        rintro e1 w1 ⟨rfl, hg1⟩
        have G1 : Gr w w1 := G0.trans hg1
        have B1 := B0.gr hg1
        clear c0 c1 c2 c3 c4 c5 clt
        have c0 := B1.at_ 0 _ rfl
        have c1 := B1.at_ 1 _ rfl
        have c2 := B1.at_ 2 _ rfl
        have c3 := B1.at_ 3 _ rfl
        have c4 := B1.at_ 4 _ rfl
        have c5 := B1.at_ 5 _ rfl
        have clt := B1.lt
        clear hg1 B0 G0
        go_wp2_with fail
        refine (H2.out _ ?_).mono ?_
        · exact G1
        rintro e2 w2 ⟨rfl, hg2⟩
        have G2 : Gr w w2 := G1.trans hg2
        have B2 := B1.gr hg2
        clear c0 c1 c2 c3 c4 c5 clt
        have c0 := B2.at_ 0 _ rfl
        have c1 := B2.at_ 1 _ rfl
        have c2 := B2.at_ 2 _ rfl
        have c3 := B2.at_ 3 _ rfl
        have c4 := B2.at_ 4 _ rfl
        have c5 := B2.at_ 5 _ rfl
        have clt := B2.lt
        clear hg2 B1 G1
        go_wp2_with fail
        refine (HP.out _ G2).mono ?_
        rintro e3 w3 ⟨ad2, cap2, rfl, hcp, hia, hg3⟩
        have G3 : Gr w w3 := G2.trans hg3
        have B3 := B2.gr hg3
        clear c0 c1 c2 c3 c4 c5 clt
        obtain ⟨pb, po, rfl, hpb, _⟩ := hia 0 (by omega)
        have HC : Hid (∀ j (hj : j < pl.length), w3.cell? ⟨pb, po + j, none⟩ = some (.int .i64 pl[j])) := by
          intro j hj
          obtain ⟨_, _, e, _, h⟩ := hia j hj
          cases e
          exact h
        have hcpI : ((m : Int) + 1) ≤ cap2 := by omega
        clear hg3 G2 B2 hia
        go_wp2
        go_loopw [6, 7] (fun c i wr => ∃ j : Nat, 1 ≤ j ∧ j ≤ m + 1 ∧ i = .int .i64 j ∧ c = .int .i64 (if j ≤ m then 0 else 1) ∧ wr = w3) (fun _ i _ => m + 1 - (intOf i).toNat)
        case atStart => exact ⟨1, by omega, by omega, rfl, by rw [if_pos (by omega)], rfl⟩
        case round =>
          obtain ⟨j, hj1, hj2, rfl, rfl, rfl⟩ := hrel
          by_cases hjm : j ≤ m
          · rw [if_pos hjm]
            obtain ⟨q, rfl⟩ : ∃ q, j = q + 1 := ⟨j - 1, by omega⟩
            have hc1 := HC.out q (by omega)
            have hc2 := HC.out (q + 1) (by omega)
            have hjI : ((q : Int) + 1) < (m : Int) + 1 := by omega
            have hq1 : (q : Int) + 1 - 1 = (q : Int) := by omega
            have hqI : (q : Int) < (m : Int) + 1 := by omega
            by_cases hlast : q + 1 = m
            · have e1 : pl[q]'(by omega) = U := by have := HV2.out; simp only [show m - 1 = q by omega] at this; exact this
              have e2 : pl[q + 1]'(by omega) = V := by have := HV1.out; simp only [← hlast] at this; exact this
              rw [e1] at hc1
              rw [e2] at hc2
              clear e1 e2
              have hlast' := Lib.hid hlast
              clear hlast hjm
              go_wp2
              go_roundw
              case rel => exact ⟨q + 1 + 1, by omega, by have := hlast'.out; omega, by go_num, by rw [if_neg (by have := hlast'.out; omega)], by first | rfl | trivial⟩
              case measure => simp [intOf]; omega
            · obtain ⟨n1, n2⟩ := HFar.out q (by omega) (by omega)
              generalize pl[q]'(by omega) = v1 at *
              generalize pl[q + 1]'(by omega) = v2 at *
              have hlast' := Lib.hid (show q + 1 + 1 ≤ m by omega)
              clear hlast hjm
              go_wp2
              go_roundw
              case rel => exact ⟨q + 1 + 1, by omega, by have := hlast'.out; omega, by go_num, by rw [if_pos hlast'.out], by first | rfl | trivial⟩
              case measure => simp [intOf]; omega
          · rw [if_neg hjm]
            obtain rfl : j = m + 1 := by omega
            have b3 := B3
            have c0 := b3.at_ 0 _ rfl
            have c1 := b3.at_ 1 _ rfl
            have c2 := b3.at_ 2 _ rfl
            have c3 := b3.at_ 3 _ rfl
            have c4 := b3.at_ 4 _ rfl
            have c5 := b3.at_ 5 _ rfl
            have clt := b3.lt
            clear b3 hjm hj1 hj2
            go_wp2
            go_region_held3 (fun w' => Gr wr w' ∧ w'.cell? ⟨w.heap.size, 0, none⟩ = some (.int .i64 k) ∧ w'.cell? ⟨w.heap.size, 1, none⟩ = some (.int .i64 r) ∧ w'.cell? ⟨w.heap.size, 2, none⟩ = some (.int .i64 n) ∧ w'.cell? ⟨w.heap.size, 3, none⟩ = some (.slice ad L.length cap))
              ((go_split_ands; exact ⟨(by repeat (first | exact Gr.refl _ | refine Gr.alloc ?_ | refine Gr.drew ?_ | refine Gr.trans ?_ (by assumption))), Gr.keep (W := wr) (by repeat (first | exact Gr.refl _ | refine Gr.alloc ?_ | refine Gr.drew ?_ | refine Gr.trans ?_ (by assumption))) c0, Gr.keep (W := wr) (by repeat (first | exact Gr.refl _ | refine Gr.alloc ?_ | refine Gr.drew ?_ | refine Gr.trans ?_ (by assumption))) c1, Gr.keep (W := wr) (by repeat (first | exact Gr.refl _ | refine Gr.alloc ?_ | refine Gr.drew ?_ | refine Gr.trans ?_ (by assumption))) c2, Gr.keep (W := wr) (by repeat (first | exact Gr.refl _ | refine Gr.alloc ?_ | refine Gr.drew ?_ | refine Gr.trans ?_ (by assumption))) c3⟩))
              ((first | (go_at_call 24; refine (HO.out _ ?_).mono ?_; (go_split_ands; exact G3.trans (by repeat (first | exact Gr.refl _ | refine Gr.alloc ?_ | refine Gr.drew ?_ | refine Gr.trans ?_ (by assumption)))); rintro e v1 ⟨rfl, hv1⟩; go_split_ands) | (go_at_call 9; refine (HA.out _ ?_).mono ?_; (go_split_ands; exact G3.trans (by repeat (first | exact Gr.refl _ | refine Gr.alloc ?_ | refine Gr.drew ?_ | refine Gr.trans ?_ (by assumption)))); rintro e v2 ⟨rfl, hv2⟩; go_split_ands)))
            all_goals go_wp2
            all_goals go_ret
            all_goals exact ⟨rfl, G3.trans (by repeat (first | exact Gr.refl _ | refine Gr.alloc ?_ | refine Gr.drew ?_ | refine Gr.trans ?_ (by assumption)))⟩
      · rw [if_neg hk4] at HE1 HE2
        rw [HE1.out, HE2.out] at H1
        have hk4b : decide (k ≤ 4) = false := decide_eq_false hk4
        clear HE1 HE2 hUVn
        go_enter Tryz.func7, Tryz.ntmps7
        go_wp2_with fail
        refine (HW.out _ ?_).mono ?_
        · exact (by repeat (first | exact Gr.refl _ | refine Gr.alloc ?_ | refine Gr.drew ?_ | refine Gr.trans ?_ (by assumption)))
        rintro e0 w0 ⟨rfl, hg0⟩
        have G0 : Gr w w0 := (by repeat (first | exact Gr.refl _ | refine Gr.alloc ?_ | refine Gr.drew ?_ | refine Gr.trans ?_ (by assumption)))
        have B0 := (Cs.new w [.int .i64 k, .int .i64 r, .int .i64 n, .slice ad L.length cap, .string d, .int .i64 y] 26 _ rfl).gr hg0
        have c0 := B0.at_ 0 _ rfl
        have c1 := B0.at_ 1 _ rfl
        have c2 := B0.at_ 2 _ rfl
        have c3 := B0.at_ 3 _ rfl
        have c4 := B0.at_ 4 _ rfl
        have c5 := B0.at_ 5 _ rfl
        have clt := B0.lt
        clear hg0
        go_wp2_with fail
        refine (H1.out _ ?_).mono ?_
        · exact G0
        rintro e1 w1 ⟨rfl, hg1⟩
        have G1 : Gr w w1 := G0.trans hg1
        have B1 := B0.gr hg1
        clear c0 c1 c2 c3 c4 c5 clt
        have c0 := B1.at_ 0 _ rfl
        have c1 := B1.at_ 1 _ rfl
        have c2 := B1.at_ 2 _ rfl
        have c3 := B1.at_ 3 _ rfl
        have c4 := B1.at_ 4 _ rfl
        have c5 := B1.at_ 5 _ rfl
        have clt := B1.lt
        clear hg1 B0 G0
        go_wp2_with fail
        refine (H2.out _ ?_).mono ?_
        · exact G1
        rintro e2 w2 ⟨rfl, hg2⟩
        have G2 : Gr w w2 := G1.trans hg2
        have B2 := B1.gr hg2
        clear c0 c1 c2 c3 c4 c5 clt
        have c0 := B2.at_ 0 _ rfl
        have c1 := B2.at_ 1 _ rfl
        have c2 := B2.at_ 2 _ rfl
        have c3 := B2.at_ 3 _ rfl
        have c4 := B2.at_ 4 _ rfl
        have c5 := B2.at_ 5 _ rfl
        have clt := B2.lt
        clear hg2 B1 G1
        go_wp2_with fail
        refine (HP.out _ G2).mono ?_
        rintro e3 w3 ⟨ad2, cap2, rfl, hcp, hia, hg3⟩
        have G3 : Gr w w3 := G2.trans hg3
        have B3 := B2.gr hg3
        clear c0 c1 c2 c3 c4 c5 clt
        obtain ⟨pb, po, rfl, hpb, _⟩ := hia 0 (by omega)
        have HC : Hid (∀ j (hj : j < pl.length), w3.cell? ⟨pb, po + j, none⟩ = some (.int .i64 pl[j])) := by
          intro j hj
          obtain ⟨_, _, e, _, h⟩ := hia j hj
          cases e
          exact h
        have hcpI : ((m : Int) + 1) ≤ cap2 := by omega
        clear hg3 G2 B2 hia
        go_wp2
        go_loopw [6, 7] (fun c i wr => ∃ j : Nat, 1 ≤ j ∧ j ≤ m + 1 ∧ i = .int .i64 j ∧ c = .int .i64 (if j ≤ m then 0 else 1) ∧ wr = w3) (fun _ i _ => m + 1 - (intOf i).toNat)
        case atStart => exact ⟨1, by omega, by omega, rfl, by rw [if_pos (by omega)], rfl⟩
        case round =>
          obtain ⟨j, hj1, hj2, rfl, rfl, rfl⟩ := hrel
          by_cases hjm : j ≤ m
          · rw [if_pos hjm]
            obtain ⟨q, rfl⟩ : ∃ q, j = q + 1 := ⟨j - 1, by omega⟩
            have hc1 := HC.out q (by omega)
            have hc2 := HC.out (q + 1) (by omega)
            have hjI : ((q : Int) + 1) < (m : Int) + 1 := by omega
            have hq1 : (q : Int) + 1 - 1 = (q : Int) := by omega
            have hqI : (q : Int) < (m : Int) + 1 := by omega
            by_cases hlast : q + 1 = m
            · have e1 : pl[q]'(by omega) = U := by have := HV2.out; simp only [show m - 1 = q by omega] at this; exact this
              have e2 : pl[q + 1]'(by omega) = V := by have := HV1.out; simp only [← hlast] at this; exact this
              rw [e1] at hc1
              rw [e2] at hc2
              clear e1 e2
              have hlast' := Lib.hid hlast
              clear hlast hjm
              go_wp2
              go_roundw
              case rel => exact ⟨q + 1 + 1, by omega, by have := hlast'.out; omega, by go_num, by rw [if_neg (by have := hlast'.out; omega)], by first | rfl | trivial⟩
              case measure => simp [intOf]; omega
            · obtain ⟨n1, n2⟩ := HFar.out q (by omega) (by omega)
              generalize pl[q]'(by omega) = v1 at *
              generalize pl[q + 1]'(by omega) = v2 at *
              have hlast' := Lib.hid (show q + 1 + 1 ≤ m by omega)
              clear hlast hjm
              go_wp2
              go_roundw
              case rel => exact ⟨q + 1 + 1, by omega, by have := hlast'.out; omega, by go_num, by rw [if_pos hlast'.out], by first | rfl | trivial⟩
              case measure => simp [intOf]; omega
          · rw [if_neg hjm]
            obtain rfl : j = m + 1 := by omega
            have b3 := B3
            have c0 := b3.at_ 0 _ rfl
            have c1 := b3.at_ 1 _ rfl
            have c2 := b3.at_ 2 _ rfl
            have c3 := b3.at_ 3 _ rfl
            have c4 := b3.at_ 4 _ rfl
            have c5 := b3.at_ 5 _ rfl
            have clt := b3.lt
            clear b3 hjm hj1 hj2
            go_wp2
            go_region_held3 (fun w' => Gr wr w' ∧ w'.cell? ⟨w.heap.size, 0, none⟩ = some (.int .i64 k) ∧ w'.cell? ⟨w.heap.size, 1, none⟩ = some (.int .i64 r) ∧ w'.cell? ⟨w.heap.size, 2, none⟩ = some (.int .i64 n) ∧ w'.cell? ⟨w.heap.size, 3, none⟩ = some (.slice ad L.length cap))
              ((go_split_ands; exact ⟨(by repeat (first | exact Gr.refl _ | refine Gr.alloc ?_ | refine Gr.drew ?_ | refine Gr.trans ?_ (by assumption))), Gr.keep (W := wr) (by repeat (first | exact Gr.refl _ | refine Gr.alloc ?_ | refine Gr.drew ?_ | refine Gr.trans ?_ (by assumption))) c0, Gr.keep (W := wr) (by repeat (first | exact Gr.refl _ | refine Gr.alloc ?_ | refine Gr.drew ?_ | refine Gr.trans ?_ (by assumption))) c1, Gr.keep (W := wr) (by repeat (first | exact Gr.refl _ | refine Gr.alloc ?_ | refine Gr.drew ?_ | refine Gr.trans ?_ (by assumption))) c2, Gr.keep (W := wr) (by repeat (first | exact Gr.refl _ | refine Gr.alloc ?_ | refine Gr.drew ?_ | refine Gr.trans ?_ (by assumption))) c3⟩))
              ((first | (go_at_call 24; refine (HO.out _ ?_).mono ?_; (go_split_ands; exact G3.trans (by repeat (first | exact Gr.refl _ | refine Gr.alloc ?_ | refine Gr.drew ?_ | refine Gr.trans ?_ (by assumption)))); rintro e v1 ⟨rfl, hv1⟩; go_split_ands) | (go_at_call 9; refine (HA.out _ ?_).mono ?_; (go_split_ands; exact G3.trans (by repeat (first | exact Gr.refl _ | refine Gr.alloc ?_ | refine Gr.drew ?_ | refine Gr.trans ?_ (by assumption)))); rintro e v2 ⟨rfl, hv2⟩; go_split_ands)))
            all_goals go_wp2
            all_goals go_ret
            all_goals exact ⟨rfl, G3.trans (by repeat (first | exact Gr.refl _ | refine Gr.alloc ?_ | refine Gr.drew ?_ | refine Gr.trans ?_ (by assumption)))⟩
    · rw [if_neg hm] at H2 HE1 HE2
      rw [HE1.out, HE2.out] at H1
      clear he hL hn hc hd hf hm HE1 HE2
      go_enter Tryz.func7, Tryz.ntmps7
      go_wp2_with fail
      refine (HW.out _ ?_).mono ?_
      · exact (by repeat (first | exact Gr.refl _ | refine Gr.alloc ?_ | refine Gr.drew ?_ | refine Gr.trans ?_ (by assumption)))
      rintro e0 w0 ⟨rfl, hg0⟩
      have G0 : Gr w w0 := (by repeat (first | exact Gr.refl _ | refine Gr.alloc ?_ | refine Gr.drew ?_ | refine Gr.trans ?_ (by assumption)))
      have B0 := (Cs.new w [.int .i64 k, .int .i64 r, .int .i64 n, .slice ad L.length cap, .string d, .int .i64 y] 26 _ rfl).gr hg0
      have c0 := B0.at_ 0 _ rfl
      have c1 := B0.at_ 1 _ rfl
      have c2 := B0.at_ 2 _ rfl
      have c3 := B0.at_ 3 _ rfl
      have c4 := B0.at_ 4 _ rfl
      have c5 := B0.at_ 5 _ rfl
      have clt := B0.lt
      clear hg0
      go_wp2_with fail
      refine (H1.out _ ?_).mono ?_
      · exact G0
      rintro e1 w1 ⟨rfl, hg1⟩
      have G1 : Gr w w1 := G0.trans hg1
      have B1 := B0.gr hg1
      clear c0 c1 c2 c3 c4 c5 clt
      have c0 := B1.at_ 0 _ rfl
      have c1 := B1.at_ 1 _ rfl
      have c2 := B1.at_ 2 _ rfl
      have c3 := B1.at_ 3 _ rfl
      have c4 := B1.at_ 4 _ rfl
      have c5 := B1.at_ 5 _ rfl
      have clt := B1.lt
      clear hg1 B0 G0
      go_wp2_with fail
      refine (H2.out _ ?_).mono ?_
      · exact G1
      rintro e2 w2 ⟨rfl, hg2⟩
      have G2 : Gr w w2 := G1.trans hg2
      have B2 := B1.gr hg2
      clear c0 c1 c2 c3 c4 c5 clt
      have c0 := B2.at_ 0 _ rfl
      have c1 := B2.at_ 1 _ rfl
      have c2 := B2.at_ 2 _ rfl
      have c3 := B2.at_ 3 _ rfl
      have c4 := B2.at_ 4 _ rfl
      have c5 := B2.at_ 5 _ rfl
      have clt := B2.lt
      clear hg2 B1 G1
      clear c0 c1 c2 c3 c4 c5 clt
      clear B2
      go_wp2_with fail
      refine (HA.out _ G2).mono ?_
      rintro e3 w3 ⟨rfl, hg3⟩
      have G3 : Gr w w3 := G2.trans hg3
      go_wp2
      go_ret
      exact ⟨rfl, G3⟩
  · have hf' : (decide (L.length ≤ 200) && decide (d.size ≤ 10000)) = false := by simpa using hf
    rw [hf'] at HW
    clear he hL hn hc hd hf hf'
    go_enter Tryz.func7, Tryz.ntmps7
    go_wp2_with fail
    refine (HW.out _ ?_).mono ?_
    · exact (by repeat (first | exact Gr.refl _ | refine Gr.alloc ?_ | refine Gr.drew ?_ | refine Gr.trans ?_ (by assumption)))
    rintro e1 w1 ⟨rfl, hg1⟩
    have G1 : Gr w w1 := (by repeat (first | exact Gr.refl _ | refine Gr.alloc ?_ | refine Gr.drew ?_ | refine Gr.trans ?_ (by assumption)))
    go_wp2_with fail
    refine (HA.out _ G1).mono ?_
    rintro e2 w2 ⟨rfl, hg2⟩
    go_wp2
    go_ret
    exact ⟨rfl, G1.trans hg2⟩

set_option maxRecDepth 100000 in
theorem noteEnds_lifted (os : Os) (started : os.Started) (H : Type) (enc : TypeId × Value → H) :
    ReturnsInHanded {} Tryz.checked os 7 .any (fun w args => (Rows.noteEndsSpec.pre enc Tryz.prog Tryz.f7 [] false w args ∧ laidMetH Tryz.prog laidL w) ∧ sizedMet enc Tryz.prog Tryz.f7 (OpenSpec.ofChange Rows.noteEndsSpec) false w args)
      (Rows.noteEndsSpec.post enc Tryz.prog Tryz.f7 false true false false) := by
  refine returnsInHanded_of_change_and (C := Tryz.checked) (X := fun w _ => laidMetH Tryz.prog laidL w) (fun _ _ _ hh h => h.of_heap hh) own2 started (by kernel_rfl) Tryz.func7
    (ChangeSpec.witness_shaped (enc := enc) (C := Tryz.checked) (os := os) (X := fun w _ => laidMetH Tryz.prog laidL w) false (World.doorLaid Tryz.prog 400 os) #[.agg #[.int .i64 0, .int .i64 0, .int .i64 0, .slice none 0 0, .string ⟨#[]⟩, .int .i64 0]] 8 rfl (World.shaped_of_RefB (by kernel_rfl) (by kernel_rfl)) (by kernel_rfl) (by kernel_rfl) (by kernel_rfl) (door_met os _)) ?_
  intro W base args ds gs before hval0 hW _ hsz0 hL _
  have hval : ∀ (j : Nat) t v, Tryz.f7.params[j]? = some t → args[j]? = some v → Value.okWide Tryz.prog W .any base t v := hval0
  have hsz : (DataW.weightsEach Tryz.prog (Tryz.f7.params.toList ++ Rows.noteEndsSpec.plain.varTypes Tryz.prog) (ds ++ gs)).all (· ≤ reachBytes) = true := hsz0
  have hW' := hW
  obtain ⟨p, q, hA0, hV, rfl, hfz, hnd⟩ := hW
  have hA : DataW.TrodAll enc Tryz.prog W 0 (fun _ => true) true Tryz.f7.params.toList args.toList ds p := hA0
  rw [Tryz.params7] at hA hval hsz
  obtain ⟨v0, d0, rfl, rfl, h0⟩ := trodAll_one hA
  obtain ⟨rfl, rfl⟩ := trodVars_none hV
  have k0 := h0
  have lt0 : ∀ x ∈ p, x.block < W.heap.size := by obtain ⟨m, hm⟩ := k0; exact DataW.trod_lt m _ _ _ hm
  obtain ⟨x0, ad0, cap0, rfl, hL0, hn0, hc0, hd0⟩ := open_note (hval 0 26 v0 rfl rfl) h0
  clear hA0 hval0
  have hT := env_of_laid hL
  refine (noteEnds_walk x0.k x0.r x0.n x0.L x0.d x0.y ad0 cap0 W hT hL0 hn0 hc0 hd0).mono fun e W' ⟨he, hg⟩ => ?_
  subst he
  exact ⟨_, rfl, _, _, _, [], _, [], hW', trodAll_mk1 (shut_bool Tryz.underlying4 _), trodAll_mk1 (Below.trod laidOut2 (by kernel_rfl) (of_decide_eq_true (by kernel_rfl)) k0 hg.below lt0), rfl, hg.below.frame _, fun h => by cases h⟩

theorem noteEnds_holds : Rows.NoteEndsSaid :=
  OpenClaim.holds_of_wide 7 Tryz.f7 rfl rfl rfl rfl rfl rfl rfl ⟨rfl, rfl, rfl, rfl, rfl⟩ rfl rfl rfl rfl rfl (by kernel_rfl) Tryz.func7 (by kernel_rfl)
    (of_decide_eq_true (by kernel_rfl)) (by unfold Func.isWrapper; first | (rw [if_pos (by decide +kernel)]; kernel_rfl) | (rw [if_neg (by decide +kernel)]; exact ⟨rfl, rfl⟩))
    (fun os started H enc _ => noteEnds_lifted os started H enc)

theorem noteEnds_card_holds : Rows.NoteEndsCardSaid :=
  Claim7.holds_tied_plain_at .later [] [.data, .data, .data, .sentinel, .sentinel, .data, .data] true (true, "f0fa4e2e6549f31233243eab08a94723d74d26bc049039476799d23fce00b93f") true
    noteEnds_holds (fun _ h => by cases h) (by kernel_rfl) (fun _ h => by cases h) noteEnds_row_tie rfl ⟨rfl, rfl⟩ (by kernel_rfl) rfl
    (fun f fn hf hfn => by
      obtain rfl : f = 7 := Option.some.inj ((show Tryz.prog.funcNamed "entente/ententelaw13.NoteEnds" = some 7 by kernel_rfl).symm.trans hf) |>.symm
      obtain rfl : fn = Tryz.f7 := (Option.some.inj (Tryz.func7.symm.trans hfn)).symm
      exact ⟨by kernel_rfl, fun j t ht => by
        rw [Tryz.params7] at ht
        have hm : t ∈ [26] := by simpa using Array.mem_of_getElem? ht
        have hall : ([26].all fun u => !Tryz.prog.wantsStandIn u) = true := by kernel_rfl
        exact (show Tryz.prog.wantsStandIn t = false by simpa using List.all_eq_true.1 hall t hm)⟩)
    (by kernel_rfl)
end Go.Proofs.YtcmbppjfpdkblaaGreatDoor
