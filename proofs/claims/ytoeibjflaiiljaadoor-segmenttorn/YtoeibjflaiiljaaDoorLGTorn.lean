
/- For every input the law SegmentTorn answers true: a file above the log's that is a beginning of a head, but not a whole one, changes nothing but which files are to go; a whole one is the log in its place. -/
import Derived.Test.YtoeibjflaiiljaaDoorLaidQ
import Derived.Test.YtoeibjflaiiljaaDoorSgW
import Derived.Test.YtoeibjflaiiljaaDoorSgQ
import Derived.Test.YtoeibjflaiiljaaDoorSmlA
import Derived.Test.YtoeibjflaiiljaaDoorOpenS2
import Derived.Test.YtoeibjflaiiljaaDoorOpenG
import Derived.WalkMore
import Derived.Deep.DeepCutAuto
import Derived.SevenTiedAt
namespace Go.Proofs.YtoeibjflaiiljaaDoor
open Go.ChangeShapes Go.WideShapes Go.ChangeAt Go.RowKit
open Go.ChangeMaps (open_string shut_string)
open Dk (Fl)

theorem ext0_data (s : ByteArray) (k : Nat) : (s.extract 0 k).data.toList = s.data.toList.take k := by
  have := ext_dat s 0 k
  rw [Nat.zero_add] at this
  rw [this, List.drop_zero]
theorem map_back (L : List ByteArray) : (L.map (fun s => s.data.toList)).map mkT = L := by
  rw [List.map_map]
  exact (List.map_congr_left (fun s _ => mk_data s)).trans (List.map_id _)
theorem arr_ext (s : ByteArray) (l : List UInt8) (h : s.data.toList = l) : s = ⟨l.toArray⟩ := by
  subst h; exact (mk_data s).symm

theorem row_new2 (W : World) (f g : Fl) (ty : TypeId) (B : Nat) (hB : B = W.heap.size) : RowAt flf (W.alloc (.cells #[.int .i64 f.n, .string f.d, .int .i64 f.y, .int .i64 g.n, .string g.d, .int .i64 g.y] ty)) (some ⟨B, 0, none⟩) [f, g] := by
  subst hB
  exact row_two (by simp) (by simp) (by simp) (by simp) (by simp) (by simp)

/- what the statement does, where all is laid -/
set_option maxHeartbeats 8000000 in
set_option maxRecDepth 100000 in
theorem torn_core (L : List ByteArray) (ad : Option Addr) (cap : Nat) (t S T C : ByteArray) (c : Nat) (w : World) (xn : Int) (xg : Nat) (R : List ByteArray) (dr : Int)
    (HA : Hid (∀ w', Gr w w' → Calls Tryd.prog 8 #[] w' fun e w2 => e = .returned (.bool true) ∧ Gr w' w2))
    (H0 : Hid (∀ w', Gr w w' → Calls Tryd.prog 7 #[.slice ad L.length cap] w' fun e w2 => e = .returned (.bool true) ∧ w2 = w'))
    (HN : Hid (∀ w', Gr w w' → Calls Tryd.prog 11 #[.slice ad L.length cap] w' fun e w2 => e = .returned (.tuple #[.string S, .int .i64 0]) ∧ Gr w' w2))
    (HB : Hid (∀ w', Gr w w' → Calls Tryd.prog 9 #[.string t] w' fun e w2 => e = .returned (.tuple #[.string T, .int .i64 0]) ∧ Gr w' w2))
    (HL : Hid (∀ (w' : World) (b : Nat), Gr w w' → RowAt flf w' (some ⟨b, 0, none⟩) [⟨1, S, 0⟩, ⟨2, C, 0⟩] → Calls Tryd.prog 14 #[.slice (some ⟨b, 0, none⟩) 2 2] w' fun e w2 => ∃ ab cb da cd, e = .returned (.tuple #[.agg #[.int .i64 xn, .int .i64 (xg : Int), .slice ab R.length cb, .slice da 1 cd], .int .i64 0]) ∧ StrsAt w2 ab R ∧ IntsAt w2 da [dr] ∧ Gr w' w2))
    (HS : Hid (∀ (w' : World) (a : Option Addr) (k : Nat), Gr w w' → StrsAt w' a L → Calls Tryd.prog 16 #[.slice a L.length k, .slice ad L.length cap] w' fun e w2 => e = .returned (.bool true) ∧ Gr w' w2))
    (HS1 : Hid (∀ (w' : World) (a : Option Addr) (k b : Nat), StrsAt w' a [t] → w'.cell? ⟨b, 0, none⟩ = some (.string t) → Calls Tryd.prog 16 #[.slice a 1 k, .slice (some ⟨b, 0, none⟩) 1 1] w' fun e w2 => e = .returned (.bool true) ∧ Gr w' w2))
    (ht : t.size ≤ 30000) (hnl : L.length ≠ 0) (hl : L.length ≤ 5000) (hC : C = T.extract 0 c) (h1 : 1 ≤ c) (h2 : c ≤ T.size) (_hTs : T.size ≤ 40000) (_hSs : S.size ≤ 200000)
    (hres : (c < T.size ∧ xn = 1 ∧ xg = S.size ∧ R = L ∧ dr = 2) ∨ (c = T.size ∧ xn = 2 ∧ xg = T.size ∧ R = [t] ∧ dr = 1)) :
    Calls Tryd.prog 6 #[.slice ad L.length cap, .string t, .int .i64 (c : Int)] w fun e w' => e = .returned (.bool true) ∧ Gr w w' := by
  have e0 : ((L.length : Int) == 0) = false := by rw [beq_eq_false_iff_ne]; omega
  have e1 : decide ((30000 : Int) < (t.size : Int)) = false := decide_eq_false (by omega)
  have e2 : decide ((c : Int) < 1) = false := decide_eq_false (by omega)
  have e3 : decide ((T.size : Int) < (c : Int)) = false := decide_eq_false (by omega)
  have e4 : (c : Int) ≤ (T.size : Int) := by omega
  subst hC
  go_enter Tryd.func6, Tryd.ntmps6
  go_wp2_with fail
  refine (H0.out _ (by repeat (first | exact Gr.refl _ | refine Gr.alloc ?_ | refine Gr.drew ?_ | refine Gr.trans ?_ (by assumption)))).mono ?_
  rintro f0 w0 ⟨rfl, hw0⟩; obtain rfl := hw0.symm
  go_wp2_with fail
  refine (HN.out _ (by repeat (first | exact Gr.refl _ | refine Gr.alloc ?_ | refine Gr.drew ?_ | refine Gr.trans ?_ (by assumption)))).mono ?_
  rintro f1 w1 ⟨rfl, hg1⟩
  go_wp2_with fail
  refine (HB.out _ (by repeat (first | exact Gr.refl _ | refine Gr.alloc ?_ | refine Gr.drew ?_ | refine Gr.trans ?_ (by assumption)))).mono ?_
  rintro f2 w2 ⟨rfl, hg2⟩
  have G2 := Lib.hid (hg1.trans hg2)
  clear hg1 hg2 H0 HN HB
  rcases hres with ⟨hc, rfl, rfl, rfl, rfl⟩ | ⟨hc, rfl, rfl, rfl, rfl⟩
  · have e5 : decide ((c : Int) < (T.size : Int)) = true := decide_eq_true (by omega)

    go_upto_region 7 with fail
    go_region
    all_goals go_wp2_with fail
    all_goals refine (HL.out _ _ (G2.out.trans (by repeat (first | exact Gr.refl _ | refine Gr.alloc ?_ | refine Gr.drew ?_ | refine Gr.trans ?_ (by assumption)))) (by exact row_new2 _ ⟨1, S, 0⟩ ⟨2, T.extract 0 c, 0⟩ _ _ (by simp))).mono ?_
    all_goals rintro f3 w3 ⟨ab, cb, da, cd, rfl, hst, hia, hg3⟩
    all_goals obtain ⟨db, doff, rfl, hdb, hdc⟩ := hia 0 (by simp)
    all_goals simp only [Nat.add_zero, List.getElem_cons_zero] at hdc
    all_goals have G3 := Lib.hid (G2.out.trans ((by repeat (first | exact Gr.refl _ | refine Gr.alloc ?_ | refine Gr.drew ?_ | refine Gr.trans ?_ hg3)) : Gr w2 w3))
    all_goals clear hg3 hia
    all_goals have BX := Bx4.new w3 (.int .i64 1) (.int .i64 (S.size : Int)) (.slice ab R.length cb) (.slice (some ⟨db, doff, none⟩) 1 cd) 37 _ rfl
    all_goals obtain ⟨x0, x1, x2, x3, _⟩ := BX
    all_goals have hdc := (Gr.refl w3).alloc.keep (w1 := w3.alloc (.cells #[.int .i64 1, .int .i64 (S.size : Int), .slice ab R.length cb, .slice (some ⟨db, doff, none⟩) 1 cd] 37)) hdc
    all_goals go_wp2_with fail
    all_goals refine (HS.out _ _ _ (G3.out.trans (by repeat (first | exact Gr.refl _ | refine Gr.alloc ?_ | refine Gr.drew ?_ | refine Gr.trans ?_ (by assumption)))) (hst.gr (by repeat (first | exact Gr.refl _ | refine Gr.alloc ?_ | refine Gr.drew ?_ | refine Gr.trans ?_ (by assumption))))).mono ?_
    all_goals rintro f4 w4 ⟨rfl, hg4⟩
    all_goals have x3 := hg4.keep x3
    all_goals have hdc := hg4.keep hdc
    all_goals go_wp2_with fail
    all_goals refine (HA.out _ (G3.out.trans (by repeat (first | exact Gr.refl _ | refine Gr.alloc ?_ | refine Gr.drew ?_ | refine Gr.trans ?_ (by assumption))))).mono ?_
    all_goals rintro f9 w9 ⟨rfl, hg9⟩
    all_goals go_wp2
    all_goals go_ret
    all_goals exact ⟨rfl, G3.out.trans (by repeat (first | exact Gr.refl _ | refine Gr.alloc ?_ | refine Gr.drew ?_ | refine Gr.trans ?_ (by assumption)))⟩
  · have e5 : decide ((c : Int) < (T.size : Int)) = false := decide_eq_false (by omega)
    have hc' : ¬ c < T.size := by omega
    clear hc

    go_upto_region 7 with fail
    go_region
    all_goals go_wp2_with fail
    all_goals refine (HL.out _ _ (G2.out.trans (by repeat (first | exact Gr.refl _ | refine Gr.alloc ?_ | refine Gr.drew ?_ | refine Gr.trans ?_ (by assumption)))) (by exact row_new2 _ ⟨1, S, 0⟩ ⟨2, T.extract 0 c, 0⟩ _ _ (by simp))).mono ?_
    all_goals rintro f3 w3 ⟨ab, cb, da, cd, rfl, hst, hia, hg3⟩
    all_goals obtain ⟨db, doff, rfl, hdb, hdc⟩ := hia 0 (by simp)
    all_goals simp only [Nat.add_zero, List.getElem_cons_zero] at hdc
    all_goals have G3 := Lib.hid (G2.out.trans ((by repeat (first | exact Gr.refl _ | refine Gr.alloc ?_ | refine Gr.drew ?_ | refine Gr.trans ?_ hg3)) : Gr w2 w3))
    all_goals clear hg3 hia
    all_goals have BX := Bx4.new w3 (.int .i64 2) (.int .i64 (T.size : Int)) (.slice ab 1 cb) (.slice (some ⟨db, doff, none⟩) 1 cd) 37 _ rfl
    all_goals obtain ⟨x0, x1, x2, x3, _⟩ := BX
    all_goals have hdc := (Gr.refl w3).alloc.keep (w1 := w3.alloc (.cells #[.int .i64 2, .int .i64 (T.size : Int), .slice ab 1 cb, .slice (some ⟨db, doff, none⟩) 1 cd] 37)) hdc
    all_goals go_wp2_with fail
    all_goals refine (HS1.out _ _ _ _ (hst.gr (by repeat (first | exact Gr.refl _ | refine Gr.alloc ?_ | refine Gr.drew ?_ | refine Gr.trans ?_ (by assumption)))) (by simp)).mono ?_
    all_goals rintro f4 w4 ⟨rfl, hg4⟩
    all_goals have x3 := Gr.keep (w1 := w4) ((Gr.refl _).alloc.trans hg4) x3
    all_goals have hdc := Gr.keep (w1 := w4) ((Gr.refl _).alloc.trans hg4) hdc
    all_goals go_wp2_with fail
    all_goals refine (HA.out _ (G3.out.trans (by repeat (first | exact Gr.refl _ | refine Gr.alloc ?_ | refine Gr.drew ?_ | refine Gr.trans ?_ (by assumption))))).mono ?_
    all_goals rintro f9 w9 ⟨rfl, hg9⟩
    all_goals go_wp2
    all_goals go_ret
    all_goals exact ⟨rfl, G3.out.trans (by repeat (first | exact Gr.refl _ | refine Gr.alloc ?_ | refine Gr.drew ?_ | refine Gr.trans ?_ (by assumption)))⟩

set_option maxHeartbeats 4000000 in
set_option maxRecDepth 100000 in
theorem segmentTorn_walk (L : List ByteArray) (ad : Option Addr) (cap : Nat) (t : ByteArray) (c : Int) (w : World) (hT : Tab w) (hL : StrsAt w ad L) (hn : L.length ≤ 9223372036854775807) (hsz : ∀ s ∈ L, s.size ≤ 9223372036854775807) (ht : t.size ≤ 140737488355328) :
    Calls Tryd.prog 6 #[.slice ad L.length cap, .string t, .int .i64 c] w fun e w' => e = .returned (.bool true) ∧ Gr w w' := by
  have HA : Hid (∀ w', Gr w w' → Calls Tryd.prog 8 #[] w' fun e w2 => e = .returned (.bool true) ∧ Gr w' w2) := fun w' g => awake16_any w' (hT.gr g)
  have H0 : Hid (∀ w', Gr w w' → Calls Tryd.prog 7 #[.slice ad L.length cap] w' fun e w2 => e = .returned (.bool (Pk.small L)) ∧ w2 = w') := fun w' g => small_any L ad cap w' (hL.gr g) hn hsz
  rcases hsm : Pk.small L with _ | _
  · rw [hsm] at H0
    clear hT hL hsz hsm
    go_enter Tryd.func6, Tryd.ntmps6
    go_wp2_with fail
    refine (H0.out _ (by repeat (first | exact Gr.refl _ | refine Gr.alloc ?_ | refine Gr.drew ?_ | refine Gr.trans ?_ (by assumption)))).mono ?_
    rintro e0 w0 ⟨rfl, hw0⟩; obtain rfl := hw0.symm
    go_wp2_with fail
    refine (HA.out _ (by repeat (first | exact Gr.refl _ | refine Gr.alloc ?_ | refine Gr.drew ?_ | refine Gr.trans ?_ (by assumption)))).mono ?_
    rintro e9 w9 ⟨rfl, hg9⟩
    go_wp2
    go_ret
    exact ⟨rfl, (by repeat (first | exact Gr.refl _ | refine Gr.alloc ?_ | refine Gr.drew ?_ | refine Gr.trans ?_ (by assumption)))⟩
  · rw [hsm] at H0
    obtain ⟨l1, l2, l3⟩ := Sg.small_frs L hsm
    by_cases htb : t.size ≤ 30000
    · have e1 : decide ((30000 : Int) < (t.size : Int)) = false := decide_eq_false (by omega)
      by_cases hnl : L.length = 0
      · have e0 : ((L.length : Int) == 0) = true := by rw [beq_iff_eq]; omega
        clear hT hL hsz hsm l1 l3 hnl
        go_enter Tryd.func6, Tryd.ntmps6
        go_wp2_with fail
        refine (H0.out _ (by repeat (first | exact Gr.refl _ | refine Gr.alloc ?_ | refine Gr.drew ?_ | refine Gr.trans ?_ (by assumption)))).mono ?_
        rintro e0 w0 ⟨rfl, hw0⟩; obtain rfl := hw0.symm
        go_wp2_with fail
        refine (HA.out _ (by repeat (first | exact Gr.refl _ | refine Gr.alloc ?_ | refine Gr.drew ?_ | refine Gr.trans ?_ (by assumption)))).mono ?_
        rintro e9 w9 ⟨rfl, hg9⟩
        go_wp2
        go_ret
        exact ⟨rfl, (by repeat (first | exact Gr.refl _ | refine Gr.alloc ?_ | refine Gr.drew ?_ | refine Gr.trans ?_ (by assumption)))⟩
      · have e0 : ((L.length : Int) == 0) = false := by rw [beq_eq_false_iff_ne]; omega
        have HN : Hid (∀ w', Gr w w' → Calls Tryd.prog 11 #[.slice ad L.length cap] w' fun e w2 => e = .returned (.tuple #[.string ⟨(Sg.next L).1.toArray⟩, .int .i64 ((Sg.next L).2 : Nat)]) ∧ Gr w' w2) := fun w' g => next_any L ad cap w' (hT.gr g) (hL.gr g) (by omega) hsz
        have HB : Hid (∀ w', Gr w w' → Calls Tryd.prog 9 #[.string t] w' fun e w2 => e = .returned (.tuple #[.string ⟨(Sl.frame 3 t.data.toList).toArray⟩, .int .i64 0]) ∧ Gr w' w2) := fun w' g => by
          have := begin_any t w' (hT.gr g) (by omega)
          rw [Sg.seal3, if_pos htb] at this
          exact this
        have htl : t.data.toList.length = t.size := by simp
        obtain ⟨T, hTq⟩ : ∃ T : ByteArray, (⟨(Sl.frame 3 t.data.toList).toArray⟩ : ByteArray) = T := ⟨_, rfl⟩
        have hTd : T.data.toList = Sl.frame 3 t.data.toList := by rw [← hTq]
        have hTs : T.size = (Sl.frame 3 t.data.toList).length := by rw [← hTd]; simp
        have hTl : T.size ≤ 30020 := by
          have h1 := Sl.frame_len 3 t.data.toList
          have h2 := Pk.num_len t.data.toList.length
          omega
        rw [hTq] at HB
        rcases hfit : Sg.fit L with _ | _
        · rw [show Sg.next L = ([], 3) by unfold Sg.next; rw [hfit]; rfl] at HN
          clear hT hL hsz hsm l1 l3 hnl htl hTq hTd hTs hTl hfit
          go_enter Tryd.func6, Tryd.ntmps6
          go_wp2_with fail
          refine (H0.out _ (by repeat (first | exact Gr.refl _ | refine Gr.alloc ?_ | refine Gr.drew ?_ | refine Gr.trans ?_ (by assumption)))).mono ?_
          rintro e0 w0 ⟨rfl, hw0⟩; obtain rfl := hw0.symm
          go_wp2_with fail
          refine (HN.out _ (by repeat (first | exact Gr.refl _ | refine Gr.alloc ?_ | refine Gr.drew ?_ | refine Gr.trans ?_ (by assumption)))).mono ?_
          rintro e1 w1 ⟨rfl, hg1⟩
          go_wp2_with fail
          refine (HB.out _ (by repeat (first | exact Gr.refl _ | refine Gr.alloc ?_ | refine Gr.drew ?_ | refine Gr.trans ?_ (by assumption)))).mono ?_
          rintro e2 w2 ⟨rfl, hg2⟩
          go_wp2_with fail
          refine (HA.out _ (by repeat (first | exact Gr.refl _ | refine Gr.alloc ?_ | refine Gr.drew ?_ | refine Gr.trans ?_ (by assumption)))).mono ?_
          rintro e9 w9 ⟨rfl, hg9⟩
          go_wp2
          go_ret
          exact ⟨rfl, (by repeat (first | exact Gr.refl _ | refine Gr.alloc ?_ | refine Gr.drew ?_ | refine Gr.trans ?_ (by assumption)))⟩
        · rw [show Sg.next L = (Sg.frs L, 0) by unfold Sg.next; rw [hfit]; rfl] at HN
          obtain ⟨S, hSq⟩ : ∃ S : ByteArray, (⟨(Sg.frs L).toArray⟩ : ByteArray) = S := ⟨_, rfl⟩
          have hSd : S.data.toList = Sg.frs L := by rw [← hSq]
          have hSs : S.size = (Sg.frs L).length := by rw [← hSd]; simp
          have hN2 : Hid (∀ w', Gr w w' → Calls Tryd.prog 11 #[.slice ad L.length cap] w' fun e w2 => e = .returned (.tuple #[.string S, .int .i64 0]) ∧ Gr w' w2) := by
            rw [← hSq]; exact HN
          by_cases hc1 : c < 1
          · have e2 : decide (c < 1) = true := decide_eq_true hc1
            clear hT hL hsz hsm l1 l3 hnl htl hTq hTd hTs hTl hfit HN hSq hSd hSs hc1
            go_enter Tryd.func6, Tryd.ntmps6
            go_wp2_with fail
            refine (H0.out _ (by repeat (first | exact Gr.refl _ | refine Gr.alloc ?_ | refine Gr.drew ?_ | refine Gr.trans ?_ (by assumption)))).mono ?_
            rintro e0 w0 ⟨rfl, hw0⟩; obtain rfl := hw0.symm
            go_wp2_with fail
            refine (hN2.out _ (by repeat (first | exact Gr.refl _ | refine Gr.alloc ?_ | refine Gr.drew ?_ | refine Gr.trans ?_ (by assumption)))).mono ?_
            rintro e1 w1 ⟨rfl, hg1⟩
            go_wp2_with fail
            refine (HB.out _ (by repeat (first | exact Gr.refl _ | refine Gr.alloc ?_ | refine Gr.drew ?_ | refine Gr.trans ?_ (by assumption)))).mono ?_
            rintro e2 w2 ⟨rfl, hg2⟩
            go_wp2_with fail
            refine (HA.out _ (by repeat (first | exact Gr.refl _ | refine Gr.alloc ?_ | refine Gr.drew ?_ | refine Gr.trans ?_ (by assumption)))).mono ?_
            rintro e9 w9 ⟨rfl, hg9⟩
            go_wp2
            go_ret
            exact ⟨rfl, (by repeat (first | exact Gr.refl _ | refine Gr.alloc ?_ | refine Gr.drew ?_ | refine Gr.trans ?_ (by assumption)))⟩
          · have e2 : decide (c < 1) = false := decide_eq_false hc1
            by_cases hc2 : (T.size : Int) < c
            · have e3 : decide ((T.size : Int) < c) = true := decide_eq_true hc2
              clear hT hL hsz hsm l1 l3 hnl htl hTq hTd hTs hTl hfit HN hSq hSd hSs hc1 hc2
              go_enter Tryd.func6, Tryd.ntmps6
              go_wp2_with fail
              refine (H0.out _ (by repeat (first | exact Gr.refl _ | refine Gr.alloc ?_ | refine Gr.drew ?_ | refine Gr.trans ?_ (by assumption)))).mono ?_
              rintro e0 w0 ⟨rfl, hw0⟩; obtain rfl := hw0.symm
              go_wp2_with fail
              refine (hN2.out _ (by repeat (first | exact Gr.refl _ | refine Gr.alloc ?_ | refine Gr.drew ?_ | refine Gr.trans ?_ (by assumption)))).mono ?_
              rintro e1 w1 ⟨rfl, hg1⟩
              go_wp2_with fail
              refine (HB.out _ (by repeat (first | exact Gr.refl _ | refine Gr.alloc ?_ | refine Gr.drew ?_ | refine Gr.trans ?_ (by assumption)))).mono ?_
              rintro e2 w2 ⟨rfl, hg2⟩
              go_wp2_with fail
              refine (HA.out _ (by repeat (first | exact Gr.refl _ | refine Gr.alloc ?_ | refine Gr.drew ?_ | refine Gr.trans ?_ (by assumption)))).mono ?_
              rintro e9 w9 ⟨rfl, hg9⟩
              go_wp2
              go_ret
              exact ⟨rfl, (by repeat (first | exact Gr.refl _ | refine Gr.alloc ?_ | refine Gr.drew ?_ | refine Gr.trans ?_ (by assumption)))⟩
            · obtain ⟨k, rfl⟩ := Int.eq_ofNat_of_zero_le (show 0 ≤ c by omega)
              have hCd : (T.extract 0 k).data.toList = (Sl.frame 3 t.data.toList).take k := by rw [ext0_data, hTd]
              have hFr := Sg.frs_cat L hfit
              obtain ⟨b, l, hbl⟩ : ∃ b l, L.map (fun s => s.data.toList) = b :: l := by
                cases hm : L with
                | nil => rw [hm] at hnl; exact absurd rfl hnl
                | cons x r => exact ⟨_, _, List.map_cons⟩
              have hgl : ∀ x ∈ b :: l, x.length ≤ 30000 := by
                intro x hx
                rw [← hbl] at hx
                obtain ⟨s, hs, rfl⟩ := List.mem_map.1 hx
                have := List.all_eq_true.1 hfit s hs
                simpa using this
              rw [hbl] at hFr
              have hLb : (b :: l).map mkT = L := by rw [← hbl]; exact map_back L
              have key : ∀ (X : Sg.An) (R : List ByteArray) (dr : Int), Sg.look [⟨1, S, 0⟩, ⟨2, T.extract 0 k, 0⟩] = X → X.err = 0 → X.bodies.map mkT = R → X.drop = [dr] → Hid (∀ (w' : World) (b : Nat), Gr w w' → RowAt flf w' (some ⟨b, 0, none⟩) [⟨1, S, 0⟩, ⟨2, T.extract 0 k, 0⟩] → Calls Tryd.prog 14 #[.slice (some ⟨b, 0, none⟩) 2 2] w' fun e w2 => ∃ ab cb da cd, e = .returned (.tuple #[.agg #[.int .i64 X.num, .int .i64 (X.good : Int), .slice ab R.length cb, .slice da 1 cd], .int .i64 0]) ∧ StrsAt w2 ab R ∧ IntsAt w2 da [dr] ∧ Gr w' w2) := by
                intro X R dr hX h0 h1 h2 w' b' g hrow
                have := look_any [⟨1, S, 0⟩, ⟨2, T.extract 0 k, 0⟩] (some ⟨b', 0, none⟩) 2 w' (hT.gr g) ⟨hrow, by simp, by simp, by
                  intro f hf
                  simp at hf
                  rcases hf with rfl | rfl
                  · exact ⟨by simp, by simp, by show S.size ≤ _; omega⟩
                  · exact ⟨by simp, by simp, by show (T.extract 0 k).size ≤ _; simp; omega⟩⟩
                rw [hX] at this
                refine this.mono ?_
                rintro e w2 ⟨ab, cb, da, cd, rfl, q1, q2, q3⟩
                refine ⟨ab, cb, da, cd, ?_, by rw [← h1]; exact q1, by rw [← h2]; exact q2, q3⟩
                rw [h0, h2, ← h1, List.length_map]
                rfl
              have HS : Hid (∀ (w' : World) (a : Option Addr) (k : Nat), Gr w w' → StrsAt w' a L → Calls Tryd.prog 16 #[.slice a L.length k, .slice ad L.length cap] w' fun e w2 => e = .returned (.bool true) ∧ Gr w' w2) := fun w' a k g h => same16_any L a ad k cap w' hn h (hL.gr g)
              have HS1 : Hid (∀ (w' : World) (a : Option Addr) (k b : Nat), StrsAt w' a [t] → w'.cell? ⟨b, 0, none⟩ = some (.string t) → Calls Tryd.prog 16 #[.slice a 1 k, .slice (some ⟨b, 0, none⟩) 1 1] w' fun e w2 => e = .returned (.bool true) ∧ Gr w' w2) := fun w' a k b h h0 => same16_any [t] a (some ⟨b, 0, none⟩) k 1 w' (by simp) h (strsAt1 h0)
              have hSe : S = ⟨(Sl.cat 3 (b :: l)).toArray⟩ := arr_ext S _ (by rw [hSd, hFr])
              by_cases hk : k < T.size
              · have hlk : Sg.look [⟨1, S, 0⟩, ⟨2, T.extract 0 k, 0⟩] = ⟨1, S.size, b :: l, [2], 0⟩ := by
                  have := Sg.look_torn2 b l t.data.toList (hgl b (by simp)) (fun x hx => hgl x (by simp [hx])) (by omega) k (by omega) (by omega)
                  rw [← hSe, ← arr_ext _ _ hCd] at this
                  rw [this, hSs, hFr]
                exact torn_core L ad cap t S T (T.extract 0 k) k w 1 S.size L 2 HA H0 hN2 HB (key _ L 2 hlk rfl hLb rfl) HS HS1 htb hnl l2 rfl (by omega) (by omega) (by omega) (by omega) (Or.inl ⟨hk, rfl, rfl, rfl, rfl⟩)
              · have hke : k = T.size := by omega
                have hlk : Sg.look [⟨1, S, 0⟩, ⟨2, T.extract 0 k, 0⟩] = ⟨2, T.size, [t.data.toList], [1], 0⟩ := by
                  have hCe : T.extract 0 k = ⟨(Sl.frame 3 t.data.toList).toArray⟩ := arr_ext _ _ (by rw [hCd, hke, hTs, List.take_length])
                  rw [hCe, Sg.look_over S t.data.toList (by omega), hTs]
                exact torn_core L ad cap t S T (T.extract 0 k) k w 2 T.size [t] 1 HA H0 hN2 HB (key _ [t] 1 hlk rfl (by simp [mkT]) rfl) HS HS1 htb hnl l2 rfl (by omega) (by omega) (by omega) (by omega) (Or.inr ⟨hke, rfl, rfl, rfl, rfl⟩)
    · have e1 : decide ((30000 : Int) < (t.size : Int)) = true := decide_eq_true (by omega)
      clear hT hL hsz hsm l1 l3
      go_enter Tryd.func6, Tryd.ntmps6
      go_wp2_with fail
      refine (H0.out _ (by repeat (first | exact Gr.refl _ | refine Gr.alloc ?_ | refine Gr.drew ?_ | refine Gr.trans ?_ (by assumption)))).mono ?_
      rintro e0 w0 ⟨rfl, hw0⟩; obtain rfl := hw0.symm
      go_wp2_with fail
      refine (HA.out _ (by repeat (first | exact Gr.refl _ | refine Gr.alloc ?_ | refine Gr.drew ?_ | refine Gr.trans ?_ (by assumption)))).mono ?_
      rintro e9 w9 ⟨rfl, hg9⟩
      go_wp2
      go_ret
      exact ⟨rfl, (by repeat (first | exact Gr.refl _ | refine Gr.alloc ?_ | refine Gr.drew ?_ | refine Gr.trans ?_ (by assumption)))⟩

set_option maxRecDepth 100000 in
theorem segmentTorn_lifted (os : Os) (started : os.Started) (H : Type) (enc : TypeId × Value → H) :
    ReturnsInHanded {} Tryd.checked os 6 .any (fun w args => (Rows.segmentTornSpec.pre enc Tryd.prog Tryd.f6 [] false w args ∧ laidMetH Tryd.prog laidL w) ∧ sizedMet enc Tryd.prog Tryd.f6 (OpenSpec.ofChange Rows.segmentTornSpec) false w args)
      (Rows.segmentTornSpec.post enc Tryd.prog Tryd.f6 false true false false) := by
  refine returnsInHanded_of_change_and (C := Tryd.checked) (X := fun w _ => laidMetH Tryd.prog laidL w) (fun _ _ _ hh h => h.of_heap hh) own2 started (by kernel_rfl) Tryd.func6
    (ChangeSpec.witness_shaped (enc := enc) (C := Tryd.checked) (os := os) (X := fun w _ => laidMetH Tryd.prog laidL w) false (World.doorLaid Tryd.prog 400 os) #[.slice none 0 0, .string ⟨#[]⟩, .int .i64 0] 8 rfl (World.shaped_of_RefB (by kernel_rfl) (by kernel_rfl)) (by kernel_rfl) (by kernel_rfl) (by kernel_rfl) (door_met os _)) ?_
  intro W base args ds gs before hval0 hW _ hsz0 hL _
  have hval : ∀ (j : Nat) t v, Tryd.f6.params[j]? = some t → args[j]? = some v → Value.okWide Tryd.prog W .any base t v := hval0
  have hsz : (DataW.weightsEach Tryd.prog (Tryd.f6.params.toList ++ Rows.segmentTornSpec.plain.varTypes Tryd.prog) (ds ++ gs)).all (· ≤ reachBytes) = true := hsz0
  have hW' := hW
  obtain ⟨p, q, hA0, hV, rfl, hfz, hnd⟩ := hW
  have hA : DataW.TrodAll enc Tryd.prog W 0 (fun _ => true) true Tryd.f6.params.toList args.toList ds p := hA0
  rw [Tryd.params6] at hA hval hsz
  obtain ⟨v0, v1, v2, d0, d1, d2, p0, p1, p2, rfl, rfl, rfl, h0, h1, h2⟩ := trodAll_three hA
  obtain ⟨rfl, rfl⟩ := trodVars_none hV
  have k0 := h0
  have lt0 : ∀ x ∈ p0, x.block < W.heap.size := by obtain ⟨m, hm⟩ := k0; exact DataW.trod_lt m _ _ _ hm
  obtain ⟨ad0, cap0, L0, rfl, hL0, hn0, hz0, hcap0⟩ := open_strs (hval 0 22 v0 rfl rfl) h0
  obtain ⟨a1, rfl, rfl, rfl, wa1⟩ := open_string Tryd.underlying9 (hval 1 9 v1 rfl rfl) h1
  have hr1 : a1.size ≤ 140737488355328 := by
    have hr := sized_string hsz (j := 1) (t := 9) rfl rfl
    have : a1.data.toList.length = a1.size := by simp
    simp only [reachBytes] at hr
    omega
  obtain ⟨a2, rfl, rfl, rfl, wa2⟩ := open_int Tryd.underlying3 (hval 2 3 v2 rfl rfl) h2
  clear hA0 hval0
  have hT := tab_of_laid hL
  refine (segmentTorn_walk L0 ad0 cap0 a1 a2 W hT hL0 hn0 hz0 hr1).mono fun e W' ⟨he, hg⟩ => ?_
  subst he
  exact ⟨_, rfl, _, _, _, [], _, [], hW', trodAll_mk1 (shut_bool Tryd.underlying4 _), trodAll_mk3 (Below.trod laidOut2 (by kernel_rfl) (of_decide_eq_true (by kernel_rfl)) k0 hg.below lt0) (shut_string Tryd.underlying9 wa1) (shut_int Tryd.underlying3 wa2), rfl, hg.below.frame _, fun h => by cases h⟩

theorem segmentTorn_holds : Rows.SegmentTornSaid :=
  OpenClaim.holds_of_wide 6 Tryd.f6 rfl rfl rfl rfl rfl rfl rfl ⟨rfl, rfl, rfl, rfl, rfl⟩ rfl rfl rfl rfl rfl (by kernel_rfl) Tryd.func6 (by kernel_rfl)
    (of_decide_eq_true (by kernel_rfl)) (by unfold Func.isWrapper; first | (rw [if_pos (by decide +kernel)]; kernel_rfl) | (rw [if_neg (by decide +kernel)]; exact ⟨rfl, rfl⟩))
    (fun os started H enc _ => segmentTorn_lifted os started H enc)

theorem segmentTorn_card_holds : Rows.SegmentTornCardSaid :=
  Claim7.holds_tied_plain_at .later [] [.data] true (true, "bd5fecf5b305d5c900338b8eb8152168445dc55772493c5ce2fd1accb5df91ff") false
    segmentTorn_holds (fun _ h => by cases h) (by kernel_rfl) (fun _ h => by cases h) segmentTorn_row_tie rfl ⟨rfl, rfl⟩ (by kernel_rfl) rfl
    (fun f fn hf hfn => by
      obtain rfl : f = 6 := Option.some.inj ((show Tryd.prog.funcNamed "entente/ententelaw16.SegmentTorn" = some 6 by kernel_rfl).symm.trans hf) |>.symm
      obtain rfl : fn = Tryd.f6 := (Option.some.inj (Tryd.func6.symm.trans hfn)).symm
      exact ⟨by kernel_rfl, fun j t ht => by
        rw [Tryd.params6] at ht
        have hm : t ∈ [22, 9, 3] := by simpa using Array.mem_of_getElem? ht
        have hall : ([22, 9, 3].all fun u => !Tryd.prog.wantsStandIn u) = true := by kernel_rfl
        exact (show Tryd.prog.wantsStandIn t = false by simpa using List.all_eq_true.1 hall t hm)⟩)
    (by kernel_rfl)
end Go.Proofs.YtoeibjflaiiljaaDoor
