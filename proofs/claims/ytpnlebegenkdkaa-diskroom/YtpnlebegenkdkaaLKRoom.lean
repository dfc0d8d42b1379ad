
/- For every room, every row of acts and every text: a disk behind the acts has no more bytes than room, at most eight files, none without a byte, their numbers rising; and what Append refuses changes nothing (DiskRoom, P15.3, P15.4); no condition. -/
import Derived.Test.YtpnlebegenkdkaaOpenK
import Derived.Test.YtpnlebegenkdkaaDkV
namespace Go.Proofs.Ytpnlebegenkdkaa
open Go.ChangeShapes Go.WideShapes Go.ChangeAt Go.RowKit
open Go.ChangeMaps (open_string shut_string)
open Dk (Fl Fo St Ok Up zf used)
set_option maxHeartbeats 8000000 in
set_option maxRecDepth 100000 in
theorem room_l1 (room : Int) (T : List Ac) (d : ByteArray) (ad : Option Addr) (cap : Nat) (w : World) (hT : Acts w ad T) (h1 : fewB T = false) :
    Calls Try.prog 8 #[.int .i64 room, .slice ad T.length cap, .string d] w fun e w' => e = .returned (.bool true) ∧ Gr w w' := by
  have HAw : Hid (∀ w', Calls Try.prog 10 #[] w' fun e w2 => e = .returned (.bool true) ∧ Gr w' w2) := fun w' => awake_any w'
  have HF := Lib.hid (few_any T ad cap w hT)
  rw [h1] at HF
  clear hT
  go_enter Try.func8, Try.ntmps8
  go_wp2_with fail
  refine HF.out.mono ?_
  rintro e w1 ⟨rfl, hg1⟩
  have G1 := Lib.hid hg1
  clear hg1 HF
  go_wp2_with fail
  refine (HAw.out _).mono ?_
  rintro e w2 ⟨rfl, hg2⟩
  have G2 := Lib.hid (G1.out.trans hg2)
  clear hg2 HAw
  go_wp2
  go_ret
  exact ⟨rfl, G2.out⟩
set_option maxHeartbeats 8000000 in
set_option maxRecDepth 100000 in
theorem room_l2 (room : Int) (T : List Ac) (d : ByteArray) (ad : Option Addr) (cap : Nat) (w : World) (hT : Acts w ad T) (h1 : fewB T = true) (h2 : 300000 < (d.size : Int)) :
    Calls Try.prog 8 #[.int .i64 room, .slice ad T.length cap, .string d] w fun e w' => e = .returned (.bool true) ∧ Gr w w' := by
  have HAw : Hid (∀ w', Calls Try.prog 10 #[] w' fun e w2 => e = .returned (.bool true) ∧ Gr w' w2) := fun w' => awake_any w'
  have HF := Lib.hid (few_any T ad cap w hT)
  rw [h1] at HF
  clear hT
  go_enter Try.func8, Try.ntmps8
  go_wp2_with fail
  refine HF.out.mono ?_
  rintro e w1 ⟨rfl, hg1⟩
  have G1 := Lib.hid hg1
  clear hg1 HF
  go_wp2_with fail
  refine (HAw.out _).mono ?_
  rintro e w2 ⟨rfl, hg2⟩
  have G2 := Lib.hid (G1.out.trans hg2)
  clear hg2 HAw
  go_wp2
  go_ret
  exact ⟨rfl, G2.out⟩
set_option maxHeartbeats 8000000 in
set_option maxRecDepth 100000 in
theorem room_l3 (room : Int) (T : List Ac) (d : ByteArray) (ad : Option Addr) (cap : Nat) (w : World) (hT : Acts w ad T) (h1 : fewB T = true) (h2 : ¬ 300000 < (d.size : Int)) (h3 : room < 0) :
    Calls Try.prog 8 #[.int .i64 room, .slice ad T.length cap, .string d] w fun e w' => e = .returned (.bool true) ∧ Gr w w' := by
  have HAw : Hid (∀ w', Calls Try.prog 10 #[] w' fun e w2 => e = .returned (.bool true) ∧ Gr w' w2) := fun w' => awake_any w'
  have HF := Lib.hid (few_any T ad cap w hT)
  rw [h1] at HF
  clear hT
  go_enter Try.func8, Try.ntmps8
  go_wp2_with fail
  refine HF.out.mono ?_
  rintro e w1 ⟨rfl, hg1⟩
  have G1 := Lib.hid hg1
  clear hg1 HF
  go_wp2_with fail
  refine (HAw.out _).mono ?_
  rintro e w2 ⟨rfl, hg2⟩
  have G2 := Lib.hid (G1.out.trans hg2)
  clear hg2 HAw
  go_wp2
  go_ret
  exact ⟨rfl, G2.out⟩
set_option maxHeartbeats 8000000 in
set_option maxRecDepth 100000 in
theorem room_l4 (room : Int) (T : List Ac) (d : ByteArray) (ad : Option Addr) (cap : Nat) (w : World) (hT : Acts w ad T) (h1 : fewB T = true) (h2 : ¬ 300000 < (d.size : Int)) (h3 : ¬ room < 0) (h4 : 200000 < room) :
    Calls Try.prog 8 #[.int .i64 room, .slice ad T.length cap, .string d] w fun e w' => e = .returned (.bool true) ∧ Gr w w' := by
  have HAw : Hid (∀ w', Calls Try.prog 10 #[] w' fun e w2 => e = .returned (.bool true) ∧ Gr w' w2) := fun w' => awake_any w'
  have HF := Lib.hid (few_any T ad cap w hT)
  rw [h1] at HF
  clear hT
  go_enter Try.func8, Try.ntmps8
  go_wp2_with fail
  refine HF.out.mono ?_
  rintro e w1 ⟨rfl, hg1⟩
  have G1 := Lib.hid hg1
  clear hg1 HF
  go_wp2_with fail
  refine (HAw.out _).mono ?_
  rintro e w2 ⟨rfl, hg2⟩
  have G2 := Lib.hid (G1.out.trans hg2)
  clear hg2 HAw
  go_wp2
  go_ret
  exact ⟨rfl, G2.out⟩
set_option maxHeartbeats 8000000 in
set_option maxRecDepth 100000 in
theorem room_main (room : Int) (T : List Ac) (d : ByteArray) (ad : Option Addr) (cap : Nat) (w : World) (hT : Acts w ad T) (h1 : fewB T = true) (h2 : ¬ 300000 < (d.size : Int)) (h3 : ¬ room < 0) (h4 : ¬ 200000 < room) :
    Calls Try.prog 8 #[.int .i64 room, .slice ad T.length cap, .string d] w fun e w' => e = .returned (.bool true) ∧ Gr w w' := by
  have HAw : Hid (∀ w', Calls Try.prog 10 #[] w' fun e w2 => e = .returned (.bool true) ∧ Gr w' w2) := fun w' => awake_any w'
  have HF := Lib.hid (few_any T ad cap w hT)
  rw [h1] at HF
  have HP : Hid (∀ w', Gr w w' → Calls Try.prog 29 #[.int .i64 room, .slice ad T.length cap] w' fun e w2 => ∃ b m, e = .returned (ptr b) ∧ New w' w2 b m (plL (Dk.new room []) T)) := fun w' g => played_any room T ad cap w' (hT.gr g) (by omega) (by omega)
  have HRm : Hid ((plL (Dk.new room []) T).room = room) := by show _ = _; rw [room_plL]; rfl
  clear hT
  generalize plL (Dk.new room []) T = s at *
  go_enter Try.func8, Try.ntmps8
  go_wp2_with fail
  refine HF.out.mono ?_
  rintro e w1 ⟨rfl, hg1⟩
  have G1 := Lib.hid hg1
  clear hg1 HF
  go_wp2_with fail
  refine (HP.out _ G1.out).mono ?_
  rintro e w2 ⟨b, m, rfl, hn⟩
  have HI := Lib.hid (n_image hn)
  have HO := Lib.hid hn.ok
  clear hn HP
  go_wp2_with fail
  refine HI.out.mono ?_
  rintro e w3 ⟨v, rfl, ⟨va, vc, rfl, hrow, _⟩, hn⟩
  have HN := Lib.hid hn
  have HRw := Lib.hid hrow
  have hl8 := HO.out.len
  clear hn hrow HI
  go_wp2
  go_loopw [10, 9] (fun i c wr => ∃ (k : Nat), k ≤ s.L.length ∧ i = .int .i64 (k : Int) ∧ c = .int .i64 (used (s.L.take k) : Int) ∧ Gr w3 wr) (fun i _ _ => s.L.length - (intOf i).toNat)
  case atStart => exact ⟨0, Nat.zero_le _, rfl, rfl, Gr.refl w3⟩
  case round =>
    obtain ⟨k, hk, rfl, rfl, hg⟩ := hrel
    have HG := Lib.hid hg
    by_cases hlt : k < s.L.length
    · obtain ⟨x, off, hade, hxb, c0, c1, c2⟩ := fl_at HRw.out k hlt
      have c0 := hg.keep c0
      have c1 := hg.keep c1
      have c2 := hg.keep c2
      have hfo := HO.out.fo s.L[k] (List.getElem_mem hlt)
      have hemp := emp_any s.L[k].d
      rw [decide_eq_false (by have := hfo.d1; omega)] at hemp
      have hy0 : decide (s.L[k].y < 0) = false := decide_eq_false (by have := hfo.y0; omega)
      have hy1 : decide ((s.L[k].d.size : Int) < s.L[k].y) = false := decide_eq_false (by have := hfo.y1; omega)
      have HU : Hid (used (s.L.take (k + 1)) = used (s.L.take k) + s.L[k].d.size) := by show _ = _; rw [List.take_succ_eq_append_getElem hlt, used_app]; simp [used]
      have hub : used (s.L.take k) + s.L[k].d.size ≤ 200000 := by
        rw [← HU.out]
        have h5 : used (s.L.take (k + 1)) + used (s.L.drop (k + 1)) = used s.L := by rw [← used_app, List.take_append_drop]
        have := HO.out.fits; have := HO.out.r1; omega
      rcases Nat.eq_zero_or_pos k with hk0 | hk0
      · subst hk0
        subst hade
        clear hg hfo
        generalize s.L[0] = f at *
        generalize used (s.L.take 0) = us at *
        obtain ⟨fn, fd, fy⟩ := f
        simp only at *
        go_upto_region 12 with fail
        go_quiet (fail)
        go_wp2
        go_roundw
        case rel => exact ⟨0 + 1, by omega, by simp, by rw [HU.out]; simp, HG.out.drewN _⟩
        case measure => simp [intOf]; omega
      · obtain ⟨j, rfl⟩ : ∃ j, k = j + 1 := ⟨k - 1, by omega⟩
        obtain ⟨x', off', hade', _, d0, _, _⟩ := fl_at HRw.out j (by omega)
        have d0 := hg.keep d0
        subst hade
        cases hade'
        have hup : s.L[j].n < s.L[j + 1].n := List.pairwise_iff_getElem.1 HO.out.up j (j + 1) (by omega) hlt (by omega)
        have hups : decide (s.L[j + 1].n ≤ s.L[j].n) = false := decide_eq_false (by omega)
        clear hg hfo
        generalize s.L[j].n = fm at *
        generalize s.L[j + 1] = f at *
        generalize used (s.L.take (j + 1)) = us at *
        obtain ⟨fn, fd, fy⟩ := f
        simp only at *
        have hj1 : decide ((0 : Int) < ((j + 1 : Nat) : Int)) = true := decide_eq_true (by omega)
        have hj2 : ((j + 1 : Nat) : Int) - 1 = (j : Int) := by omega
        go_upto_region 12 with fail
        go_quiet (fail)
        go_wp2
        go_roundw
        case rel => exact ⟨j + 1 + 1, by omega, by simp, by rw [HU.out]; simp, HG.out.drewN _⟩
        case measure => simp [intOf]; omega
    · obtain rfl : k = s.L.length := by omega
      rw [List.take_length]
      have hfit := HO.out.fits
      rw [HRm.out] at hfit
      have HNr := Lib.hid (HN.out.up hg)
      have HGr : Hid (Gr w wr) := (G1.out.trans HN.out.gr).trans hg
      have HUs := Lib.hid (n_used HNr.out)
      have hur : decide (room < (used s.L : Int)) = false := decide_eq_false (by omega)
      have hl8b : decide ((8 : Int) < (s.L.length : Int)) = false := decide_eq_false (by omega)
      have HApp : Hid (∀ w', New w1 w' b m s → Calls Try.prog 18 #[ptr b, .int .i64 0, .string d] w' fun e w2 => e = .returned (.int .i64 (Dk.appE s 0 d)) ∧ New w1 w2 b m (Dk.appS s 0 d)) := fun w' h => n_append h 0 d
      have HDd : Hid (∀ w', New w1 w' b m (Dk.appS s 0 d) → Calls Try.prog 25 #[ptr b] w' fun e w2 => e = .returned (.bool (Dk.appS s 0 d).dead) ∧ New w1 w2 b m (Dk.appS s 0 d)) := fun w' h => n_dead h
      have HU2 : Hid (∀ w', New w1 w' b m (Dk.appS s 0 d) → Calls Try.prog 26 #[ptr b] w' fun e w2 => e = .returned (.int .i64 (used (Dk.appS s 0 d).L : Int)) ∧ New w1 w2 b m (Dk.appS s 0 d)) := fun w' h => n_used h
      have HCs := Lib.hid (app_room HO.out (n := 0) (by omega) d)
      clear hg HG
      generalize Dk.appS s 0 d = sA at *
      generalize Dk.appE s 0 d = eA at *
      generalize hus : used s.L = us at *
      go_wp2_with fail
      refine HUs.out.mono ?_
      rintro e w4 ⟨rfl, hn4⟩
      have N4 := Lib.hid hn4
      clear hn4 HUs HNr HN
      go_wp2_with fail
      refine (HApp.out _ N4.out).mono ?_
      rintro e w5 ⟨rfl, hn5⟩
      have N5 := Lib.hid hn5
      clear hn5 HApp N4
      rcases HCs.out with ⟨he, hda⟩ | ⟨he, hu⟩ | ⟨he, hu⟩
      · subst he
        rw [hda] at HDd
        clear HCs
        go_wp2_with fail
        refine (HDd.out _ N5.out).mono ?_
        rintro e w6 ⟨rfl, hn6⟩
        have G6 := Lib.hid (G1.out.trans hn6.gr)
        clear hn6 HDd
        go_wp2_with fail
        refine (HAw.out _).mono ?_
        rintro e w7 ⟨rfl, hg7⟩
        have G7 := Lib.hid (G6.out.trans hg7)
        clear hg7
        go_wp2
        go_ret
        exact ⟨rfl, G7.out⟩
      · subst he
        rw [hu] at HU2
        clear HCs
        go_wp2_with fail
        refine (HU2.out _ N5.out).mono ?_
        rintro e w6 ⟨rfl, hn6⟩
        have N6 := Lib.hid hn6
        clear hn6 HU2
        go_wp2_with fail
        refine (HDd.out _ N6.out).mono ?_
        rintro e w7 ⟨rfl, hn7⟩
        have N7 := Lib.hid hn7
        have G7 := Lib.hid (G1.out.trans hn7.gr)
        clear hn7 HDd
        cases hdd : sA.dead with
        | true =>
          go_wp2_with fail
          refine (HAw.out _).mono ?_
          rintro e w8 ⟨rfl, hg8⟩
          have G8 := Lib.hid (G7.out.trans hg8)
          clear hg8
          go_wp2
          go_ret
          exact ⟨rfl, G8.out⟩
        | false =>
          go_wp2_with fail
          refine (HAw.out _).mono ?_
          rintro e w8 ⟨rfl, hg8⟩
          have G8 := Lib.hid (G7.out.trans hg8)
          clear hg8
          go_wp2
          go_ret
          exact ⟨rfl, G8.out⟩
      · subst he
        clear HCs
        go_wp2_with fail
        refine (HDd.out _ N5.out).mono ?_
        rintro e w6 ⟨rfl, hn6⟩
        have N6 := Lib.hid hn6
        have G6 := Lib.hid (G1.out.trans hn6.gr)
        clear hn6 HDd
        cases hdd : sA.dead with
        | true =>
          go_wp2_with fail
          refine (HAw.out _).mono ?_
          rintro e w7 ⟨rfl, hg7⟩
          have G7 := Lib.hid (G6.out.trans hg7)
          clear hg7
          go_wp2
          go_ret
          exact ⟨rfl, G7.out⟩
        | false =>
          go_wp2_with fail
          refine (HU2.out _ N6.out).mono ?_
          rintro e w7 ⟨rfl, hn7⟩
          have G7 := Lib.hid (G1.out.trans hn7.gr)
          clear hn7 HU2
          have hq : ((used sA.L : Int) == (us : Int) + (d.size : Int)) = true := by rw [hu]; simp
          generalize used sA.L = ua at *
          go_wp2_with fail
          refine (HAw.out _).mono ?_
          rintro e w8 ⟨rfl, hg8⟩
          have G8 := Lib.hid (G7.out.trans hg8)
          clear hg8
          go_wp2
          go_ret
          exact ⟨rfl, G8.out⟩
theorem diskRoom_walk (room : Int) (T : List Ac) (d : ByteArray) (ad : Option Addr) (cap : Nat) (w : World) (hT : Acts w ad T) :
    Calls Try.prog 8 #[.int .i64 room, .slice ad T.length cap, .string d] w fun e w' => e = .returned (.bool true) ∧ Gr w w' := by
  cases h1 : fewB T with
  | false => exact room_l1 room T d ad cap w hT h1
  | true =>
    by_cases h2 : 300000 < (d.size : Int)
    · exact room_l2 room T d ad cap w hT h1 h2
    · by_cases h3 : room < 0
      · exact room_l3 room T d ad cap w hT h1 h2 h3
      · by_cases h4 : 200000 < room
        · exact room_l4 room T d ad cap w hT h1 h2 h3 h4
        · exact room_main room T d ad cap w hT h1 h2 h3 h4

set_option maxRecDepth 100000 in
theorem diskRoom_lifted (os : Os) (started : os.Started) (H : Type) (enc : TypeId × Value → H) :
    ReturnsInHanded {} Try.checked os 8 .any (Rows.diskRoomSpec.pre6 enc Try.prog Try.f8 Rows.diskRoomRow.domain false) (Rows.diskRoomSpec.post enc Try.prog Try.f8 false true false false) := by
  refine returnsInHanded_of_change (C := Try.checked) own2 started (by kernel_rfl) Try.func8
    (ChangeSpec.witness6 (enc := enc) (C := Try.checked) false ⟨#[], #[.int .i64 0, .slice none 0 0, .string ⟨#[]⟩], []⟩ 8 (by kernel_rfl) (by kernel_rfl) (by kernel_rfl) (by kernel_rfl)) ?_
  intro W base args ds gs before hval0 hW hcnd _
  have hval : ∀ (j : Nat) t v, Try.f8.params[j]? = some t → args[j]? = some v → Value.okWide Try.prog W .any base t v := hval0
  have hW' := hW
  obtain ⟨p, q, hA0, hV, rfl, hfz, hnd⟩ := hW
  have hA : DataW.TrodAll enc Try.prog W 0 (fun _ => true) true Try.f8.params.toList args.toList ds p := hA0
  rw [Try.params8] at hA hval
  obtain ⟨v0, v1, v2, d0, d1, d2, p0, p1, p2, rfl, rfl, rfl, q0, q1, q2⟩ := trodAll_three hA
  obtain ⟨rfl, rfl⟩ := trodVars_none hV
  have k1 := q1
  have lt1 : ∀ x ∈ p1, x.block < W.heap.size := by obtain ⟨m, hm⟩ := k1; exact DataW.trod_lt m _ _ _ hm
  obtain ⟨a0, rfl, rfl, rfl, wa0⟩ := open_int Try.underlying3 (hval 0 3 v0 rfl rfl) q0
  have rg0 := rng_i64 wa0
  obtain ⟨ad1, cap1, T1, rfl, hT1⟩ := open_kacts (hval 1 22 v1 rfl rfl) q1
  obtain ⟨a2, rfl, rfl, rfl, wa2⟩ := open_string Try.underlying9 (hval 2 9 v2 rfl rfl) q2
  clear hA0 hval0
  refine (diskRoom_walk a0 T1 a2 ad1 cap1 W hT1).mono fun e W' ⟨he, hg⟩ => ?_
  subst he
  exact ⟨_, rfl, _, _, _, [], _, [], hW', trodAll_mk1 (shut_bool Try.underlying4 _), trodAll_mk3 (shut_int Try.underlying3 wa0) (Below.trod laidOut2 (by kernel_rfl) (of_decide_eq_true (by kernel_rfl)) k1 hg.below lt1) (shut_string Try.underlying9 wa2), rfl, hg.below.frame _, fun h => by cases h⟩

theorem diskRoom_holds : Rows.DiskRoomSaid :=
  OpenClaim.holds_of_wide 8 Try.f8 rfl rfl rfl rfl rfl rfl rfl ⟨rfl, rfl, rfl, rfl, rfl⟩ rfl rfl rfl rfl rfl (by kernel_rfl) Try.func8 (by kernel_rfl)
    (of_decide_eq_true (by kernel_rfl)) (by unfold Func.isWrapper; first | (rw [if_pos (by decide +kernel)]; kernel_rfl) | (rw [if_neg (by decide +kernel)]; exact ⟨rfl, rfl⟩))
    (fun os started H enc _ => diskRoom_lifted os started H enc)
end Go.Proofs.Ytpnlebegenkdkaa
