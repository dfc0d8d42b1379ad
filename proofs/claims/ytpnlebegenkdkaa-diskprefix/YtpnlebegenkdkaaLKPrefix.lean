
/- For every room, every row of acts and every keep: behind a crash each file is a beginning of what it was, no shorter than what was synced of it; no other file is there, and all is synced (DiskPrefix, P15.6, P15.7); no condition. -/
import Derived.Test.YtpnlebegenkdkaaOpenK
import Derived.Test.YtpnlebegenkdkaaDkV
namespace Go.Proofs.Ytpnlebegenkdkaa
open Go.ChangeShapes Go.WideShapes Go.ChangeAt Go.RowKit
open Dk (Fl Fo St Ok Up zf used)
set_option maxHeartbeats 8000000 in
set_option maxRecDepth 100000 in
theorem prefix_l1 (room : Int) (T : List Ac) (l : List Int) (ad ak : Option Addr) (cap ck : Nat) (w : World) (hT : Acts w ad T) (h1 : fewB T = false) :
    Calls Try.prog 6 #[.int .i64 room, .slice ad T.length cap, .slice ak l.length ck] w fun e w' => e = .returned (.bool true) ∧ Gr w w' := by
  have HAw : Hid (∀ w', Calls Try.prog 10 #[] w' fun e w2 => e = .returned (.bool true) ∧ Gr w' w2) := fun w' => awake_any w'
  have HF := Lib.hid (few_any T ad cap w hT)
  rw [h1] at HF
  clear hT
  go_enter Try.func6, Try.ntmps6
  go_wp2_with fail
  refine HF.out.mono ?_
  rintro e w1 ⟨rfl, hg1⟩
  have G1 := Lib.hid hg1
  clear hg1 HF
  go_wp2_with fail
  refine (HAw.out _).mono ?_
  rintro e w2 ⟨rfl, hg2⟩
  have G2 := Lib.hid (G1.out.trans hg2)
  clear hg2 HAw
  go_wp2
  go_ret
  exact ⟨rfl, G2.out⟩
set_option maxHeartbeats 8000000 in
set_option maxRecDepth 100000 in
theorem prefix_l2 (room : Int) (T : List Ac) (l : List Int) (ad ak : Option Addr) (cap ck : Nat) (w : World) (hT : Acts w ad T) (h1 : fewB T = true) (h2 : 1000 < (l.length : Int)) :
    Calls Try.prog 6 #[.int .i64 room, .slice ad T.length cap, .slice ak l.length ck] w fun e w' => e = .returned (.bool true) ∧ Gr w w' := by
  have HAw : Hid (∀ w', Calls Try.prog 10 #[] w' fun e w2 => e = .returned (.bool true) ∧ Gr w' w2) := fun w' => awake_any w'
  have HF := Lib.hid (few_any T ad cap w hT)
  rw [h1] at HF
  clear hT
  go_enter Try.func6, Try.ntmps6
  go_wp2_with fail
  refine HF.out.mono ?_
  rintro e w1 ⟨rfl, hg1⟩
  have G1 := Lib.hid hg1
  clear hg1 HF
  go_wp2_with fail
  refine (HAw.out _).mono ?_
  rintro e w2 ⟨rfl, hg2⟩
  have G2 := Lib.hid (G1.out.trans hg2)
  clear hg2 HAw
  go_wp2
  go_ret
  exact ⟨rfl, G2.out⟩
set_option maxHeartbeats 8000000 in
set_option maxRecDepth 100000 in
theorem prefix_l3 (room : Int) (T : List Ac) (l : List Int) (ad ak : Option Addr) (cap ck : Nat) (w : World) (hT : Acts w ad T) (h1 : fewB T = true) (h2 : ¬ 1000 < (l.length : Int)) (h3 : room < 0) :
    Calls Try.prog 6 #[.int .i64 room, .slice ad T.length cap, .slice ak l.length ck] w fun e w' => e = .returned (.bool true) ∧ Gr w w' := by
  have HAw : Hid (∀ w', Calls Try.prog 10 #[] w' fun e w2 => e = .returned (.bool true) ∧ Gr w' w2) := fun w' => awake_any w'
  have HF := Lib.hid (few_any T ad cap w hT)
  rw [h1] at HF
  clear hT
  go_enter Try.func6, Try.ntmps6
  go_wp2_with fail
  refine HF.out.mono ?_
  rintro e w1 ⟨rfl, hg1⟩
  have G1 := Lib.hid hg1
  clear hg1 HF
  go_wp2_with fail
  refine (HAw.out _).mono ?_
  rintro e w2 ⟨rfl, hg2⟩
  have G2 := Lib.hid (G1.out.trans hg2)
  clear hg2 HAw
  go_wp2
  go_ret
  exact ⟨rfl, G2.out⟩
set_option maxHeartbeats 8000000 in
set_option maxRecDepth 100000 in
theorem prefix_l4 (room : Int) (T : List Ac) (l : List Int) (ad ak : Option Addr) (cap ck : Nat) (w : World) (hT : Acts w ad T) (h1 : fewB T = true) (h2 : ¬ 1000 < (l.length : Int)) (h3 : ¬ room < 0) (h4 : 200000 < room) :
    Calls Try.prog 6 #[.int .i64 room, .slice ad T.length cap, .slice ak l.length ck] w fun e w' => e = .returned (.bool true) ∧ Gr w w' := by
  have HAw : Hid (∀ w', Calls Try.prog 10 #[] w' fun e w2 => e = .returned (.bool true) ∧ Gr w' w2) := fun w' => awake_any w'
  have HF := Lib.hid (few_any T ad cap w hT)
  rw [h1] at HF
  clear hT
  go_enter Try.func6, Try.ntmps6
  go_wp2_with fail
  refine HF.out.mono ?_
  rintro e w1 ⟨rfl, hg1⟩
  have G1 := Lib.hid hg1
  clear hg1 HF
  go_wp2_with fail
  refine (HAw.out _).mono ?_
  rintro e w2 ⟨rfl, hg2⟩
  have G2 := Lib.hid (G1.out.trans hg2)
  clear hg2 HAw
  go_wp2
  go_ret
  exact ⟨rfl, G2.out⟩
/- behind a crash -/
structure Cr (L M : List Fl) : Prop where
  now : ∀ g ∈ M, Dk.has L g.n = true ∧ (Dk.get L g.n).y ≤ g.d.size ∧ g.d.size ≤ (Dk.get L g.n).d.size ∧ (Dk.get L g.n).d.extract 0 g.d.size = g.d ∧ g.y = g.d.size ∧ g.d.size ≠ 0
  was : ∀ f ∈ L, 0 < f.y → Dk.has M f.n = true
  l8 : L.length ≤ 8
  m8 : M.length ≤ 8
theorem cr_of {s : St} (h : Ok s) (keep : List Int) : Cr s.L (Dk.fall s keep).L :=
  ⟨fun _ hg => Dk.crash_now h.up h.fo hg, fun _ hf hy => Dk.crash_was h.fo hf hy, h.len, (h.fall keep).len⟩
set_option maxHeartbeats 8000000 in
set_option maxRecDepth 100000 in
theorem prefix_main (room : Int) (T : List Ac) (l : List Int) (ad ak : Option Addr) (cap ck : Nat) (w : World) (hT : Acts w ad T) (hK : KAt w ak ck l) (h1 : fewB T = true) (h2 : ¬ 1000 < (l.length : Int)) (h3 : ¬ room < 0) (h4 : ¬ 200000 < room) :
    Calls Try.prog 6 #[.int .i64 room, .slice ad T.length cap, .slice ak l.length ck] w fun e w' => e = .returned (.bool true) ∧ Gr w w' := by
  have HAw : Hid (∀ w', Calls Try.prog 10 #[] w' fun e w2 => e = .returned (.bool true) ∧ Gr w' w2) := fun w' => awake_any w'
  have HF := Lib.hid (few_any T ad cap w hT)
  rw [h1] at HF
  have HP : Hid (∀ w', Gr w w' → Calls Try.prog 29 #[.int .i64 room, .slice ad T.length cap] w' fun e w2 => ∃ b m, e = .returned (ptr b) ∧ New w' w2 b m (plL (Dk.new room []) T)) := fun w' g => played_any room T ad cap w' (hT.gr g) (by omega) (by omega)
  have HK := Lib.hid hK
  clear hT hK
  generalize plL (Dk.new room []) T = s0 at *
  go_enter Try.func6, Try.ntmps6
  go_wp2_with fail
  refine HF.out.mono ?_
  rintro e w1 ⟨rfl, hg1⟩
  have G1 := Lib.hid hg1
  clear hg1 HF
  go_wp2_with fail
  refine (HP.out _ G1.out).mono ?_
  rintro e w2 ⟨b, m, rfl, hn⟩
  have HB := Lib.hid (n_boot hn)
  clear hn HP
  go_wp2_with fail
  refine HB.out.mono ?_
  rintro e w3 ⟨rfl, hn⟩
  have hdead : (Dk.booS s0).dead = false := rfl
  generalize Dk.booS s0 = s at *
  have HI := Lib.hid (n_image hn)
  have HO := Lib.hid hn.ok
  clear hn HB
  go_wp2_with fail
  refine HI.out.mono ?_
  rintro e w4 ⟨v, rfl, hi, hn⟩
  have HIm := Lib.hid hi
  have N4 := Lib.hid hn
  obtain ⟨ua, uc, hue⟩ : ∃ ua uc, v = .slice ua s.L.length uc := by obtain ⟨ua, uc, h, _⟩ := hi; exact ⟨ua, uc, h⟩
  subst hue
  have HCr : Hid (Calls Try.prog 23 #[ptr b, .slice ak l.length ck] w4 fun e w2 => e = .returned (.int .i64 0) ∧ New w1 w2 b m (Dk.fall s l) ∧ Td w4 w2 b m) := by
    obtain ⟨A, h2⟩ := hn.at_
    refine (crash_any h2 (HK.out.gr (G1.out.trans hn.gr))).mono ?_
    rintro e w2 ⟨rfl, r⟩
    have e1 : Dk.craE s = 0 := by unfold Dk.craE; rw [hdead]; rfl
    have e2 : Dk.craS s l = Dk.fall s l := by unfold Dk.craS; rw [hdead]; rfl
    rw [e2] at r
    exact ⟨by rw [e1], hn.far r, r.2⟩
  clear hi hn HI
  go_wp2_with fail
  refine HCr.out.mono ?_
  rintro e w5 ⟨rfl, hn, ht⟩
  have HC := Lib.hid (cr_of HO.out l)
  have HIm5 := Lib.hid (HIm.out.td ht)
  have hdd : (Dk.fall s l).dead = true := rfl
  generalize Dk.fall s l = sf at *
  have HD : Hid (Calls Try.prog 25 #[ptr b] w5 fun e w' => e = .returned (.bool true) ∧ w' = w5) := by
    obtain ⟨A, h2⟩ := hn.at_
    have := dead_any h2
    rw [hdd] at this
    exact this
  have HI := Lib.hid (n_image hn)
  have G5 := Lib.hid (G1.out.trans hn.gr)
  have HI5 : Hid (Calls Try.prog 28 #[ptr b] w5 fun e w' => ImR w5 w' sf.L e) := by
    obtain ⟨A, h2⟩ := hn.at_
    exact image_any h2
  clear hn ht HCr HIm N4 HI
  go_wp2_with (go_at_call 25; refine HD.out.mono ?_; rintro e w' ⟨rfl, hw⟩; obtain rfl := hw.symm; clear hw)
  refine HI5.out.mono ?_
  rintro e w7 ⟨va, vc, rfl, hrow, _, hg7⟩
  obtain ⟨_, _, he5, hrow5, _⟩ := HIm5.out
  cases he5
  have HM := Lib.hid hrow
  have HL := Lib.hid (hrow5.gr hg7)
  have G7 := Lib.hid (G5.out.trans hg7)
  clear hrow hrow5 hg7 HI5 HIm5 G5 HD
  have hm8 := HC.out.m8
  have hl8 := HC.out.l8
  generalize hLs : s.L = L at *
  generalize hMs : sf.L = M at *
  clear HO hLs hMs
  go_wp2
  go_loopw [10] (fun i wr => ∃ (k : Nat), k ≤ M.length ∧ i = .int .i64 (k : Int) ∧ Gr w7 wr) (fun i _ => M.length - (intOf i).toNat)
  case atStart => exact ⟨0, Nat.zero_le _, rfl, Gr.refl w7⟩
  case round =>
    obtain ⟨k, hk, rfl, hg⟩ := hrel
    have HG := Lib.hid hg
    by_cases hlt : k < M.length
    · obtain ⟨x, off, hade, hxb, c0, c1, c2⟩ := fl_at HM.out k hlt
      have c0 := hg.keep c0
      have c1 := hg.keep c1
      have c2 := hg.keep c2
      have HFd := Lib.hid (find15_any L M[k].n ua uc wr (HL.out.gr hg) (by omega))
      obtain ⟨q1, q2, q3, q4, q5, q6⟩ := HC.out.now M[k] (List.getElem_mem hlt)
      rw [q1] at HFd
      subst hade
      clear hg
      generalize Dk.get L M[k].n = f at *
      generalize M[k] = g at *
      obtain ⟨fn, fd, fy⟩ := f
      obtain ⟨gn, gd, gy⟩ := g
      simp only at *
      subst q5
      have p1 : decide ((gd.size : Int) < fy) = false := decide_eq_false (by omega)
      have p2 : decide ((fd.size : Int) < (gd.size : Int)) = false := decide_eq_false (by omega)
      have p3 : ((gd.size : Int) == 0) = false := beq_eq_false_iff_ne.2 (by omega)
      clear q6 q1
      go_wp2_with fail
      refine HFd.out.mono ?_
      rintro e w8 ⟨rfl, hg8⟩
      have c0 := hg8.keep c0
      have c1 := hg8.keep c1
      have c2 := hg8.keep c2
      have d0 := ((Gr.refl w8).alloc (o := .cells #[.int .i64 fn, .string fd, .int .i64 fy] 40)).keep c0
      have d1 := ((Gr.refl w8).alloc (o := .cells #[.int .i64 fn, .string fd, .int .i64 fy] 40)).keep c1
      have d2 := ((Gr.refl w8).alloc (o := .cells #[.int .i64 fn, .string fd, .int .i64 fy] 40)).keep c2
      have G8 := Lib.hid (HG.out.trans (hg8.alloc (o := .cells #[.int .i64 fn, .string fd, .int .i64 fy] 40)))
      clear hg8 HFd
      go_upto_region 16 with fail
      go_quiet (fail)
      go_wp2
      go_roundw
      case rel => exact ⟨k + 1, by omega, by simp, G8.out.drewN _⟩
      case measure => simp [intOf]; omega
    · obtain rfl : k = M.length := by omega
      clear hg
      go_wp2
      go_loopw [14] (fun i w' => ∃ (k : Nat), k ≤ L.length ∧ i = .int .i64 (k : Int) ∧ Gr w7 w') (fun i _ => L.length - (intOf i).toNat)
      case atStart => exact ⟨0, Nat.zero_le _, rfl, HG.out⟩
      case round =>
        obtain ⟨j, hj, rfl, hg⟩ := hrel
        have HG2 := Lib.hid hg
        by_cases hlt : j < L.length
        · obtain ⟨x, off, hade, hxb, c0, c1, c2⟩ := fl_at HL.out j hlt
          have c0 := hg.keep c0
          have c2 := hg.keep c2
          have HFd := Lib.hid (find15_any M L[j].n va vc _ (HM.out.gr hg) (by omega))
          have hw := HC.out.was L[j] (List.getElem_mem hlt)
          subst hade
          clear hg c1
          generalize Dk.get M L[j].n = f at *
          obtain ⟨fn, fd, fy⟩ := f
          try simp only at *
          go_wp2_with fail
          refine HFd.out.mono ?_
          rintro e w8 ⟨rfl, hg8⟩
          have d2 := (hg8.alloc (o := .cells #[.int .i64 fn, .string fd, .int .i64 fy] 40)).keep c2
          have G8 := Lib.hid (HG2.out.trans (hg8.alloc (o := .cells #[.int .i64 fn, .string fd, .int .i64 fy] 40)))
          clear hg8 HFd c0 c2
          cases hh : Dk.has M L[j].n with
          | true =>
            clear hw
            go_wp2
            go_roundw
            case rel => exact ⟨j + 1, by omega, by simp, G8.out⟩
            case measure => simp [intOf]; omega
          | false =>
            have p1 : decide (0 < L[j].y) = false := decide_eq_false (fun c => by have := hw c; rw [hh] at this; cases this)
            clear hw
            go_wp2
            go_roundw
            case rel => exact ⟨j + 1, by omega, by simp, G8.out⟩
            case measure => simp [intOf]; omega
        · obtain rfl : j = L.length := by omega
          clear hg
          go_wp2_with fail
          refine (HAw.out _).mono ?_
          rintro e w9 ⟨rfl, hg9⟩
          have G9 := Lib.hid ((G7.out.trans HG2.out).trans hg9)
          clear hg9
          go_wp2
          go_ret
          exact ⟨rfl, G9.out⟩
theorem diskPrefix_walk (room : Int) (T : List Ac) (l : List Int) (ad ak : Option Addr) (cap ck : Nat) (w : World) (hT : Acts w ad T) (hK : KAt w ak ck l) :
    Calls Try.prog 6 #[.int .i64 room, .slice ad T.length cap, .slice ak l.length ck] w fun e w' => e = .returned (.bool true) ∧ Gr w w' := by
  cases h1 : fewB T with
  | false => exact prefix_l1 room T l ad ak cap ck w hT h1
  | true =>
    by_cases h2 : 1000 < (l.length : Int)
    · exact prefix_l2 room T l ad ak cap ck w hT h1 h2
    · by_cases h3 : room < 0
      · exact prefix_l3 room T l ad ak cap ck w hT h1 h2 h3
      · by_cases h4 : 200000 < room
        · exact prefix_l4 room T l ad ak cap ck w hT h1 h2 h3 h4
        · exact prefix_main room T l ad ak cap ck w hT hK h1 h2 h3 h4

set_option maxRecDepth 100000 in
theorem diskPrefix_lifted (os : Os) (started : os.Started) (H : Type) (enc : TypeId × Value → H) :
    ReturnsInHanded {} Try.checked os 6 .any (Rows.diskPrefixSpec.pre6 enc Try.prog Try.f6 Rows.diskPrefixRow.domain false) (Rows.diskPrefixSpec.post enc Try.prog Try.f6 false true false false) := by
  refine returnsInHanded_of_change (C := Try.checked) own2 started (by kernel_rfl) Try.func6
    (ChangeSpec.witness6 (enc := enc) (C := Try.checked) false ⟨#[], #[.int .i64 0, .slice none 0 0, .slice none 0 0], []⟩ 8 (by kernel_rfl) (by kernel_rfl) (by kernel_rfl) (by kernel_rfl)) ?_
  intro W base args ds gs before hval0 hW hcnd _
  have hval : ∀ (j : Nat) t v, Try.f6.params[j]? = some t → args[j]? = some v → Value.okWide Try.prog W .any base t v := hval0
  have hW' := hW
  obtain ⟨p, q, hA0, hV, rfl, hfz, hnd⟩ := hW
  have hA : DataW.TrodAll enc Try.prog W 0 (fun _ => true) true Try.f6.params.toList args.toList ds p := hA0
  rw [Try.params6] at hA hval
  obtain ⟨v0, v1, v2, d0, d1, d2, p0, p1, p2, rfl, rfl, rfl, q0, q1, q2⟩ := trodAll_three hA
  obtain ⟨rfl, rfl⟩ := trodVars_none hV
  have k1 := q1
  have lt1 : ∀ x ∈ p1, x.block < W.heap.size := by obtain ⟨m, hm⟩ := k1; exact DataW.trod_lt m _ _ _ hm
  have k2 := q2
  have lt2 : ∀ x ∈ p2, x.block < W.heap.size := by obtain ⟨m, hm⟩ := k2; exact DataW.trod_lt m _ _ _ hm
  obtain ⟨a0, rfl, rfl, rfl, wa0⟩ := open_int Try.underlying3 (hval 0 3 v0 rfl rfl) q0
  have rg0 := rng_i64 wa0
  obtain ⟨ad1, cap1, T1, rfl, hT1⟩ := open_kacts (hval 1 22 v1 rfl rfl) q1
  obtain ⟨ad2, cap2, l2, rfl, hK2, hl2⟩ := open_keep (hval 2 33 v2 rfl rfl) q2
  clear hA0 hval0
  refine (diskPrefix_walk a0 T1 l2 ad1 ad2 cap1 cap2 W hT1 hK2).mono fun e W' ⟨he, hg⟩ => ?_
  subst he
  exact ⟨_, rfl, _, _, _, [], _, [], hW', trodAll_mk1 (shut_bool Try.underlying4 _), trodAll_mk3 (shut_int Try.underlying3 wa0) (Below.trod laidOut2 (by kernel_rfl) (of_decide_eq_true (by kernel_rfl)) k1 hg.below lt1) (Below.trod laidOut2 (by kernel_rfl) (of_decide_eq_true (by kernel_rfl)) k2 hg.below lt2), rfl, hg.below.frame _, fun h => by cases h⟩

theorem diskPrefix_holds : Rows.DiskPrefixSaid :=
  OpenClaim.holds_of_wide 6 Try.f6 rfl rfl rfl rfl rfl rfl rfl ⟨rfl, rfl, rfl, rfl, rfl⟩ rfl rfl rfl rfl rfl (by kernel_rfl) Try.func6 (by kernel_rfl)
    (of_decide_eq_true (by kernel_rfl)) (by unfold Func.isWrapper; first | (rw [if_pos (by decide +kernel)]; kernel_rfl) | (rw [if_neg (by decide +kernel)]; exact ⟨rfl, rfl⟩))
    (fun os started H enc _ => diskPrefix_lifted os started H enc)
end Go.Proofs.Ytpnlebegenkdkaa
