/- Parts of these proofs, laid together. -/
import Derived.Test.YtojmhhmpmpbpfaaGreatDoorGJ
import Derived.Test.YtojmhhmpmpbpfaaGreatDoorGL
import Derived.Test.YtojmhhmpmpbpfaaGreatDoorGK
import Derived.Test.YtojmhhmpmpbpfaaGreatDoorGM
namespace Go.Proofs.YtojmhhmpmpbpfaaGreatDoor
open Go.RowKit Go.Maps
open Dk (Fl Fo St Ok Up zf emp used cutF fallA kf)
variable {w w' : World} {b m : Nat} {A : Nat → Int} {s : St}

def okF (lo room : Int) (f : Fl) : Bool := decide (lo ≤ f.n ∧ f.n ≤ 1000000) && decide (1 ≤ (f.d.size : Int) ∧ (f.d.size : Int) ≤ room) && decide (0 ≤ f.y ∧ f.y ≤ (f.d.size : Int))
def mayA : Int → Int → List Fl → Bool
  | _, _, [] => true
  | lo, room, f :: r => okF lo room f && mayA (f.n + 1) (room - f.d.size) r
def mayL (room : Int) (l : List Fl) : Bool := decide (0 ≤ room ∧ room ≤ 200000) && decide (l.length ≤ 8) && mayA 0 room l
theorem mayA_drop {lo room : Int} {l : List Fl} {k : Nat} (h : k < l.length) : mayA lo room (l.drop k) = (okF lo room l[k] && mayA (l[k].n + 1) (room - l[k].d.size) (l.drop (k + 1))) := by
  rw [List.drop_eq_getElem_cons h]
  rfl
theorem mayA_in : ∀ (l : List Fl) {lo room : Int}, 0 ≤ lo → mayA lo room l = true → Up l ∧ (∀ f ∈ l, Fo f ∧ lo ≤ f.n) ∧ (l = [] ∨ (used l : Int) ≤ room)
  | [], _, _, _, _ => ⟨List.Pairwise.nil, fun f hf => by (cases hf), Or.inl rfl⟩
  | f :: r, lo, room, h0, h => by
    simp only [mayA, Bool.and_eq_true] at h
    obtain ⟨h1, h2⟩ := h
    simp only [okF, Bool.and_eq_true, decide_eq_true_eq] at h1
    obtain ⟨⟨⟨a1, a2⟩, a3, a4⟩, a5, a6⟩ := h1
    obtain ⟨q1, q2, q3⟩ := mayA_in r (by omega) h2
    have hu : used (f :: r) = f.d.size + used r := by simp [used]
    refine ⟨List.pairwise_cons.2 ⟨fun g hg => by have := (q2 g hg).2; omega, q1⟩, fun g hg => ?_, Or.inr ?_⟩
    · rcases List.mem_cons.1 hg with rfl | hg
      · exact ⟨⟨by omega, a2, by omega, a5, a6⟩, a1⟩
      · exact ⟨(q2 g hg).1, by have := (q2 g hg).2; omega⟩
    · rw [hu]
      rcases q3 with rfl | q3
      · simp [used]; omega
      · omega
theorem mayL_ok {room : Int} {l : List Fl} (h : mayL room l = true) : Ok (Dk.new room l) := by
  simp only [mayL, Bool.and_eq_true, decide_eq_true_eq] at h
  obtain ⟨⟨⟨h1, h2⟩, h3⟩, h4⟩ := h
  obtain ⟨q1, q2, q3⟩ := mayA_in l (Int.le_refl 0) h4
  refine ⟨q1, fun f hf => (q2 f hf).1, h3, ?_, h2, Int.le_refl _, by simp [Dk.new]⟩
  rcases q3 with rfl | q3
  · simpa [Dk.new, used] using h1
  · exact q3
theorem ok_take {room : Int} {l : List Fl} (h : Ok (Dk.new room l)) (k : Nat) : Ok (Dk.new room (l.take k)) := by
  have hs : (l.take k).Sublist l := List.take_sublist k l
  have hu : used (l.take k) ≤ used l := by
    have : used (l.take k) + used (l.drop k) = used l := by
      have e : used (l.take k ++ l.drop k) = used (l.take k) + used (l.drop k) := by
        unfold used; rw [List.map_append, List.sum_append]
      rw [← e, List.take_append_drop]
    omega
  have h1 := h.len
  have h2 := h.fits
  simp only [Dk.new] at h1 h2
  refine ⟨h.up.sublist hs, fun f hf => h.fo f (hs.subset hf), ?_, ?_, h.r1, h.l0, h.l1⟩
  · show (l.take k).length ≤ 8
    rw [List.length_take]; omega
  · show (used (l.take k) : Int) ≤ room
    omega
set_option maxHeartbeats 8000000 in
set_option maxRecDepth 100000 in
theorem mayBe_any (room : Int) (l : List Fl) (ad : Option Addr) (cap : Nat) (w : World) (hL : RowAt flf w ad l) (hn : l.length ≤ 9223372036854775807) (hd : ∀ f ∈ l, f.d.size ≤ 9223372036854775807) (hr1 : room ≤ 9223372036854775807) :
    Calls Tryz.prog 25 #[.int .i64 room, .slice ad l.length cap] w fun e w' => e = .returned (.bool (mayL room l)) ∧ Gr w w' := by
  have HW : Hid (∀ (n a c : Int) (w' : World), Calls Tryz.prog 52 #[.int .i64 n, .int .i64 a, .int .i64 c] w' fun e w2 => e = .returned (.bool (decide (a ≤ n ∧ n ≤ c))) ∧ w2 = w') := fun n a c w' => within_any n a c w'
  unfold mayL
  by_cases h1 : 0 ≤ room ∧ room ≤ 200000
  · rw [decide_eq_true h1]
    have d1 : decide (0 ≤ room ∧ room ≤ 200000) = true := decide_eq_true h1
    by_cases h2 : l.length ≤ 8
    · rw [decide_eq_true h2]
      have d2 : decide ((8 : Int) < (l.length : Int)) = false := decide_eq_false (by omega)
      simp only [Bool.true_and]
      have HL := Lib.hid hL
      clear hL hn
      go_enter Tryz.func25, Tryz.ntmps25
      go_wp2_with (go_at_call 52; refine (HW.out _ _ _ _).mono ?_; rintro e w' ⟨rfl, hw⟩; obtain rfl := hw.symm; clear hw; rw [d1])
      go_loopw [19, 5, 0] (fun i lo rm wr => ∃ (k : Nat) (a c : Int), k ≤ l.length ∧ i = .int .i64 (k : Int) ∧ lo = .int .i64 a ∧ rm = .int .i64 c ∧ 0 ≤ a ∧ a ≤ 1000001 ∧ 0 ≤ c ∧ c ≤ 200000 ∧ mayA 0 room l = mayA a c (l.drop k) ∧ Gr w wr) (fun i _ _ _ => l.length - (intOf i).toNat)
      case atStart => exact ⟨0, 0, room, Nat.zero_le _, rfl, rfl, rfl, by omega, by omega, by omega, by omega, rfl, Gr.refl w⟩
      case round =>
        obtain ⟨k, a, c, hk, rfl, rfl, rfl, ha0, ha1, hc0, hc1, hm, hg⟩ := hrel
        have HG := Lib.hid hg
        by_cases hlt : k < l.length
        · obtain ⟨x, off, hade, hxb, c0, c1, c2⟩ := fl_at HL.out k hlt
          have c0 := hg.keep c0
          have c1 := hg.keep c1
          have c2 := hg.keep c2
          have hxb2 : x < wr.heap.size := Nat.lt_of_lt_of_le hxb hg.size
          have hds := hd _ (List.getElem_mem hlt)
          rw [mayA_drop hlt] at hm
          have HM := Lib.hid hm
          subst hade
          clear hg hm hd
          generalize l[k] = f at *
          obtain ⟨fn, fd, fy⟩ := f
          simp only at *
          by_cases p1 : a ≤ fn ∧ fn ≤ 1000000
          · have q1 : decide (a ≤ fn ∧ fn ≤ 1000000) = true := decide_eq_true p1
            by_cases p2 : 1 ≤ (fd.size : Int) ∧ (fd.size : Int) ≤ c
            · have q2 : decide (1 ≤ (fd.size : Int) ∧ (fd.size : Int) ≤ c) = true := decide_eq_true p2
              by_cases p3 : 0 ≤ fy ∧ fy ≤ (fd.size : Int)
              · have q3 : decide (0 ≤ fy ∧ fy ≤ (fd.size : Int)) = true := decide_eq_true p3
                have HM2 : Hid (mayA 0 room l = mayA (fn + 1) (c - fd.size) (l.drop (k + 1))) := by
                  have := HM.out
                  simp only [okF, q1, q2, q3, Bool.true_and] at this
                  exact this
                clear HM
                go_wp2_with (go_at_call 52; refine (HW.out _ _ _ _).mono ?_; rintro e w' ⟨rfl, hw⟩; obtain rfl := hw.symm; clear hw; first | rw [q1] | rw [q2] | rw [q3])
                go_roundw
                case rel => exact ⟨k + 1, fn + 1, c - fd.size, by omega, by simp, rfl, rfl, by omega, by omega, by omega, by omega, HM2.out, HG.out.alloc⟩
                case measure => simp [intOf]; omega
              · have q3 : decide (0 ≤ fy ∧ fy ≤ (fd.size : Int)) = false := decide_eq_false p3
                have HM2 : Hid (mayA 0 room l = false) := by
                  have := HM.out
                  simp only [okF, q3, Bool.and_false, Bool.false_and] at this
                  exact this
                clear HM
                go_wp2_with (go_at_call 52; refine (HW.out _ _ _ _).mono ?_; rintro e w' ⟨rfl, hw⟩; obtain rfl := hw.symm; clear hw; first | rw [q1] | rw [q2] | rw [q3])
                go_ret
                exact ⟨by rw [HM2.out]; rfl, HG.out.alloc⟩
            · have q2 : decide (1 ≤ (fd.size : Int) ∧ (fd.size : Int) ≤ c) = false := decide_eq_false p2
              have HM2 : Hid (mayA 0 room l = false) := by
                have := HM.out
                simp only [okF, q2, Bool.and_false, Bool.false_and] at this
                exact this
              clear HM
              go_wp2_with (go_at_call 52; refine (HW.out _ _ _ _).mono ?_; rintro e w' ⟨rfl, hw⟩; obtain rfl := hw.symm; clear hw; first | rw [q1] | rw [q2])
              go_ret
              exact ⟨by rw [HM2.out]; rfl, HG.out.alloc⟩
          · have q1 : decide (a ≤ fn ∧ fn ≤ 1000000) = false := decide_eq_false p1
            have HM2 : Hid (mayA 0 room l = false) := by
              have := HM.out
              simp only [okF, q1, Bool.false_and] at this
              exact this
            clear HM
            go_wp2_with (go_at_call 52; refine (HW.out _ _ _ _).mono ?_; rintro e w' ⟨rfl, hw⟩; obtain rfl := hw.symm; clear hw; first | rw [q1])
            go_ret
            exact ⟨by rw [HM2.out]; rfl, HG.out.alloc⟩
        · obtain rfl : k = l.length := by omega
          rw [List.drop_length] at hm
          have HM2 : Hid (mayA 0 room l = true) := hm
          clear hm hg
          go_wp2
          go_ret
          exact ⟨by rw [HM2.out]; rfl, HG.out⟩
    · rw [decide_eq_false h2]
      have d2 : decide ((8 : Int) < (l.length : Int)) = true := decide_eq_true (by omega)
      simp only [Bool.and_false, Bool.false_and]
      clear hL hd
      go_enter Tryz.func25, Tryz.ntmps25
      go_wp2_with (go_at_call 52; refine (HW.out _ _ _ _).mono ?_; rintro e w' ⟨rfl, hw⟩; obtain rfl := hw.symm; clear hw; rw [d1])
      go_ret
      exact ⟨rfl, Gr.refl w⟩
  · rw [decide_eq_false h1]
    have d1 : decide (0 ≤ room ∧ room ≤ 200000) = false := decide_eq_false h1
    simp only [Bool.false_and]
    clear hL hd
    go_enter Tryz.func25, Tryz.ntmps25
    go_wp2_with (go_at_call 52; refine (HW.out _ _ _ _).mono ?_; rintro e w' ⟨rfl, hw⟩; obtain rfl := hw.symm; clear hw; rw [d1])
    go_ret
    exact ⟨rfl, Gr.refl w⟩
end Go.Proofs.YtojmhhmpmpbpfaaGreatDoor
namespace Go.Proofs.YtojmhhmpmpbpfaaGreatDoor
open Go.RowKit Go.Maps
open Dk (Fl Fo St Ok Up zf emp used cutF fallA kf)
variable {w w' : World} {b m : Nat} {A : Nat → Int} {s : St}

/- a disk that is new since a world -/
structure New (a w : World) (b m : Nat) (s : St) : Prop where
  at_ : ∃ A, DAt w b m A s
  b0 : a.heap.size ≤ b
  m0 : a.heap.size ≤ m
  gr : Gr a w
theorem td_gr {a w w' : World} (g : Gr a w) (t : Td w w' b m) (hb : a.heap.size ≤ b) (hm : a.heap.size ≤ m) : Gr a w' :=
  ⟨⟨t.os.trans g.below.os, t.tape.trans g.below.tape, t.output.trans g.below.output, Nat.le_trans g.below.size t.size, fun j hj => by
    rw [t.block j (Nat.lt_of_lt_of_le hj g.size) (by omega) (by omega)]
    exact g.below.block j hj⟩⟩
theorem New.far {a w w' : World} {s' : St} (h : New a w b m s) (r : FaR w w' b m s') : New a w' b m s' := ⟨r.1, h.b0, h.m0, td_gr h.gr r.2 h.b0 h.m0⟩
theorem New.up {a w w' : World} (h : New a w b m s) (g : Gr w w') : New a w' b m s := by
  obtain ⟨⟨A, h1⟩, h2, h3, h4⟩ := h
  exact ⟨⟨A, h1.gr g⟩, h2, h3, h4.trans g⟩
def LdR (a w : World) (room : Int) (l : List Fl) (e : Ending) : Prop :=
  if mayL room l then ∃ b m, e = .returned (.tuple #[ptr b, .int .i64 0]) ∧ New a w b m (Dk.new room l) else e = .returned (.tuple #[nilP, .int .i64 2]) ∧ Gr a w
theorem dsk_new (w : World) {room : Int} (h0 : 0 ≤ room) (h1 : room ≤ 200000) : DAt ((w.alloc (.map #[] 0)).alloc (.cells #[.map (some w.heap.size), .int .i64 room, .bool false, .int .i64 0, .int .i64 0, .int .i64 0, .int .i64 0, .int .i64 0, .int .i64 0, .int .i64 0, .int .i64 0, .int .i64 0] 65)) (w.heap.size + 1) w.heap.size k0 (Dk.new room []) := by
  have hs : (w.alloc (.map #[] 0)).heap.size = w.heap.size + 1 := by simp
  refine ⟨by simp, by simp [Dk.new], by simp [Dk.new], by simp [Dk.new], ?_, ?_, ?_, fun e => absurd rfl e, Ok.new h0 h1⟩
  · intro i hi
    match i, hi with
    | 0, _ => simp
    | 1, _ => simp
    | 2, _ => simp
    | 3, _ => simp
    | 4, _ => simp
    | 5, _ => simp
    | 6, _ => simp
    | 7, _ => simp
  · intro o ho
    rw [← hs]
    simp [go_sem]
  · refine ⟨.map [], ?_, Rep.nil⟩
    exact ((World.ownsMap_made w Tryz.prog 3 flE).alloc _)
set_option maxHeartbeats 8000000 in
set_option maxRecDepth 100000 in
theorem load_any (room : Int) (l : List Fl) (ad : Option Addr) (cap : Nat) (w : World) (hL : RowAt flf w ad l) (hn : l.length ≤ 9223372036854775807) (hd : ∀ f ∈ l, f.d.size ≤ 9223372036854775807) (hr1 : room ≤ 9223372036854775807) :
    Calls Tryz.prog 6 #[.int .i64 room, .slice ad l.length cap] w fun e w' => LdR w w' room l e := by
  have HM := Lib.hid (mayBe_any room l ad cap w hL hn hd hr1)
  unfold LdR
  cases hm : mayL room l with
  | false =>
    rw [hm] at HM
    clear hL hn hd
    go_enter Tryz.func6, Tryz.ntmps6
    go_wp2_with fail
    refine HM.out.mono ?_
    rintro e w1 ⟨rfl, hg⟩
    have HG := Lib.hid hg
    clear hg HM
    go_wp2
    go_ret2
    exact ⟨rfl, HG.out⟩
  | true =>
    rw [hm] at HM
    have HO := Lib.hid (mayL_ok hm)
    have HL := Lib.hid hL
    have hr0 := (mayL_ok hm).r0
    have hr2 := (mayL_ok hm).r1
    simp only [Dk.new] at hr0 hr2
    have hl8 := (mayL_ok hm).len
    simp only [Dk.new] at hl8
    have hmm := @run_makeMap Tryz.prog
    clear hL hn hd hm
    go_enter Tryz.func6, Tryz.ntmps6
    go_wp2_with fail
    refine HM.out.mono ?_
    rintro e w1 ⟨rfl, hg⟩
    have HG := Lib.hid hg
    clear hg HM
    go_wp2
    have HN := Lib.hid (dsk_new w1 hr0 hr2)
    obtain ⟨b, hb⟩ : ∃ b, b = w1.heap.size + 1 := ⟨_, rfl⟩
    rw [← hb] at HN ⊢
    obtain ⟨m, hm⟩ : ∃ m, m = w1.heap.size := ⟨_, rfl⟩
    rw [← hm] at HN ⊢
    have hgs := HG.out.size
    have hb0 : w.heap.size ≤ b := by omega
    have hm0 : w.heap.size ≤ m := by omega
    have HN0 : Hid (New w _ b m (Dk.new room [])) := ⟨⟨_, HN.out⟩, hb0, hm0, HG.out.alloc.alloc⟩
    clear hb hm HN
    go_loopw [19] (fun i wr => ∃ (k : Nat), k ≤ l.length ∧ i = .int .i64 (k : Int) ∧ New w wr b m (Dk.new room (l.take k))) (fun i _ => l.length - (intOf i).toNat)
    case atStart => exact ⟨0, Nat.zero_le _, rfl, by rw [List.take_zero]; exact HN0.out⟩
    case round =>
      obtain ⟨k, hk, rfl, hw⟩ := hrel
      have HW := Lib.hid hw
      clear hw HN0
      by_cases hlt : k < l.length
      · obtain ⟨x, off, hade, hxb, c0, c1, c2⟩ := fl_at HL.out k hlt
        have c0 := HW.out.gr.keep c0
        have c1 := HW.out.gr.keep c1
        have c2 := HW.out.gr.keep c2
        have hfo := HO.out.fo l[k] (List.getElem_mem hlt)
        have hn0 := hfo.n0
        have hn1 := hfo.n1
        have hsz : l[k].d.size ≤ 200000 := by
          have h1 := Dk.used_del HO.out.up (Dk.has_of (List.getElem_mem hlt))
          rw [Dk.get_of HO.out.up (List.getElem_mem hlt)] at h1
          have h2 := HO.out.fits; have := HO.out.r1
          simp only [Dk.new] at h1 h2
          omega
        have HOw : Hid (∀ w', Calls Tryz.prog 27 #[flV l[k]] w' fun e w2 => e = .returned (flV l[k]) ∧ Gr w' w2) := fun w' => own_any _ w' (by omega)
        have HPt : Hid (∀ w', New w w' b m (Dk.new room (l.take k)) → Calls Tryz.prog 26 #[ptr b, flV l[k]] w' fun e w2 => e = .returned (.tuple #[]) ∧ New w w2 b m (Dk.new room (l.take (k + 1)))) := by
          intro w' hw'
          obtain ⟨A', hA⟩ := hw'.at_
          have e : Dk.ins l[k] (l.take k) = l.take (k + 1) := by
            have hup : Up (l.take k ++ [l[k]]) := by rw [← List.take_succ_eq_append_getElem hlt]; exact (ok_take HO.out (k + 1)).up
            have h3 := (List.pairwise_append.1 hup).2.2
            have := Dk.ins_end (f := l[k]) (A := l.take k) (B := []) (fun y hy => h3 y hy _ (by simp)) (by simp)
            rw [List.append_nil] at this
            rw [this, List.take_succ_eq_append_getElem hlt]
          have hok := ok_take HO.out (k + 1)
          rw [← e] at hok
          refine (put_ins (f := l[k]) hA hfo.emp (by omega) (by omega) hok).mono ?_
          rintro e2 w2 ⟨rfl, q1, q2⟩
          refine ⟨rfl, ?_⟩
          rw [← e]
          exact hw'.far (FaR.mk q1 q2)
        subst hade
        clear hfo
        generalize l[k] = f at *
        obtain ⟨fn, fd, fy⟩ := f
        simp only at *
        go_wp2_with fail
        refine (HOw.out _).mono ?_
        rintro e w2 ⟨rfl, hg2⟩
        have HW2 := Lib.hid (HW.out.up ((Gr.refl wr).alloc.trans hg2))
        clear hg2 c0 c1 c2
        go_wp2_with fail
        refine (HPt.out _ HW2.out).mono ?_
        rintro e w3 ⟨rfl, hw3⟩
        have HW3 := Lib.hid hw3
        clear hw3
        go_wp2
        go_roundw
        case rel => exact ⟨k + 1, by omega, by simp, HW3.out⟩
        case measure => simp [intOf]; omega
      · obtain rfl : k = l.length := by omega
        have HF := HW.out
        rw [List.take_length] at HF
        have HF := Lib.hid HF
        go_wp2
        go_ret2
        exact ⟨b, rfl, m, HF.out⟩
theorem new_any (room : Int) (w : World) (hr1 : room ≤ 9223372036854775807) : Calls Tryz.prog 14 #[.int .i64 room] w fun e w' => LdR w w' room [] e := by
  have HL := Lib.hid (load_any room [] none 0 w RowAt.nil (by simp) (by simp) hr1)
  unfold LdR at HL ⊢
  cases hm : mayL room [] with
  | false =>
    rw [hm] at HL
    go_enter Tryz.func14, Tryz.ntmps14
    go_wp2_with fail
    refine HL.out.mono ?_
    rintro e w1 ⟨rfl, hg⟩
    have HG := Lib.hid hg
    clear hg HL
    go_wp2
    go_ret2
    exact ⟨rfl, HG.out⟩
  | true =>
    rw [hm] at HL
    go_enter Tryz.func14, Tryz.ntmps14
    go_wp2_with fail
    refine HL.out.mono ?_
    rintro e w1 ⟨b, m, rfl, hn⟩
    have HN := Lib.hid hn
    clear hn HL
    go_wp2
    go_ret2
    exact ⟨b, rfl, m, HN.out⟩
end Go.Proofs.YtojmhhmpmpbpfaaGreatDoor
namespace Go.Proofs.YtojmhhmpmpbpfaaGreatDoor
open Go.RowKit Go.Maps
open Dk (Fl Fo St Ok Up zf emp used cutF fallA kf)
variable {a w w' : World} {b m : Nat} {s : St}

theorem New.ok (h : New a w b m s) : Ok s := by
  obtain ⟨⟨A, h1⟩, _, _, _⟩ := h
  exact h1.ok
theorem n_append (h : New a w b m s) (n : Int) (d : ByteArray) : Calls Tryz.prog 74 #[ptr b, .int .i64 n, .string d] w fun e w' => e = .returned (.int .i64 (Dk.appE s n d)) ∧ New a w' b m (Dk.appS s n d) := by
  obtain ⟨A, h1⟩ := h.at_
  refine (append_any h1 n d).mono ?_
  rintro e w2 ⟨rfl, r⟩
  exact ⟨rfl, h.far r⟩
theorem n_sync (h : New a w b m s) {n : Int} (h0 : -9223372036854775808 ≤ n) (h1 : n ≤ 9223372036854775807) : Calls Tryz.prog 75 #[ptr b, .int .i64 n] w fun e w' => e = .returned (.int .i64 (Dk.stpE s 1 n 0)) ∧ New a w' b m (Dk.stpS s 1 n 0) := by
  obtain ⟨A, h2⟩ := h.at_
  refine (sync_any h2 h0 h1).mono ?_
  rintro e w2 ⟨rfl, r⟩
  exact ⟨rfl, h.far r⟩
theorem n_cut (h : New a w b m s) {n : Int} (h0 : -9223372036854775808 ≤ n) (h1 : n ≤ 9223372036854775807) (k : Int) : Calls Tryz.prog 83 #[ptr b, .int .i64 n, .int .i64 k] w fun e w' => e = .returned (.int .i64 (Dk.stpE s 2 n k)) ∧ New a w' b m (Dk.stpS s 2 n k) := by
  obtain ⟨A, h2⟩ := h.at_
  refine (cut_any h2 h0 h1 k).mono ?_
  rintro e w2 ⟨rfl, r⟩
  exact ⟨rfl, h.far r⟩
theorem n_remove (h : New a w b m s) {n : Int} (h0 : -9223372036854775808 ≤ n) (h1 : n ≤ 9223372036854775807) : Calls Tryz.prog 77 #[ptr b, .int .i64 n] w fun e w' => e = .returned (.int .i64 (Dk.stpE s 3 n 0)) ∧ New a w' b m (Dk.stpS s 3 n 0) := by
  obtain ⟨A, h2⟩ := h.at_
  refine (remove_any h2 h0 h1).mono ?_
  rintro e w2 ⟨rfl, r⟩
  exact ⟨rfl, h.far r⟩
theorem n_arm (h : New a w b m s) {n : Int} (h1 : n ≤ 9223372036854775807) {ad : Option Addr} {cap : Nat} {l : List Int} (hl : KAt w ad cap l) : Calls Tryz.prog 17 #[ptr b, .int .i64 n, .slice ad l.length cap] w fun e w' => e = .returned (.int .i64 (Dk.armE s n)) ∧ New a w' b m (Dk.armS s n l) := by
  obtain ⟨A, h2⟩ := h.at_
  refine (arm_any h2 h1 hl).mono ?_
  rintro e w2 ⟨rfl, r⟩
  exact ⟨rfl, h.far r⟩
theorem n_boot (h : New a w b m s) : Calls Tryz.prog 40 #[ptr b] w fun e w' => e = .returned (.int .i64 0) ∧ New a w' b m (Dk.booS s) := by
  obtain ⟨A, h2⟩ := h.at_
  refine (boot_any h2).mono ?_
  rintro e w2 ⟨rfl, r⟩
  exact ⟨rfl, h.far r⟩
theorem n_dead (h : New a w b m s) : Calls Tryz.prog 21 #[ptr b] w fun e w' => e = .returned (.bool s.dead) ∧ New a w' b m s := by
  obtain ⟨A, h2⟩ := h.at_
  refine (dead_any h2).mono ?_
  rintro e w2 ⟨rfl, rfl⟩
  exact ⟨rfl, h⟩
theorem n_read (h : New a w b m s) {n : Int} (h0 : -9223372036854775808 ≤ n) (h1 : n ≤ 9223372036854775807) : Calls Tryz.prog 53 #[ptr b, .int .i64 n] w fun e w' => e = .returned (.tuple #[.string (fndF s n).d, .int .i64 (fndE s n)]) ∧ New a w' b m s := by
  obtain ⟨A, h2⟩ := h.at_
  refine (read_any h2 h0 h1).mono ?_
  rintro e w2 ⟨rfl, g⟩
  exact ⟨rfl, h.up g⟩
theorem n_used (h : New a w b m s) : Calls Tryz.prog 95 #[ptr b] w fun e w' => e = .returned (.int .i64 (used s.L : Int)) ∧ New a w' b m s := by
  obtain ⟨A, h2⟩ := h.at_
  refine (used_any h2).mono ?_
  rintro e w2 ⟨rfl, g⟩
  exact ⟨rfl, h.up g⟩
/- a row of files that was answered: it lies in a block that is neither of the disk's -/
def Img (a w : World) (b m : Nat) (L : List Fl) (v : Value) : Prop := ∃ ad cap, v = .slice ad L.length cap ∧ RowAt flf w ad L ∧ (∀ p, ad = some p → a.heap.size ≤ p.block ∧ p.block ≠ b ∧ p.block ≠ m)
theorem n_image (h : New a w b m s) : Calls Tryz.prog 12 #[ptr b] w fun e w' => ∃ v, e = .returned v ∧ Img a w' b m s.L v ∧ New a w' b m s := by
  obtain ⟨A, h2⟩ := h.at_
  refine (image_any h2).mono ?_
  rintro e w2 ⟨ad, cap, rfl, hr, hb, g⟩
  refine ⟨_, rfl, ⟨ad, cap, rfl, hr, fun p e => ?_⟩, h.up g⟩
  have := hb p e
  have := h.gr.size
  have := h2.lt
  have := h2.fl.lt
  exact ⟨by omega, by omega, by omega⟩
theorem Img.td {L : List Fl} {v : Value} (h : Img a w b m L v) (t : Td w w' b m) : Img a w' b m L v := by
  obtain ⟨ad, cap, rfl, hr, hb⟩ := h
  exact ⟨ad, cap, rfl, t.row hr (fun p e => (hb p e).2), hb⟩
theorem n_files (h : New a w b m s) : Calls Tryz.prog 39 #[ptr b] w fun e w' => ∃ ad cap, e = .returned (.slice ad s.L.length cap) ∧ RowAt nf w' ad s.L ∧ (∀ p, ad = some p → a.heap.size ≤ p.block ∧ p.block ≠ b ∧ p.block ≠ m) ∧ New a w' b m s := by
  obtain ⟨A, h2⟩ := h.at_
  refine (files_any h2).mono ?_
  rintro e w2 ⟨v, rfl, hrow, hnil, g⟩
  rw [nms_flat] at hrow
  obtain ⟨ad, cap, rfl, _, _, hR, hbase, _⟩ := own_row hrow
  refine ⟨ad, cap, rfl, hR, fun p e => ?_, h.up g⟩
  have := hbase p e
  have := h.gr.size
  have := h2.lt
  have := h2.fl.lt
  exact ⟨by omega, by omega, by omega⟩

/- acts -/
structure Ac where
  k : Int
  n : Int
  z : Int
  d : ByteArray
  ka : Option Addr
  kc : Nat
  K : List Int
def acf (x : Ac) : List Value := [.int .i64 x.k, .int .i64 x.n, .int .i64 x.z, .string x.d, .slice x.ka x.K.length x.kc]
theorem acf_len (x : Ac) : (acf x).length = 5 := rfl
structure AcIn (w : World) (x : Ac) : Prop where
  k0 : -9223372036854775808 ≤ x.k
  k1 : x.k ≤ 9223372036854775807
  n0 : -9223372036854775808 ≤ x.n
  n1 : x.n ≤ 9223372036854775807
  z0 : -9223372036854775808 ≤ x.z
  z1 : x.z ≤ 9223372036854775807
  d1 : x.d.size ≤ 9223372036854775807
  K1 : x.K.length ≤ 9223372036854775807
  row : KAt w x.ka x.kc x.K
theorem AcIn.gr {x : Ac} (h : AcIn w x) (g : Gr w w') : AcIn w' x := ⟨h.k0, h.k1, h.n0, h.n1, h.z0, h.z1, h.d1, h.K1, h.row.gr g⟩
structure Acts (w : World) (ad : Option Addr) (T : List Ac) : Prop where
  row : RowAt acf w ad T
  len : T.length ≤ 9223372036854775807
  each : ∀ x ∈ T, AcIn w x
theorem Acts.gr {ad : Option Addr} {T : List Ac} (h : Acts w ad T) (g : Gr w w') : Acts w' ad T := ⟨h.row.gr g, h.len, fun x hx => (h.each x hx).gr g⟩
theorem ac_at {T : List Ac} {ad : Option Addr} (h : RowAt acf w ad T) (k : Nat) (hk : k < T.length) : ∃ x off, ad = some ⟨x, off, none⟩ ∧ x < w.heap.size ∧ w.cell? ⟨x, off + k * 5, none⟩ = some (.int .i64 T[k].k) ∧ w.cell? ⟨x, off + k * 5 + 1, none⟩ = some (.int .i64 T[k].n) ∧ w.cell? ⟨x, off + k * 5 + 2, none⟩ = some (.int .i64 T[k].z) ∧ w.cell? ⟨x, off + k * 5 + 3, none⟩ = some (.string T[k].d) ∧ w.cell? ⟨x, off + k * 5 + 4, none⟩ = some (.slice T[k].ka T[k].K.length T[k].kc) := by
  obtain ⟨x, off, e, h1, h2⟩ := h _ _ (flat_get acf_len T k hk 0 (by omega))
  obtain ⟨x1, off1, e1, _, h3⟩ := h _ _ (flat_get acf_len T k hk 1 (by omega))
  obtain ⟨x2, off2, e2, _, h4⟩ := h _ _ (flat_get acf_len T k hk 2 (by omega))
  obtain ⟨x3, off3, e3, _, h5⟩ := h _ _ (flat_get acf_len T k hk 3 (by omega))
  obtain ⟨x4, off4, e4, _, h6⟩ := h _ _ (flat_get acf_len T k hk 4 (by omega))
  subst e
  cases e1; cases e2; cases e3; cases e4
  rw [← Nat.add_assoc] at h3 h4 h5 h6
  exact ⟨_, _, rfl, h1, h2, h3, h4, h5, h6⟩
/- Few -/
def wgt (x : Ac) : Int := 50 + min (x.d.size : Int) 300000 + 10 * min (x.K.length : Int) 100000
def fewA : Int → List Ac → Bool
  | _, [] => true
  | n, x :: r => if 60000 < n + wgt x then false else fewA (n + wgt x) r
abbrev fewB (T : List Ac) : Bool := fewA 0 T
theorem wgt_pos (x : Ac) : 50 ≤ wgt x := by unfold wgt; omega
theorem fewA_in : ∀ (T : List Ac) {n : Int}, 0 ≤ n → fewA n T = true → ∀ x ∈ T, x.d.size ≤ 60000 ∧ x.K.length ≤ 6000
  | [], _, _, _ => fun x hx => by cases hx
  | y :: r, n, h0, h => by
    simp only [fewA] at h
    split at h
    · cases h
    · rename_i c
      have h5 := wgt_pos y
      have ih := fewA_in r (by omega) h
      intro x hx
      rcases List.mem_cons.1 hx with rfl | hx
      · unfold wgt at c; omega
      · exact ih x hx
theorem fewA_drop {n : Int} {T : List Ac} {k : Nat} (h : k < T.length) : fewA n (T.drop k) = if 60000 < n + wgt T[k] then false else fewA (n + wgt T[k]) (T.drop (k + 1)) := by
  rw [List.drop_eq_getElem_cons h]
  rfl
/- awake -/
abbrev s0 : St := ⟨[], 100, false, 0, []⟩
abbrev s1 : St := ⟨[⟨1, ⟨#[97, 98]⟩, 0⟩], 100, false, 0, []⟩
abbrev s2 : St := ⟨[⟨1, ⟨#[97, 98]⟩, 2⟩], 100, false, 0, []⟩
abbrev s3 : St := ⟨[⟨1, ⟨#[97, 98, 99, 100]⟩, 2⟩], 100, false, 0, []⟩
abbrev s4 : St := ⟨[⟨1, ⟨#[97, 98, 99]⟩, 3⟩], 100, true, 0, []⟩
abbrev s5 : St := ⟨[⟨1, ⟨#[97, 98, 99]⟩, 3⟩], 100, false, 0, []⟩
theorem aw1 : Dk.appE s0 1 ⟨#[97, 98]⟩ = 0 ∧ Dk.appS s0 1 ⟨#[97, 98]⟩ = s1 := ⟨by kernel_rfl, by kernel_rfl⟩
theorem aw2 : Dk.stpE s1 1 1 0 = 0 ∧ Dk.stpS s1 1 1 0 = s2 := ⟨by kernel_rfl, by kernel_rfl⟩
theorem aw3 : Dk.appE s2 1 ⟨#[99, 100]⟩ = 0 ∧ Dk.appS s2 1 ⟨#[99, 100]⟩ = s3 := ⟨by kernel_rfl, by kernel_rfl⟩
theorem aw4 : Dk.craE s3 = 0 ∧ Dk.craS s3 [1] = s4 := ⟨by kernel_rfl, by kernel_rfl⟩
theorem aw5 : Dk.appE s4 1 ⟨#[120]⟩ = 150 ∧ Dk.appS s4 1 ⟨#[120]⟩ = s4 := ⟨by kernel_rfl, by kernel_rfl⟩
theorem aw6 : Dk.booS s4 = s5 := rfl
theorem aw7 : fndF s5 1 = ⟨1, ⟨#[97, 98, 99]⟩, 3⟩ ∧ fndE s5 1 = 0 ∧ fndF s5 2 = zf 0 ∧ fndE s5 2 = 152 ∧ used s5.L = 3 := ⟨by kernel_rfl, by kernel_rfl, by kernel_rfl, by kernel_rfl, by kernel_rfl⟩
theorem may100 : mayL 100 [] = true := by kernel_rfl
end Go.Proofs.YtojmhhmpmpbpfaaGreatDoor
