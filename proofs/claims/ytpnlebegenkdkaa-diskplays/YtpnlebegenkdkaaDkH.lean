
/- disk: Load, New. -/
import Derived.Test.YtpnlebegenkdkaaDkG
namespace Go.Proofs.Ytpnlebegenkdkaa
open Go.RowKit Go.Maps
open Dk (Fl Fo St Ok Up zf emp used cutF fallA kf)
variable {w w' : World} {b m : Nat} {A : Nat → Int} {s : St}

/- a disk that is new since a world -/
structure New (a w : World) (b m : Nat) (s : St) : Prop where
  at_ : ∃ A, DAt w b m A s
  b0 : a.heap.size ≤ b
  m0 : a.heap.size ≤ m
  gr : Gr a w
theorem td_gr {a w w' : World} (g : Gr a w) (t : Td w w' b m) (hb : a.heap.size ≤ b) (hm : a.heap.size ≤ m) : Gr a w' :=
  ⟨⟨t.os.trans g.below.os, t.tape.trans g.below.tape, t.output.trans g.below.output, Nat.le_trans g.below.size t.size, fun j hj => by
    rw [t.block j (Nat.lt_of_lt_of_le hj g.size) (by omega) (by omega)]
    exact g.below.block j hj⟩⟩
theorem New.far {a w w' : World} {s' : St} (h : New a w b m s) (r : FaR w w' b m s') : New a w' b m s' := ⟨r.1, h.b0, h.m0, td_gr h.gr r.2 h.b0 h.m0⟩
theorem New.up {a w w' : World} (h : New a w b m s) (g : Gr w w') : New a w' b m s := by
  obtain ⟨⟨A, h1⟩, h2, h3, h4⟩ := h
  exact ⟨⟨A, h1.gr g⟩, h2, h3, h4.trans g⟩
def LdR (a w : World) (room : Int) (l : List Fl) (e : Ending) : Prop :=
  if mayL room l then ∃ b m, e = .returned (.tuple #[ptr b, .int .i64 0]) ∧ New a w b m (Dk.new room l) else e = .returned (.tuple #[nilP, .int .i64 2]) ∧ Gr a w
theorem dsk_new (w : World) {room : Int} (h0 : 0 ≤ room) (h1 : room ≤ 200000) : DAt ((w.alloc (.map #[] 0)).alloc (.cells #[.map (some w.heap.size), .int .i64 room, .bool false, .int .i64 0, .int .i64 0, .int .i64 0, .int .i64 0, .int .i64 0, .int .i64 0, .int .i64 0, .int .i64 0, .int .i64 0] 48)) (w.heap.size + 1) w.heap.size k0 (Dk.new room []) := by
  have hs : (w.alloc (.map #[] 0)).heap.size = w.heap.size + 1 := by simp
  refine ⟨by simp, by simp [Dk.new], by simp [Dk.new], by simp [Dk.new], ?_, ?_, ?_, fun e => absurd rfl e, Ok.new h0 h1⟩
  · intro i hi
    match i, hi with
    | 0, _ => simp
    | 1, _ => simp
    | 2, _ => simp
    | 3, _ => simp
    | 4, _ => simp
    | 5, _ => simp
    | 6, _ => simp
    | 7, _ => simp
  · intro o ho
    rw [← hs]
    simp [go_sem]
  · refine ⟨.map [], ?_, Rep.nil⟩
    exact ((World.ownsMap_made w Try.prog 3 flE).alloc _)
set_option maxHeartbeats 8000000 in
set_option maxRecDepth 100000 in
theorem load_any (room : Int) (l : List Fl) (ad : Option Addr) (cap : Nat) (w : World) (hL : RowAt flf w ad l) (hn : l.length ≤ 9223372036854775807) (hd : ∀ f ∈ l, f.d.size ≤ 9223372036854775807) (hr1 : room ≤ 9223372036854775807) :
    Calls Try.prog 15 #[.int .i64 room, .slice ad l.length cap] w fun e w' => LdR w w' room l e := by
  have HM := Lib.hid (mayBe_any room l ad cap w hL hn hd hr1)
  unfold LdR
  cases hm : mayL room l with
  | false =>
    rw [hm] at HM
    clear hL hn hd
    go_enter Try.func15, Try.ntmps15
    go_wp2_with fail
    refine HM.out.mono ?_
    rintro e w1 ⟨rfl, hg⟩
    have HG := Lib.hid hg
    clear hg HM
    go_wp2
    go_ret2
    exact ⟨rfl, HG.out⟩
  | true =>
    rw [hm] at HM
    have HO := Lib.hid (mayL_ok hm)
    have HL := Lib.hid hL
    have hr0 := (mayL_ok hm).r0
    have hr2 := (mayL_ok hm).r1
    simp only [Dk.new] at hr0 hr2
    have hl8 := (mayL_ok hm).len
    simp only [Dk.new] at hl8
    have hmm := @run_makeMap Try.prog
    clear hL hn hd hm
    go_enter Try.func15, Try.ntmps15
    go_wp2_with fail
    refine HM.out.mono ?_
    rintro e w1 ⟨rfl, hg⟩
    have HG := Lib.hid hg
    clear hg HM
    go_wp2
    have HN := Lib.hid (dsk_new w1 hr0 hr2)
    obtain ⟨b, hb⟩ : ∃ b, b = w1.heap.size + 1 := ⟨_, rfl⟩
    rw [← hb] at HN ⊢
    obtain ⟨m, hm⟩ : ∃ m, m = w1.heap.size := ⟨_, rfl⟩
    rw [← hm] at HN ⊢
    have hgs := HG.out.size
    have hb0 : w.heap.size ≤ b := by omega
    have hm0 : w.heap.size ≤ m := by omega
    have HN0 : Hid (New w _ b m (Dk.new room [])) := ⟨⟨_, HN.out⟩, hb0, hm0, HG.out.alloc.alloc⟩
    clear hb hm HN
    go_loopw [19] (fun i wr => ∃ (k : Nat), k ≤ l.length ∧ i = .int .i64 (k : Int) ∧ New w wr b m (Dk.new room (l.take k))) (fun i _ => l.length - (intOf i).toNat)
    case atStart => exact ⟨0, Nat.zero_le _, rfl, by rw [List.take_zero]; exact HN0.out⟩
    case round =>
      obtain ⟨k, hk, rfl, hw⟩ := hrel
      have HW := Lib.hid hw
      clear hw HN0
      by_cases hlt : k < l.length
      · obtain ⟨x, off, hade, hxb, c0, c1, c2⟩ := fl_at HL.out k hlt
        have c0 := HW.out.gr.keep c0
        have c1 := HW.out.gr.keep c1
        have c2 := HW.out.gr.keep c2
        have hfo := HO.out.fo l[k] (List.getElem_mem hlt)
        have hn0 := hfo.n0
        have hn1 := hfo.n1
        have hsz : l[k].d.size ≤ 200000 := by
          have h1 := Dk.used_del HO.out.up (Dk.has_of (List.getElem_mem hlt))
          rw [Dk.get_of HO.out.up (List.getElem_mem hlt)] at h1
          have h2 := HO.out.fits; have := HO.out.r1
          simp only [Dk.new] at h1 h2
          omega
        have HOw : Hid (∀ w', Calls Try.prog 41 #[flV l[k]] w' fun e w2 => e = .returned (flV l[k]) ∧ Gr w' w2) := fun w' => own_any _ w' (by omega)
        have HPt : Hid (∀ w', New w w' b m (Dk.new room (l.take k)) → Calls Try.prog 40 #[ptr b, flV l[k]] w' fun e w2 => e = .returned (.tuple #[]) ∧ New w w2 b m (Dk.new room (l.take (k + 1)))) := by
          intro w' hw'
          obtain ⟨A', hA⟩ := hw'.at_
          have e : Dk.ins l[k] (l.take k) = l.take (k + 1) := by
            have hup : Up (l.take k ++ [l[k]]) := by rw [← List.take_succ_eq_append_getElem hlt]; exact (ok_take HO.out (k + 1)).up
            have h3 := (List.pairwise_append.1 hup).2.2
            have := Dk.ins_end (f := l[k]) (A := l.take k) (B := []) (fun y hy => h3 y hy _ (by simp)) (by simp)
            rw [List.append_nil] at this
            rw [this, List.take_succ_eq_append_getElem hlt]
          have hok := ok_take HO.out (k + 1)
          rw [← e] at hok
          refine (put_ins (f := l[k]) hA hfo.emp (by omega) (by omega) hok).mono ?_
          rintro e2 w2 ⟨rfl, q1, q2⟩
          refine ⟨rfl, ?_⟩
          rw [← e]
          exact hw'.far (FaR.mk q1 q2)
        subst hade
        clear hfo
        generalize l[k] = f at *
        obtain ⟨fn, fd, fy⟩ := f
        simp only at *
        go_wp2_with fail
        refine (HOw.out _).mono ?_
        rintro e w2 ⟨rfl, hg2⟩
        have HW2 := Lib.hid (HW.out.up ((Gr.refl wr).alloc.trans hg2))
        clear hg2 c0 c1 c2
        go_wp2_with fail
        refine (HPt.out _ HW2.out).mono ?_
        rintro e w3 ⟨rfl, hw3⟩
        have HW3 := Lib.hid hw3
        clear hw3
        go_wp2
        go_roundw
        case rel => exact ⟨k + 1, by omega, by simp, HW3.out⟩
        case measure => simp [intOf]; omega
      · obtain rfl : k = l.length := by omega
        have HF := HW.out
        rw [List.take_length] at HF
        have HF := Lib.hid HF
        go_wp2
        go_ret2
        exact ⟨b, rfl, m, HF.out⟩
theorem new_any (room : Int) (w : World) (hr1 : room ≤ 9223372036854775807) : Calls Try.prog 11 #[.int .i64 room] w fun e w' => LdR w w' room [] e := by
  have HL := Lib.hid (load_any room [] none 0 w RowAt.nil (by simp) (by simp) hr1)
  unfold LdR at HL ⊢
  cases hm : mayL room [] with
  | false =>
    rw [hm] at HL
    go_enter Try.func11, Try.ntmps11
    go_wp2_with fail
    refine HL.out.mono ?_
    rintro e w1 ⟨rfl, hg⟩
    have HG := Lib.hid hg
    clear hg HL
    go_wp2
    go_ret2
    exact ⟨rfl, HG.out⟩
  | true =>
    rw [hm] at HL
    go_enter Try.func11, Try.ntmps11
    go_wp2_with fail
    refine HL.out.mono ?_
    rintro e w1 ⟨b, m, rfl, hn⟩
    have HN := Lib.hid hn
    clear hn HL
    go_wp2
    go_ret2
    exact ⟨b, rfl, m, HN.out⟩
end Go.Proofs.Ytpnlebegenkdkaa
