/- Parts of these proofs, laid together. -/
import Derived.Test.YtojmhhmpmpbpfaaDoorGL
import Derived.Test.YtojmhhmpmpbpfaaDoorGM
import Derived.Test.YtojmhhmpmpbpfaaDoorGK
namespace Go.Proofs.YtojmhhmpmpbpfaaDoor
open Go.RowKit Go.Maps
open Dk (Fl Fo St Ok Up zf emp used cutF fallA kf)
variable {w w' : World} {b m : Nat} {A : Nat → Int} {s : St}

/- a disk that is new since a world -/
structure New (a w : World) (b m : Nat) (s : St) : Prop where
  at_ : ∃ A, DAt w b m A s
  b0 : a.heap.size ≤ b
  m0 : a.heap.size ≤ m
  gr : Gr a w
theorem td_gr {a w w' : World} (g : Gr a w) (t : Td w w' b m) (hb : a.heap.size ≤ b) (hm : a.heap.size ≤ m) : Gr a w' :=
  ⟨⟨t.os.trans g.below.os, t.tape.trans g.below.tape, t.output.trans g.below.output, Nat.le_trans g.below.size t.size, fun j hj => by
    rw [t.block j (Nat.lt_of_lt_of_le hj g.size) (by omega) (by omega)]
    exact g.below.block j hj⟩⟩
theorem New.far {a w w' : World} {s' : St} (h : New a w b m s) (r : FaR w w' b m s') : New a w' b m s' := ⟨r.1, h.b0, h.m0, td_gr h.gr r.2 h.b0 h.m0⟩
theorem New.up {a w w' : World} (h : New a w b m s) (g : Gr w w') : New a w' b m s := by
  obtain ⟨⟨A, h1⟩, h2, h3, h4⟩ := h
  exact ⟨⟨A, h1.gr g⟩, h2, h3, h4.trans g⟩
def LdR (a w : World) (room : Int) (l : List Fl) (e : Ending) : Prop :=
  if mayL room l then ∃ b m, e = .returned (.tuple #[ptr b, .int .i64 0]) ∧ New a w b m (Dk.new room l) else e = .returned (.tuple #[nilP, .int .i64 2]) ∧ Gr a w
theorem dsk_new (w : World) {room : Int} (h0 : 0 ≤ room) (h1 : room ≤ 200000) : DAt ((w.alloc (.map #[] 0)).alloc (.cells #[.map (some w.heap.size), .int .i64 room, .bool false, .int .i64 0, .int .i64 0, .int .i64 0, .int .i64 0, .int .i64 0, .int .i64 0, .int .i64 0, .int .i64 0, .int .i64 0] 39)) (w.heap.size + 1) w.heap.size k0 (Dk.new room []) := by
  have hs : (w.alloc (.map #[] 0)).heap.size = w.heap.size + 1 := by simp
  refine ⟨by simp, by simp [Dk.new], by simp [Dk.new], by simp [Dk.new], ?_, ?_, ?_, fun e => absurd rfl e, Ok.new h0 h1⟩
  · intro i hi
    match i, hi with
    | 0, _ => simp
    | 1, _ => simp
    | 2, _ => simp
    | 3, _ => simp
    | 4, _ => simp
    | 5, _ => simp
    | 6, _ => simp
    | 7, _ => simp
  · intro o ho
    rw [← hs]
    simp [go_sem]
  · refine ⟨.map [], ?_, Rep.nil⟩
    exact ((World.ownsMap_made w Tryd.prog 3 flE).alloc _)
set_option maxHeartbeats 8000000 in
set_option maxRecDepth 100000 in
theorem load_any (room : Int) (l : List Fl) (ad : Option Addr) (cap : Nat) (w : World) (hL : RowAt flf w ad l) (hn : l.length ≤ 9223372036854775807) (hd : ∀ f ∈ l, f.d.size ≤ 9223372036854775807) (hr1 : room ≤ 9223372036854775807) :
    Calls Tryd.prog 29 #[.int .i64 room, .slice ad l.length cap] w fun e w' => LdR w w' room l e := by
  have HM := Lib.hid (mayBe_any room l ad cap w hL hn hd hr1)
  unfold LdR
  cases hm : mayL room l with
  | false =>
    rw [hm] at HM
    clear hL hn hd
    go_enter Tryd.func29, Tryd.ntmps29
    go_wp2_with fail
    refine HM.out.mono ?_
    rintro e w1 ⟨rfl, hg⟩
    have HG := Lib.hid hg
    clear hg HM
    go_wp2
    go_ret2
    exact ⟨rfl, HG.out⟩
  | true =>
    rw [hm] at HM
    have HO := Lib.hid (mayL_ok hm)
    have HL := Lib.hid hL
    have hr0 := (mayL_ok hm).r0
    have hr2 := (mayL_ok hm).r1
    simp only [Dk.new] at hr0 hr2
    have hl8 := (mayL_ok hm).len
    simp only [Dk.new] at hl8
    have hmm := @run_makeMap Tryd.prog
    clear hL hn hd hm
    go_enter Tryd.func29, Tryd.ntmps29
    go_wp2_with fail
    refine HM.out.mono ?_
    rintro e w1 ⟨rfl, hg⟩
    have HG := Lib.hid hg
    clear hg HM
    go_wp2
    have HN := Lib.hid (dsk_new w1 hr0 hr2)
    obtain ⟨b, hb⟩ : ∃ b, b = w1.heap.size + 1 := ⟨_, rfl⟩
    rw [← hb] at HN ⊢
    obtain ⟨m, hm⟩ : ∃ m, m = w1.heap.size := ⟨_, rfl⟩
    rw [← hm] at HN ⊢
    have hgs := HG.out.size
    have hb0 : w.heap.size ≤ b := by omega
    have hm0 : w.heap.size ≤ m := by omega
    have HN0 : Hid (New w _ b m (Dk.new room [])) := ⟨⟨_, HN.out⟩, hb0, hm0, HG.out.alloc.alloc⟩
    clear hb hm HN
    go_loopw [19] (fun i wr => ∃ (k : Nat), k ≤ l.length ∧ i = .int .i64 (k : Int) ∧ New w wr b m (Dk.new room (l.take k))) (fun i _ => l.length - (intOf i).toNat)
    case atStart => exact ⟨0, Nat.zero_le _, rfl, by rw [List.take_zero]; exact HN0.out⟩
    case round =>
      obtain ⟨k, hk, rfl, hw⟩ := hrel
      have HW := Lib.hid hw
      clear hw HN0
      by_cases hlt : k < l.length
      · obtain ⟨x, off, hade, hxb, c0, c1, c2⟩ := fl_at HL.out k hlt
        have c0 := HW.out.gr.keep c0
        have c1 := HW.out.gr.keep c1
        have c2 := HW.out.gr.keep c2
        have hfo := HO.out.fo l[k] (List.getElem_mem hlt)
        have hn0 := hfo.n0
        have hn1 := hfo.n1
        have hsz : l[k].d.size ≤ 200000 := by
          have h1 := Dk.used_del HO.out.up (Dk.has_of (List.getElem_mem hlt))
          rw [Dk.get_of HO.out.up (List.getElem_mem hlt)] at h1
          have h2 := HO.out.fits; have := HO.out.r1
          simp only [Dk.new] at h1 h2
          omega
        have HOw : Hid (∀ w', Calls Tryd.prog 31 #[flV l[k]] w' fun e w2 => e = .returned (flV l[k]) ∧ Gr w' w2) := fun w' => own_any _ w' (by omega)
        have HPt : Hid (∀ w', New w w' b m (Dk.new room (l.take k)) → Calls Tryd.prog 49 #[ptr b, flV l[k]] w' fun e w2 => e = .returned (.tuple #[]) ∧ New w w2 b m (Dk.new room (l.take (k + 1)))) := by
          intro w' hw'
          obtain ⟨A', hA⟩ := hw'.at_
          have e : Dk.ins l[k] (l.take k) = l.take (k + 1) := by
            have hup : Up (l.take k ++ [l[k]]) := by rw [← List.take_succ_eq_append_getElem hlt]; exact (ok_take HO.out (k + 1)).up
            have h3 := (List.pairwise_append.1 hup).2.2
            have := Dk.ins_end (f := l[k]) (A := l.take k) (B := []) (fun y hy => h3 y hy _ (by simp)) (by simp)
            rw [List.append_nil] at this
            rw [this, List.take_succ_eq_append_getElem hlt]
          have hok := ok_take HO.out (k + 1)
          rw [← e] at hok
          refine (put_ins (f := l[k]) hA hfo.emp (by omega) (by omega) hok).mono ?_
          rintro e2 w2 ⟨rfl, q1, q2⟩
          refine ⟨rfl, ?_⟩
          rw [← e]
          exact hw'.far (FaR.mk q1 q2)
        subst hade
        clear hfo
        generalize l[k] = f at *
        obtain ⟨fn, fd, fy⟩ := f
        simp only at *
        go_wp2_with fail
        refine (HOw.out _).mono ?_
        rintro e w2 ⟨rfl, hg2⟩
        have HW2 := Lib.hid (HW.out.up ((Gr.refl wr).alloc.trans hg2))
        clear hg2 c0 c1 c2
        go_wp2_with fail
        refine (HPt.out _ HW2.out).mono ?_
        rintro e w3 ⟨rfl, hw3⟩
        have HW3 := Lib.hid hw3
        clear hw3
        go_wp2
        go_roundw
        case rel => exact ⟨k + 1, by omega, by simp, HW3.out⟩
        case measure => simp [intOf]; omega
      · obtain rfl : k = l.length := by omega
        have HF := HW.out
        rw [List.take_length] at HF
        have HF := Lib.hid HF
        go_wp2
        go_ret2
        exact ⟨b, rfl, m, HF.out⟩
theorem new_any (room : Int) (w : World) (hr1 : room ≤ 9223372036854775807) : Calls Tryd.prog 11 #[.int .i64 room] w fun e w' => LdR w w' room [] e := by
  have HL := Lib.hid (load_any room [] none 0 w RowAt.nil (by simp) (by simp) hr1)
  unfold LdR at HL ⊢
  cases hm : mayL room [] with
  | false =>
    rw [hm] at HL
    go_enter Tryd.func11, Tryd.ntmps11
    go_wp2_with fail
    refine HL.out.mono ?_
    rintro e w1 ⟨rfl, hg⟩
    have HG := Lib.hid hg
    clear hg HL
    go_wp2
    go_ret2
    exact ⟨rfl, HG.out⟩
  | true =>
    rw [hm] at HL
    go_enter Tryd.func11, Tryd.ntmps11
    go_wp2_with fail
    refine HL.out.mono ?_
    rintro e w1 ⟨b, m, rfl, hn⟩
    have HN := Lib.hid hn
    clear hn HL
    go_wp2
    go_ret2
    exact ⟨b, rfl, m, HN.out⟩
end Go.Proofs.YtojmhhmpmpbpfaaDoor
namespace Go.Proofs.YtojmhhmpmpbpfaaDoor
open Go.RowKit Go.Maps
open Dk (Fl Fo St Ok Up zf emp used cutF fallA kf)
variable {a w w' : World} {b m : Nat} {s : St}

theorem New.ok (h : New a w b m s) : Ok s := by
  obtain ⟨⟨A, h1⟩, _, _, _⟩ := h
  exact h1.ok
theorem n_append (h : New a w b m s) (n : Int) (d : ByteArray) : Calls Tryd.prog 35 #[ptr b, .int .i64 n, .string d] w fun e w' => e = .returned (.int .i64 (Dk.appE s n d)) ∧ New a w' b m (Dk.appS s n d) := by
  obtain ⟨A, h1⟩ := h.at_
  refine (append_any h1 n d).mono ?_
  rintro e w2 ⟨rfl, r⟩
  exact ⟨rfl, h.far r⟩
theorem n_sync (h : New a w b m s) {n : Int} (h0 : -9223372036854775808 ≤ n) (h1 : n ≤ 9223372036854775807) : Calls Tryd.prog 36 #[ptr b, .int .i64 n] w fun e w' => e = .returned (.int .i64 (Dk.stpE s 1 n 0)) ∧ New a w' b m (Dk.stpS s 1 n 0) := by
  obtain ⟨A, h2⟩ := h.at_
  refine (sync_any h2 h0 h1).mono ?_
  rintro e w2 ⟨rfl, r⟩
  exact ⟨rfl, h.far r⟩
theorem n_cut (h : New a w b m s) {n : Int} (h0 : -9223372036854775808 ≤ n) (h1 : n ≤ 9223372036854775807) (k : Int) : Calls Tryd.prog 67 #[ptr b, .int .i64 n, .int .i64 k] w fun e w' => e = .returned (.int .i64 (Dk.stpE s 2 n k)) ∧ New a w' b m (Dk.stpS s 2 n k) := by
  obtain ⟨A, h2⟩ := h.at_
  refine (cut_any h2 h0 h1 k).mono ?_
  rintro e w2 ⟨rfl, r⟩
  exact ⟨rfl, h.far r⟩
theorem n_remove (h : New a w b m s) {n : Int} (h0 : -9223372036854775808 ≤ n) (h1 : n ≤ 9223372036854775807) : Calls Tryd.prog 38 #[ptr b, .int .i64 n] w fun e w' => e = .returned (.int .i64 (Dk.stpE s 3 n 0)) ∧ New a w' b m (Dk.stpS s 3 n 0) := by
  obtain ⟨A, h2⟩ := h.at_
  refine (remove_any h2 h0 h1).mono ?_
  rintro e w2 ⟨rfl, r⟩
  exact ⟨rfl, h.far r⟩
theorem n_read (h : New a w b m s) {n : Int} (h0 : -9223372036854775808 ≤ n) (h1 : n ≤ 9223372036854775807) : Calls Tryd.prog 39 #[ptr b, .int .i64 n] w fun e w' => e = .returned (.tuple #[.string (fndF s n).d, .int .i64 (fndE s n)]) ∧ New a w' b m s := by
  obtain ⟨A, h2⟩ := h.at_
  refine (read_any h2 h0 h1).mono ?_
  rintro e w2 ⟨rfl, g⟩
  exact ⟨rfl, h.up g⟩
theorem n_used (h : New a w b m s) : Calls Tryd.prog 60 #[ptr b] w fun e w' => e = .returned (.int .i64 (used s.L : Int)) ∧ New a w' b m s := by
  obtain ⟨A, h2⟩ := h.at_
  refine (used_any h2).mono ?_
  rintro e w2 ⟨rfl, g⟩
  exact ⟨rfl, h.up g⟩
/- a row of files that was answered: it lies in a block that is neither of the disk's -/
def Img (a w : World) (b m : Nat) (L : List Fl) (v : Value) : Prop := ∃ ad cap, v = .slice ad L.length cap ∧ RowAt flf w ad L ∧ (∀ p, ad = some p → a.heap.size ≤ p.block ∧ p.block ≠ b ∧ p.block ≠ m)
theorem n_image (h : New a w b m s) : Calls Tryd.prog 13 #[ptr b] w fun e w' => ∃ v, e = .returned v ∧ Img a w' b m s.L v ∧ New a w' b m s := by
  obtain ⟨A, h2⟩ := h.at_
  refine (image_any h2).mono ?_
  rintro e w2 ⟨ad, cap, rfl, hr, hb, g⟩
  refine ⟨_, rfl, ⟨ad, cap, rfl, hr, fun p e => ?_⟩, h.up g⟩
  have := hb p e
  have := h.gr.size
  have := h2.lt
  have := h2.fl.lt
  exact ⟨by omega, by omega, by omega⟩
theorem Img.td {L : List Fl} {v : Value} (h : Img a w b m L v) (t : Td w w' b m) : Img a w' b m L v := by
  obtain ⟨ad, cap, rfl, hr, hb⟩ := h
  exact ⟨ad, cap, rfl, t.row hr (fun p e => (hb p e).2), hb⟩
theorem n_files (h : New a w b m s) : Calls Tryd.prog 30 #[ptr b] w fun e w' => ∃ ad cap, e = .returned (.slice ad s.L.length cap) ∧ RowAt nf w' ad s.L ∧ (∀ p, ad = some p → a.heap.size ≤ p.block ∧ p.block ≠ b ∧ p.block ≠ m) ∧ New a w' b m s := by
  obtain ⟨A, h2⟩ := h.at_
  refine (files_any h2).mono ?_
  rintro e w2 ⟨v, rfl, hrow, hnil, g⟩
  rw [nms_flat] at hrow
  obtain ⟨ad, cap, rfl, _, _, hR, hbase, _⟩ := own_row hrow
  refine ⟨ad, cap, rfl, hR, fun p e => ?_, h.up g⟩
  have := hbase p e
  have := h.gr.size
  have := h2.lt
  have := h2.fl.lt
  exact ⟨by omega, by omega, by omega⟩

/- acts -/
structure Ac where
  k : Int
  n : Int
  z : Int
  d : ByteArray
  ka : Option Addr
  kc : Nat
  K : List Int
def acf (x : Ac) : List Value := [.int .i64 x.k, .int .i64 x.n, .int .i64 x.z, .string x.d, .slice x.ka x.K.length x.kc]
theorem acf_len (x : Ac) : (acf x).length = 5 := rfl
structure AcIn (w : World) (x : Ac) : Prop where
  k0 : -9223372036854775808 ≤ x.k
  k1 : x.k ≤ 9223372036854775807
  n0 : -9223372036854775808 ≤ x.n
  n1 : x.n ≤ 9223372036854775807
  z0 : -9223372036854775808 ≤ x.z
  z1 : x.z ≤ 9223372036854775807
  d1 : x.d.size ≤ 9223372036854775807
  K1 : x.K.length ≤ 9223372036854775807
  row : KAt w x.ka x.kc x.K
theorem AcIn.gr {x : Ac} (h : AcIn w x) (g : Gr w w') : AcIn w' x := ⟨h.k0, h.k1, h.n0, h.n1, h.z0, h.z1, h.d1, h.K1, h.row.gr g⟩
structure Acts (w : World) (ad : Option Addr) (T : List Ac) : Prop where
  row : RowAt acf w ad T
  len : T.length ≤ 9223372036854775807
  each : ∀ x ∈ T, AcIn w x
theorem Acts.gr {ad : Option Addr} {T : List Ac} (h : Acts w ad T) (g : Gr w w') : Acts w' ad T := ⟨h.row.gr g, h.len, fun x hx => (h.each x hx).gr g⟩
theorem ac_at {T : List Ac} {ad : Option Addr} (h : RowAt acf w ad T) (k : Nat) (hk : k < T.length) : ∃ x off, ad = some ⟨x, off, none⟩ ∧ x < w.heap.size ∧ w.cell? ⟨x, off + k * 5, none⟩ = some (.int .i64 T[k].k) ∧ w.cell? ⟨x, off + k * 5 + 1, none⟩ = some (.int .i64 T[k].n) ∧ w.cell? ⟨x, off + k * 5 + 2, none⟩ = some (.int .i64 T[k].z) ∧ w.cell? ⟨x, off + k * 5 + 3, none⟩ = some (.string T[k].d) ∧ w.cell? ⟨x, off + k * 5 + 4, none⟩ = some (.slice T[k].ka T[k].K.length T[k].kc) := by
  obtain ⟨x, off, e, h1, h2⟩ := h _ _ (flat_get acf_len T k hk 0 (by omega))
  obtain ⟨x1, off1, e1, _, h3⟩ := h _ _ (flat_get acf_len T k hk 1 (by omega))
  obtain ⟨x2, off2, e2, _, h4⟩ := h _ _ (flat_get acf_len T k hk 2 (by omega))
  obtain ⟨x3, off3, e3, _, h5⟩ := h _ _ (flat_get acf_len T k hk 3 (by omega))
  obtain ⟨x4, off4, e4, _, h6⟩ := h _ _ (flat_get acf_len T k hk 4 (by omega))
  subst e
  cases e1; cases e2; cases e3; cases e4
  rw [← Nat.add_assoc] at h3 h4 h5 h6
  exact ⟨_, _, rfl, h1, h2, h3, h4, h5, h6⟩
/- Few -/
def wgt (x : Ac) : Int := 50 + min (x.d.size : Int) 300000 + 10 * min (x.K.length : Int) 100000
def fewA : Int → List Ac → Bool
  | _, [] => true
  | n, x :: r => if 60000 < n + wgt x then false else fewA (n + wgt x) r
abbrev fewB (T : List Ac) : Bool := fewA 0 T
theorem wgt_pos (x : Ac) : 50 ≤ wgt x := by unfold wgt; omega
theorem fewA_in : ∀ (T : List Ac) {n : Int}, 0 ≤ n → fewA n T = true → ∀ x ∈ T, x.d.size ≤ 60000 ∧ x.K.length ≤ 6000
  | [], _, _, _ => fun x hx => by cases hx
  | y :: r, n, h0, h => by
    simp only [fewA] at h
    split at h
    · cases h
    · rename_i c
      have h5 := wgt_pos y
      have ih := fewA_in r (by omega) h
      intro x hx
      rcases List.mem_cons.1 hx with rfl | hx
      · unfold wgt at c; omega
      · exact ih x hx
theorem fewA_drop {n : Int} {T : List Ac} {k : Nat} (h : k < T.length) : fewA n (T.drop k) = if 60000 < n + wgt T[k] then false else fewA (n + wgt T[k]) (T.drop (k + 1)) := by
  rw [List.drop_eq_getElem_cons h]
  rfl
/- awake -/
abbrev s0 : St := ⟨[], 100, false, 0, []⟩
abbrev s1 : St := ⟨[⟨1, ⟨#[97, 98]⟩, 0⟩], 100, false, 0, []⟩
abbrev s2 : St := ⟨[⟨1, ⟨#[97, 98]⟩, 2⟩], 100, false, 0, []⟩
abbrev s3 : St := ⟨[⟨1, ⟨#[97, 98, 99, 100]⟩, 2⟩], 100, false, 0, []⟩
abbrev s4 : St := ⟨[⟨1, ⟨#[97, 98, 99]⟩, 3⟩], 100, true, 0, []⟩
abbrev s5 : St := ⟨[⟨1, ⟨#[97, 98, 99]⟩, 3⟩], 100, false, 0, []⟩
theorem aw1 : Dk.appE s0 1 ⟨#[97, 98]⟩ = 0 ∧ Dk.appS s0 1 ⟨#[97, 98]⟩ = s1 := ⟨by kernel_rfl, by kernel_rfl⟩
theorem aw2 : Dk.stpE s1 1 1 0 = 0 ∧ Dk.stpS s1 1 1 0 = s2 := ⟨by kernel_rfl, by kernel_rfl⟩
theorem aw3 : Dk.appE s2 1 ⟨#[99, 100]⟩ = 0 ∧ Dk.appS s2 1 ⟨#[99, 100]⟩ = s3 := ⟨by kernel_rfl, by kernel_rfl⟩
theorem aw4 : Dk.craE s3 = 0 ∧ Dk.craS s3 [1] = s4 := ⟨by kernel_rfl, by kernel_rfl⟩
theorem aw5 : Dk.appE s4 1 ⟨#[120]⟩ = 150 ∧ Dk.appS s4 1 ⟨#[120]⟩ = s4 := ⟨by kernel_rfl, by kernel_rfl⟩
theorem aw6 : Dk.booS s4 = s5 := rfl
theorem aw7 : fndF s5 1 = ⟨1, ⟨#[97, 98, 99]⟩, 3⟩ ∧ fndE s5 1 = 0 ∧ fndF s5 2 = zf 0 ∧ fndE s5 2 = 152 ∧ used s5.L = 3 := ⟨by kernel_rfl, by kernel_rfl, by kernel_rfl, by kernel_rfl, by kernel_rfl⟩
theorem may100 : mayL 100 [] = true := by kernel_rfl
end Go.Proofs.YtojmhhmpmpbpfaaDoor
namespace Go.Proofs.YtojmhhmpmpbpfaaDoor
open Go.RowKit Go.Maps
open Dk (Fl Fo St Ok Up zf emp used cutF fallA kf)

theorem Gr.dn {a b : World} (h : Gr a b) (n : Nat) : Gr a (b.drewN n) := by
  induction n with
  | zero => exact h
  | succ n ih => exact ih.drew
structure RAt (X : Nat → Prop) (w : World) (r : Nat) (fa : Option Addr) (fc : Nat) (ka : Option Addr) (kc : Nat) (s : St) : Prop where
  rm : w.cell? ⟨r, 0, none⟩ = some (.int .i64 s.room)
  gn : w.cell? ⟨r, 1, none⟩ = some (.bool s.dead)
  lf : w.cell? ⟨r, 2, none⟩ = some (.int .i64 s.left)
  kp : w.cell? ⟨r, 3, none⟩ = some (.slice ka s.keep.length kc)
  fl : w.cell? ⟨r, 4, none⟩ = some (.slice fa s.L.length fc)
  fz : ∀ o, o < 5 → w.frozen? ⟨r, o, none⟩ = false
  row : RowAt flf w fa s.L
  krow : KAt w ka kc s.keep
  fne : ∀ p, fa = some p → p.block ≠ r ∧ ¬ X p.block
  kne : s.keep ≠ [] → ∀ p, ka = some p → p.block ≠ r ∧ ¬ X p.block
  xl : ∀ j, X j → j < w.heap.size
  xr : ¬ X r
  cap : s.L.length ≤ fc
  capm : fc ≤ 9223372036854775807
  klen : s.keep.length ≤ 9223372036854775807
  ok : Ok s
def Rf (X : Nat → Prop) (w : World) (r : Nat) (s : St) : Prop := ∃ fa fc ka kc, RAt X w r fa fc ka kc s
variable {X : Nat → Prop} {w w' : World} {r : Nat} {fa : Option Addr} {fc : Nat} {ka : Option Addr} {kc : Nat} {s : St}
theorem RAt.lt (h : RAt X w r fa fc ka kc s) : r < w.heap.size := World.block_lt_of_cell? w _ h.rm
theorem ints_keep {ad : Option Addr} {l : List Int} (h : IntsAt w ad l) (hs : w.heap.size ≤ w'.heap.size) (hk : ∀ p, ad = some p → p.block < w.heap.size → w'.heap[p.block]? = w.heap[p.block]?) : IntsAt w' ad l := by
  intro j hj
  obtain ⟨b, off, rfl, hb, hc⟩ := h j hj
  exact ⟨b, off, rfl, Nat.lt_of_lt_of_le hb hs, (World.cell?_of_block (w := w) (a := ⟨b, off + j, none⟩) (hk ⟨b, off, none⟩ rfl hb)).trans hc⟩
theorem rows_keep {α : Type} {f : α → List Value} {ad : Option Addr} {l : List α} (h : RowAt f w ad l) (hs : w.heap.size ≤ w'.heap.size) (hk : ∀ p, ad = some p → p.block < w.heap.size → w'.heap[p.block]? = w.heap[p.block]?) : RowAt f w' ad l := by
  intro j u hu
  obtain ⟨b, off, rfl, hb, hc⟩ := h j u hu
  exact ⟨b, off, rfl, Nat.lt_of_lt_of_le hb hs, (World.cell?_of_block (w := w) (a := ⟨b, off + j, none⟩) (hk ⟨b, off, none⟩ rfl hb)).trans hc⟩
theorem KAt.keepX {ad : Option Addr} {cap : Nat} {l : List Int} (h : KAt w ad cap l) (hs : w.heap.size ≤ w'.heap.size) (hk : l ≠ [] → ∀ p, ad = some p → p.block < w.heap.size → w'.heap[p.block]? = w.heap[p.block]?) : KAt w' ad cap l := by
  refine ⟨?_, h.cap0⟩
  cases l with
  | nil => exact IntsAt.nil
  | cons x t => exact ints_keep h.row hs (hk (by simp))
/- whatever turns but its own blocks -/
theorem RAt.keep (h : RAt X w r fa fc ka kc s) (hs : w.heap.size ≤ w'.heap.size) (hk : ∀ j, j < w.heap.size → ¬ X j → w'.heap[j]? = w.heap[j]?) : RAt X w' r fa fc ka kc s := by
  have hr := hk r h.lt h.xr
  have hc : ∀ o, w'.cell? ⟨r, o, none⟩ = w.cell? ⟨r, o, none⟩ := fun o => World.cell?_of_block (w := w) hr
  exact ⟨(hc _).trans h.rm, (hc _).trans h.gn, (hc _).trans h.lf, (hc _).trans h.kp, (hc _).trans h.fl, fun o ho => (World.frozen?_of_block (w := w) hr).trans (h.fz o ho), rows_keep h.row hs (fun p e hl => hk _ hl (h.fne p e).2), h.krow.keepX hs (fun hn p e hl => hk _ hl (h.kne hn p e).2), h.fne, h.kne, fun j hj => Nat.lt_of_lt_of_le (h.xl j hj) hs, h.xr, h.cap, h.capm, h.klen, h.ok⟩
theorem RAt.gr (h : RAt X w r fa fc ka kc s) (g : Gr w w') : RAt X w' r fa fc ka kc s := h.keep g.size (fun j hj _ => g.below.block j hj)
theorem Rf.gr (h : Rf X w r s) (g : Gr w w') : Rf X w' r s := by
  obtain ⟨fa, fc, ka, kc, h⟩ := h
  exact ⟨fa, fc, ka, kc, h.gr g⟩
/- a cell of its own -/
theorem KAt.far {ad : Option Addr} {cap : Nat} {l : List Int} (h : KAt w ad cap l) (p : Addr) (u : Value) (hp : l ≠ [] → ∀ q, ad = some q → q.block ≠ p.block) : KAt (w.setCell p u) ad cap l :=
  h.keepX (by simp [World.setCell]) (fun hn q e _ => Below.heap_setCell w p u _ (hp hn q e))
theorem RAt.setGone (h : RAt X w r fa fc ka kc s) (x : Bool) : RAt X (w.setCell ⟨r, 1, none⟩ (.bool x)) r fa fc ka kc { s with dead := x } := by
  have h1 := h.gn
  refine ⟨?_, World.cell?_setCell_same _ _ _ h1, ?_, ?_, ?_, ?_, h.row.setFar _ _ (fun p e => ((h.fne p e).1).symm), h.krow.far _ _ (fun hn p e => (h.kne hn p e).1), h.fne, h.kne, fun j hj => by simpa [World.setCell] using h.xl j hj, h.xr, h.cap, h.capm, h.klen, ⟨h.ok.up, h.ok.fo, h.ok.len, h.ok.fits, h.ok.r1, h.ok.l0, h.ok.l1⟩⟩
  · rw [World.cell?_setCell_other _ _ _ _ (by simp)]; exact h.rm
  · rw [World.cell?_setCell_other _ _ _ _ (by simp)]; exact h.lf
  · rw [World.cell?_setCell_other _ _ _ _ (by simp)]; exact h.kp
  · rw [World.cell?_setCell_other _ _ _ _ (by simp)]; exact h.fl
  · intro o ho; rw [World.frozen?_setCell]; exact h.fz o ho
theorem RAt.setLeft (h : RAt X w r fa fc ka kc s) (n : Int) (hk : Ok { s with left := n }) : RAt X (w.setCell ⟨r, 2, none⟩ (.int .i64 n)) r fa fc ka kc { s with left := n } := by
  have h1 := h.lf
  refine ⟨?_, ?_, World.cell?_setCell_same _ _ _ h1, ?_, ?_, ?_, h.row.setFar _ _ (fun p e => ((h.fne p e).1).symm), h.krow.far _ _ (fun hn p e => (h.kne hn p e).1), h.fne, h.kne, fun j hj => by simpa [World.setCell] using h.xl j hj, h.xr, h.cap, h.capm, h.klen, hk⟩
  · rw [World.cell?_setCell_other _ _ _ _ (by simp)]; exact h.rm
  · rw [World.cell?_setCell_other _ _ _ _ (by simp)]; exact h.gn
  · rw [World.cell?_setCell_other _ _ _ _ (by simp)]; exact h.kp
  · rw [World.cell?_setCell_other _ _ _ _ (by simp)]; exact h.fl
  · intro o ho; rw [World.frozen?_setCell]; exact h.fz o ho
theorem RAt.setKeep (h : RAt X w r fa fc ka kc s) {ka' : Option Addr} {kc' : Nat} {l : List Int} (hl : KAt w ka' kc' l) (hn : l.length ≤ 9223372036854775807) (hne : l ≠ [] → ∀ p, ka' = some p → p.block ≠ r ∧ ¬ X p.block) : RAt X (w.setCell ⟨r, 3, none⟩ (.slice ka' l.length kc')) r fa fc ka' kc' { s with keep := l } := by
  have h1 := h.kp
  refine ⟨?_, ?_, ?_, World.cell?_setCell_same _ _ _ h1, ?_, ?_, h.row.setFar _ _ (fun p e => ((h.fne p e).1).symm), hl.far _ _ (fun hn p e => (hne hn p e).1), h.fne, hne, fun j hj => by simpa [World.setCell] using h.xl j hj, h.xr, h.cap, h.capm, hn, ⟨h.ok.up, h.ok.fo, h.ok.len, h.ok.fits, h.ok.r1, h.ok.l0, h.ok.l1⟩⟩
  · rw [World.cell?_setCell_other _ _ _ _ (by simp)]; exact h.rm
  · rw [World.cell?_setCell_other _ _ _ _ (by simp)]; exact h.gn
  · rw [World.cell?_setCell_other _ _ _ _ (by simp)]; exact h.lf
  · rw [World.cell?_setCell_other _ _ _ _ (by simp)]; exact h.fl
  · intro o ho; rw [World.frozen?_setCell]; exact h.fz o ho
theorem RAt.setFiles (h : RAt X w r fa fc ka kc s) {fa' : Option Addr} {fc' : Nat} {L : List Fl} (hl : RowAt flf w fa' L) (hne : ∀ p, fa' = some p → p.block ≠ r ∧ ¬ X p.block) (h0 : L.length ≤ fc') (h1 : fc' ≤ 9223372036854775807) (hk : Ok { s with L := L }) : RAt X (w.setCell ⟨r, 4, none⟩ (.slice fa' L.length fc')) r fa' fc' ka kc { s with L := L } := by
  have h4 := h.fl
  refine ⟨?_, ?_, ?_, ?_, World.cell?_setCell_same _ _ _ h4, ?_, hl.setFar _ _ (fun p e => ((hne p e).1).symm), h.krow.far _ _ (fun hn p e => (h.kne hn p e).1), hne, h.kne, fun j hj => by simpa [World.setCell] using h.xl j hj, h.xr, h0, h1, h.klen, hk⟩
  · rw [World.cell?_setCell_other _ _ _ _ (by simp)]; exact h.rm
  · rw [World.cell?_setCell_other _ _ _ _ (by simp)]; exact h.gn
  · rw [World.cell?_setCell_other _ _ _ _ (by simp)]; exact h.lf
  · rw [World.cell?_setCell_other _ _ _ _ (by simp)]; exact h.kp
  · intro o ho; rw [World.frozen?_setCell]; exact h.fz o ho
/- what a call may turn -/
def Tr (w w' : World) (r : Nat) : Prop := w.grownBy w' (some r)
theorem Tr.gr (g : Gr w w') : Tr w w' r := ⟨g.below.os, g.below.tape, g.below.output, g.size, fun k hk _ => g.below.block k hk⟩
theorem Tr.refl (w : World) (r : Nat) : Tr w w r := Tr.gr (Gr.refl w)
theorem Tr.trans {a w w' : World} (h : Tr a w r) (k : Tr w w' r) : Tr a w' r :=
  ⟨k.os.trans h.os, k.tape.trans h.tape, k.output.trans h.output, Nat.le_trans h.size k.size, fun j hj hn => by rw [k.block j (Nat.lt_of_lt_of_le hj h.size) hn, h.block j hj hn]⟩
theorem Tr.set (w : World) (r o : Nat) (u : Value) : Tr w (w.setCell ⟨r, o, none⟩ u) r := ⟨rfl, rfl, rfl, by simp [World.setCell], fun j _ hn => Below.heap_setCell w _ u j (fun e => hn (by rw [e]))⟩
/- the place of a file -/
def ix (L : List Fl) (n : Int) : Nat := L.findIdx (fun f => decide (f.n = n))
theorem ix_at {L : List Fl} {n : Int} (h : Dk.has L n = true) : ∃ hl : ix L n < L.length, L[ix L n] = Dk.get L n ∧ L[ix L n].n = n := by
  obtain ⟨f, h1, h2⟩ := Dk.has_mem h
  have hl : ix L n < L.length := List.findIdx_lt_length_of_exists ⟨f, h1, by simpa using h2⟩
  refine ⟨hl, ?_, ?_⟩
  · unfold Dk.get
    rw [List.find?_eq_getElem?_findIdx]
    show L[ix L n] = (L[ix L n]?).getD (zf 0)
    rw [List.getElem?_eq_getElem hl]
    rfl
  · have := List.findIdx_getElem (p := fun f : Fl => decide (f.n = n)) (w := hl)
    exact of_decide_eq_true this
theorem ix_of {L : List Fl} {n : Int} {k : Nat} (hk : k < L.length) (h1 : L[k].n = n) (h2 : ∀ f ∈ L.take k, f.n ≠ n) : ix L n = k := by
  unfold ix
  refine (List.findIdx_eq hk).2 ⟨by simpa using h1, fun j hj => ?_⟩
  have : L[j] ∈ L.take k := by
    rw [List.mem_take_iff_getElem]
    exact ⟨j, by omega, rfl⟩
  simpa using h2 _ this
def ixE (L : List Fl) (n : Int) : Int := if Dk.has L n then (ix L n : Int) else -1
theorem fnd_dead {n : Int} (hd : s.dead = true) : fndF s n = zf 0 ∧ fndE s n = 150 := by simp [fndF, fndE, hd]
theorem fnd_no {n : Int} (hd : s.dead = false) (hh : Dk.has s.L n = false) : fndF s n = zf 0 ∧ fndE s n = 152 := by simp [fndF, fndE, hd, hh, Dk.get_not hh]
theorem fnd_yes {n : Int} (hd : s.dead = false) (hh : Dk.has s.L n = true) : fndF s n = Dk.get s.L n ∧ fndE s n = 0 := by simp [fndF, fndE, hd, hh]
/- last -/
def lasB (s : St) : Bool := !decide (s.left = 0) && decide (s.left - 1 = 0)
def lasS (s : St) : St := if s.left = 0 then s else { s with left := s.left - 1 }
/- Same, of two rows that are -/
set_option maxHeartbeats 4000000 in
set_option maxRecDepth 100000 in
theorem rsame_eq (L : List Fl) (a1 a2 : Option Addr) (c1 c2 : Nat) (w : World) (h1 : RowAt flf w a1 L) (h2 : RowAt flf w a2 L) (hn : L.length ≤ 1000) :
    Calls Tryd.prog 15 #[.slice a1 L.length c1, .slice a2 L.length c2] w fun e w' => e = .returned (.bool true) ∧ Gr w w' := by
  have H1 := Lib.hid h1
  have H2 := Lib.hid h2
  clear h1 h2
  go_enter Tryd.func15, Tryd.ntmps15
  go_wp2
  go_loopw [5] (fun i wr => ∃ k : Nat, k ≤ L.length ∧ i = .int .i64 (k : Int) ∧ Gr w wr) (fun i _ => L.length - (intOf i).toNat)
  case atStart => exact ⟨0, Nat.zero_le _, rfl, Gr.refl w⟩
  case round =>
    obtain ⟨k, hk, rfl, hg⟩ := hrel
    have HG := Lib.hid hg
    by_cases hlt : k < L.length
    · obtain ⟨x, off, hade, hxb, b0, b1, b2⟩ := fl_at H1.out k hlt
      obtain ⟨y, off2, hade2, hyb, d0, d1, d2⟩ := fl_at H2.out k hlt
      have b0 := hg.keep b0
      have b1 := hg.keep b1
      have b2 := hg.keep b2
      have d0 := hg.keep d0
      have d1 := hg.keep d1
      have d2 := hg.keep d2
      have hnq : ∀ W : World, (binOp .neq 68 (flV L[k]) (flV L[k])).run Tryd.prog W = .ok (.bool false) W := fun W => by have := neq_fl L[k] L[k] W; rw [(eqF_iff _ _).2 rfl] at this; exact this
      subst hade hade2
      clear hg
      generalize L[k] = f at *
      obtain ⟨fn, fd, fy⟩ := f
      simp only at *
      go_upto_region 6 with fail
      go_quiet (fail)
      go_wp2
      go_roundw
      case rel => exact ⟨k + 1, by omega, by simp, HG.out.dn _⟩
      case measure => simp [intOf]; omega
    · obtain rfl : k = L.length := by omega
      clear hg
      go_wp2
      go_ret
      exact ⟨rfl, HG.out⟩
end Go.Proofs.YtojmhhmpmpbpfaaDoor
