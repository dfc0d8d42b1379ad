/- Parts of these proofs, laid together. -/
import Derived.Test.YtojmhhmpmpbpfaaGreatDoorGZ
import Derived.Test.YtojmhhmpmpbpfaaGreatDoorGV
import Derived.Test.YtojmhhmpmpbpfaaGreatDoorGW
import Derived.Test.YtojmhhmpmpbpfaaGreatDoorGP
namespace Go.Proofs.YtojmhhmpmpbpfaaGreatDoor
open Go.RowKit Go.Maps
open Dk (Fl Fo St Ok)
variable {a u w w' w2 : World} {b m f g x : Nat} {A : Nat → Int} {s : St} {n z : Int} {l : Wl.Lg} {h : Wl.Bo}

structure Lv (u w : World) (b m g : Nat) (s : St) (l : Wl.Lg) : Prop where
  nw : New u w b m s
  lg : LgAt w g b l
  ug : u.heap.size ≤ g
theorem Lv.up (k : Lv u w b m g s l) (h : Gr w w') : Lv u w' b m g s l := ⟨k.nw.up h, k.lg.gr h, k.ug⟩
theorem Lv.ll {s' : St} {l' : Wl.Lg} (k : Lv u w b m g s l) (h : LlR w w' b m g s' l') : Lv u w' b m g s' l' :=
  ⟨⟨h.1, k.nw.b0, k.nw.m0, T3.gr_of k.nw.gr h.2.2 k.nw.b0 k.nw.m0 k.ug⟩, h.2.1, k.ug⟩
/- the disk moves, the log does not -/
theorem Lv.far {s' : St} (k : Lv u w b m g s l) (h : FaR w w' b m s') : Lv u w' b m g s' l := by
  obtain ⟨A, hA⟩ := k.nw.at_
  exact ⟨k.nw.far h, k.lg.td hA h.2, k.ug⟩
theorem Lv.ne (k : Lv u w b m g s l) : g ≠ b ∧ g ≠ m := by
  obtain ⟨A, hA⟩ := k.nw.at_
  exact k.lg.ne hA
theorem New.blt (k : New u w b m s) : b < w.heap.size ∧ m < w.heap.size := by
  obtain ⟨A, hA⟩ := k.at_
  exact ⟨hA.lt, hA.fl.lt⟩
theorem re_z (hr : Wl.Re s l h) : 0 ≤ l.z ∧ l.z ≤ 200000 := by
  have h1 := hr.z
  have h2 := hr.at_.ok.fits
  have h3 := hr.at_.ok.r1
  rw [hr.at_.eq, Wl.used_1] at h2
  omega
/- how many bytes the disk says that the file has -/
theorem re_get (hr : Wl.Re s l h) : ((Dk.get s.L l.n).d.size : Int) = l.z := by
  rw [hr.at_.eq, hr.z]
  have := Wl.get_1 (Wl.fl l.n h)
  rw [show (Wl.fl l.n h).n = l.n from rfl] at this
  rw [this]
  show ((Wl.ct h).size : Int) = _
  rw [Wl.ct_size]
theorem did_apq {h' : Wl.Bo} {d : ByteArray} (k : Wl.Did s l h h' (Wl.apn s l d).1 (Wl.apn s l d).2.1 (Wl.apn s l d).2.2) : Wl.Did s l h h' (Wl.apn s l d).1 (Wl.apn s l d).2.1 (apq s l d) := by
  rcases k with ⟨k1, k2, k3⟩ | ⟨k1, k2, k3, k4⟩ | ⟨k1, k2, k3⟩
  · refine Or.inl ⟨k1, ?_, k3⟩
    unfold apq
    rw [if_pos k1]
    exact k2
  · refine Or.inr (Or.inl ⟨k1, k2, k3, ?_⟩)
    unfold apq Wl.tol
    rw [if_neg k1, if_neg k2]
  · exact Or.inr (Or.inr ⟨k1, k2, k3⟩)
theorem v_append (k : Lv u w b m g s l) (hT : Tab u) (hr : Wl.Re s l h) (d : ByteArray) (hd : d.size ≤ 9223372036854775807) :
    Calls Tryz.prog 18 #[ptr g, .string d] w fun e w' => ∃ E s' l', e = .returned (.int .i64 E) ∧ E = (Wl.apn s l d).1 ∧ s' = (Wl.apn s l d).2.1 ∧ Wl.Did s l h (h ++ [d.data.toList]) E s' l' ∧ Lv u w' b m g s' l' ∧ T3 w w' b m g := by
  obtain ⟨A, hA⟩ := k.nw.at_
  have hn := hr.n01
  refine (lappend_any hA k.lg (hT.gr k.nw.gr) d (by omega) (by omega) hd).mono ?_
  rintro e w' ⟨rfl, r⟩
  exact ⟨_, _, _, rfl, rfl, rfl, did_apq (Wl.apn_re hr d), k.ll r, r.2.2⟩
theorem v_turn (k : Lv u w b m g s l) (hT : Tab u) (hr : Wl.Re s l h) (d : ByteArray) (hd : d.size ≤ 9223372036854775807) :
    Calls Tryz.prog 20 #[ptr g, .string d] w fun e w' => ∃ E s' l', e = .returned (.int .i64 E) ∧ E = (Wl.trn s l d).1 ∧ s' = (Wl.trn s l d).2.1 ∧ l' = (Wl.trn s l d).2.2 ∧ Wl.Did s l h [d.data.toList] E s' l' ∧ Lv u w' b m g s' l' ∧ T3 w w' b m g := by
  obtain ⟨A, hA⟩ := k.nw.at_
  have hn := hr.n01
  refine (lturn_any hA k.lg (hT.gr k.nw.gr) d hn.1 hn.2 hd).mono ?_
  rintro e w' ⟨rfl, r⟩
  exact ⟨_, _, _, rfl, rfl, rfl, rfl, Wl.trn_re hr d, k.ll r, r.2.2⟩
theorem v_open (k : New u w b m s) (hT : Tab u) (d : ByteArray) (hds : d.size ≤ 140737488355328) :
    Calls Tryz.prog 8 #[ptr b, .string d] w fun e w' => OpI w w' b m (Wl.opn s d) e ∧ New u w' b m (Wl.opn s d).st := by
  obtain ⟨A, hA⟩ := k.at_
  refine (wopen_any hA hT k.gr k.b0 k.m0 d hds).mono ?_
  intro e w' r
  exact ⟨r, k.far r.1⟩
/- what an opening that went well has: the log, the bodies' row -/
structure Og (u w w' : World) (b m g : Nat) (s : St) (l : Wl.Lg) (h : Wl.Bo) (ab : Option Addr) : Prop where
  lv : Lv u w' b m g s l
  ro : StrsAt w' ab (h.map mkT)
  fr : ∀ p, ab = some p → w.heap.size ≤ p.block
  ng : h ≠ [] → ∀ p, ab = some p → p.block ≠ g
  gw : w.heap.size ≤ g
  td : Td w w' b m
theorem og_of {o : Wl.Op} {e : Ending} (k : New u w b m s) (r : OpI w w' b m o e) (hl : o.lg = some l) : ∃ g ab cb, e = .returned (.tuple #[ptr g, .slice ab o.bo.length cb, .int .i64 o.er]) ∧ Og u w w' b m g o.st l o.bo ab := by
  obtain ⟨r1, r2⟩ := r
  rw [hl] at r2
  obtain ⟨g, ab, cb, q1, q2, q3, q4, q5, q6⟩ := r2
  exact ⟨g, ab, cb, q1, ⟨⟨k.far r1, q3, Nat.le_trans k.gr.size q2⟩, q4, q5, q6, q2, r1.2⟩⟩
/- without falls: a log at rest -/
structure Lz (u w : World) (b m g : Nat) (s : St) (l : Wl.Lg) (h : Wl.Bo) (R : Int) (N : Int) : Prop where
  lv : Lv u w b m g s l
  re : Wl.Re s l h
  lf : s.left = 0
  rm : s.room = R
  nn : l.n = N
theorem Lz.up {R N : Int} (k : Lz u w b m g s l h R N) (q : Gr w w') : Lz u w' b m g s l h R N := ⟨k.lv.up q, k.re, k.lf, k.rm, k.nn⟩
theorem cat_more (h : Wl.Bo) (d : ByteArray) (hd : d.size ≤ 30000) : (Sl.cat 3 (h ++ [d.data.toList])).length ≤ (Sl.cat 3 h).length + d.size + 20 := by
  have h1 := fr_le hd
  rw [Wl.fr_size] at h1
  rw [Wl.cat_snoc]
  omega
theorem cat_new (d : ByteArray) (hd : d.size ≤ 30000) : (Sl.cat 3 [d.data.toList]).length ≤ d.size + 20 := by
  have h1 := fr_le hd
  rw [Wl.fr_size] at h1
  rw [Wl.cat_one]
  omega
theorem z_append {R N : Int} (k : Lz u w b m g s l h R N) (hT : Tab u) (d : ByteArray) (hd : d.size ≤ 30000) (hf : (((Sl.cat 3 h).length + d.size + 20 : Nat) : Int) ≤ R) :
    Calls Tryz.prog 18 #[ptr g, .string d] w fun e w' => ∃ s' l', e = .returned (.int .i64 0) ∧ Lz u w' b m g s' l' (h ++ [d.data.toList]) R N ∧ T3 w w' b m g := by
  have h1 := fr_le hd
  have hrm := k.rm
  have hE := Wl.apn_fit k.re k.lf hd (by omega)
  obtain ⟨A, hA⟩ := k.lv.nw.at_
  have hn := k.re.n01
  refine (lappend_any hA k.lv.lg (hT.gr k.lv.nw.gr) d (by omega) (by omega) (by omega)).mono ?_
  rintro e w' ⟨rfl, r⟩
  have hq : apq s l d = (Wl.apn s l d).2.2 := by unfold apq; rw [if_pos hE]
  have hdid := Wl.apn_re k.re d
  rw [hE] at hdid ⊢
  rcases hdid with ⟨_, q2, q3⟩ | ⟨q1, _⟩ | ⟨q1, _⟩
  · rw [hq] at r
    exact ⟨_, _, rfl, ⟨k.lv.ll r, q2, q3 k.lf, (Wl.room_apn s l d).trans k.rm, (Wl.apn_num s l d).trans k.nn⟩, r.2.2⟩
  · exact absurd rfl q1
  · exact absurd q1 (by decide)
theorem z_turn {R N : Int} (k : Lz u w b m g s l h R N) (hT : Tab u) (d : ByteArray) (hd : d.size ≤ 30000) (hN : N ≠ 1000000) (hf : (((Sl.cat 3 h).length + d.size + 20 : Nat) : Int) ≤ R) :
    Calls Tryz.prog 20 #[ptr g, .string d] w fun e w' => ∃ s' l', e = .returned (.int .i64 0) ∧ Lz u w' b m g s' l' [d.data.toList] R (N + 1) ∧ T3 w w' b m g := by
  have h1 := fr_le hd
  have hrm := k.rm
  have hE := Wl.trn_fit k.re k.lf (by rw [k.nn]; exact hN) hd (by omega)
  obtain ⟨A, hA⟩ := k.lv.nw.at_
  have hn := k.re.n01
  refine (lturn_any hA k.lv.lg (hT.gr k.lv.nw.gr) d hn.1 hn.2 (by omega)).mono ?_
  rintro e w' ⟨rfl, r⟩
  have hdid := Wl.trn_re k.re d
  have hnum := Wl.trn_num hE
  rw [hE] at hdid ⊢
  rcases hdid with ⟨_, q2, q3⟩ | ⟨q1, _⟩ | ⟨q1, _⟩
  · exact ⟨_, _, rfl, ⟨k.lv.ll r, q2, q3 k.lf, (Wl.room_trn s l d).trans k.rm, by rw [hnum, k.nn]⟩, r.2.2⟩
  · exact absurd rfl q1
  · exact absurd q1 (by decide)
/- too long: nothing is done -/
theorem z_append_no {R N : Int} (k : Lz u w b m g s l h R N) (hT : Tab u) (d : ByteArray) (hd : ¬ d.size ≤ 30000) (hm : d.size ≤ 9223372036854775807) :
    Calls Tryz.prog 18 #[ptr g, .string d] w fun e w' => e = .returned (.int .i64 3) ∧ Lz u w' b m g s l h R N ∧ T3 w w' b m g := by
  obtain ⟨A, hA⟩ := k.lv.nw.at_
  have hn := k.re.n01
  refine (lappend_any hA k.lv.lg (hT.gr k.lv.nw.gr) d (by omega) (by omega) (by omega)).mono ?_
  obtain ⟨q1, q2⟩ := apn_big (s := s) (l := l) (d := d) k.re.br hd
  rw [q1, q2]
  rintro e w' ⟨rfl, r⟩
  exact ⟨rfl, ⟨k.lv.ll r, k.re, k.lf, k.rm, k.nn⟩, r.2.2⟩
theorem z_turn_no {R N : Int} (k : Lz u w b m g s l h R N) (hT : Tab u) (d : ByteArray) (hd : ¬ d.size ≤ 30000) (hN : N ≠ 1000000) (hm : d.size ≤ 9223372036854775807) :
    Calls Tryz.prog 20 #[ptr g, .string d] w fun e w' => e = .returned (.int .i64 3) ∧ Lz u w' b m g s l h R N ∧ T3 w w' b m g := by
  obtain ⟨A, hA⟩ := k.lv.nw.at_
  have hn := k.re.n01
  refine (lturn_any hA k.lv.lg (hT.gr k.lv.nw.gr) d hn.1 hn.2 (by omega)).mono ?_
  have q1 : Wl.trn s l d = (3, s, l) := by
    have hb : Wl.beg s (l.n + 1) d = (0, 3, s) := by unfold Wl.beg; rw [if_neg hd]
    rw [trn_no k.re.br (by rw [k.nn]; exact hN) (by rw [hb]; intro e; cases e), hb]
    rfl
  rw [q1]
  rintro e w' ⟨rfl, r⟩
  exact ⟨rfl, ⟨k.lv.ll r, k.re, k.lf, k.rm, k.nn⟩, r.2.2⟩
/- opened again at rest -/
theorem z_open {R N : Int} (k : Lz u w b m g s l h R N) (hT : Tab u) (d : ByteArray) (hds : d.size ≤ 140737488355328) :
    Calls Tryz.prog 8 #[ptr b, .string d] w fun e w' => ∃ g' ab cb, e = .returned (.tuple #[ptr g', .slice ab h.length cb, .int .i64 0]) ∧ Og u w w' b m g' s l h ab ∧ Lz u w' b m g s l h R N ∧ Lz u w' b m g' s l h R N := by
  refine (v_open k.lv.nw hT d hds).mono ?_
  rw [Wl.opn_rest k.re d]
  rintro e w' ⟨r, r2⟩
  obtain ⟨g', ab, cb, q1, q2⟩ := og_of k.lv.nw r rfl
  exact ⟨g', ab, cb, q1, q2, ⟨k.lv.far ⟨r2.at_, q2.td⟩, k.re, k.lf, k.rm, k.nn⟩, ⟨q2.lv, k.re, k.lf, k.rm, k.nn⟩⟩
theorem opn_fit {d : ByteArray} (hs : Wl.At s []) (hl : s.left = 0) (hd : d.size ≤ 30000) (hf : ((d.size + 20 : Nat) : Int) ≤ s.room) : ∃ l, (Wl.opn s d).lg = some l ∧ (Wl.opn s d).bo = [d.data.toList] ∧ (Wl.opn s d).er = 0 ∧ Wl.Re (Wl.opn s d).st l [d.data.toList] ∧ (Wl.opn s d).st.left = 0 ∧ l.n = 1 := by
  have h1 := fr_le hd
  rcases Wl.opn_new hs hl d hd with ⟨_, _, h3⟩ | h3
  · exfalso
    have hlk : Sg.look s.L = ⟨-1, 0, [], [], 0⟩ := by rw [hs.eq]; rfl
    rw [opn_none' hs.up (by rw [hlk]) (by rw [hlk]), hlk] at h3
    have hal : alnE s 1 d [] = layE s 1 (Wl.fr d) := by
      unfold alnE
      rw [show Wl.drp s [] = (0, s) from rfl, if_pos rfl, (beg_ok hd s 1).1]
    simp only at h3
    rw [hal] at h3
    have hne := Wl.app_full hs (n := 1) (d := Wl.fr d) (by omega) (by omega) (by simp) (by simp [Dk.used]; omega)
    unfold layE at h3
    rcases Wl.app_or hs (n := 1) (by omega) (by omega) (Wl.fr_ne d) with ⟨a1, a2⟩ | ⟨a1, a2, a3, _⟩ | ⟨a1, a2, a3⟩
    · exact hne a1
    · rw [if_pos a1] at h3
      rcases Wl.step_or a2 (q := 1) (n := 1) (k := 0) (Dk.has_of (f := Dk.ext [] 1 (Wl.fr d)) (Dk.self_ins _ _)) (by omega) with ⟨q1, _⟩ | ⟨q1, _⟩
      · rw [q1, if_pos rfl] at h3; cases h3
      · rw [q1, if_neg (by decide)] at h3; cases h3
    · rw [a1, if_neg (show ¬ ((150 : Int) = 0) by decide), if_neg (by decide)] at h3; cases h3
  · exact h3
/- a new disk, and its log -/
theorem at_new {R : Int} (h0 : 0 ≤ R) (h1 : R ≤ 200000) : Wl.At (Dk.new R []) [] := ⟨rfl, rfl, Ok.new h0 h1⟩
theorem z_first {R : Int} (h0 : 0 ≤ R) (h1 : R ≤ 200000) (k : New u w b m (Dk.new R [])) (hT : Tab u) (d : ByteArray) (hd : d.size ≤ 30000) (hf : ((d.size + 20 : Nat) : Int) ≤ R) :
    Calls Tryz.prog 8 #[ptr b, .string d] w fun e w' => ∃ g ab cb s l, e = .returned (.tuple #[ptr g, .slice ab 1 cb, .int .i64 0]) ∧ Og u w w' b m g s l [d.data.toList] ab ∧ Lz u w' b m g s l [d.data.toList] R 1 := by
  refine (v_open k hT d (by omega)).mono ?_
  rintro e w' ⟨r, r2⟩
  obtain ⟨l, q1, q2, q3, q4, q5, q6⟩ := opn_fit (at_new h0 h1) rfl hd hf
  obtain ⟨g, ab, cb, q7, q8⟩ := og_of k r q1
  have hrm := Wl.room_opn (Dk.new R []) d
  rw [q2, q3] at q7
  rw [q2] at q8
  exact ⟨g, ab, cb, _, l, q7, q8, q8.lv, q4, q5, hrm, q6⟩
end Go.Proofs.YtojmhhmpmpbpfaaGreatDoor
namespace Go.Proofs.YtojmhhmpmpbpfaaGreatDoor
open Go.RowKit

set_option maxHeartbeats 2000000 in
set_option maxRecDepth 100000 in
theorem refOpen_any (s : ByteArray) (p v : Int) (w : World) (hs : s.size ≤ 140737488355328) :
    Calls Tryz.prog 62 #[.string s, .int .i64 p, .int .i64 v] w fun e w' => e = .returned (.tuple #[.string ⟨(Sl.openE s.data.toList p v).1.toArray⟩, .int .i64 (Sl.openE s.data.toList p v).2.1, .int .i64 (Sl.openE s.data.toList p v).2.2]) ∧ Gr w w' := by
  have hsz : s.data.toList.length = s.size := by simp
  have hout : ¬ (0 ≤ p ∧ p ≤ s.data.toList.length ∧ 0 ≤ v ∧ v ≤ 255) → Sl.openE s.data.toList p v = ([], 0, 2) := fun h => Sl.open_head _ _ _ 2 (by unfold Sl.headE; rw [if_neg h]) (by decide)
  by_cases h0 : 0 ≤ p
  · have h0' : decide (p < 0) = false := decide_eq_false (by omega)
    by_cases h1 : p ≤ s.size
    · have h1' : decide ((s.size : Int) < p) = false := decide_eq_false (by omega)
      by_cases h2 : 0 ≤ v
      · have h2' : decide (v < 0) = false := decide_eq_false (by omega)
        by_cases h3 : v ≤ 255
        · have h3' : decide (255 < v) = false := decide_eq_false (by omega)
          clear hout
          obtain ⟨a, rfl⟩ := Int.eq_ofNat_of_zero_le h0
          obtain ⟨x, rfl⟩ := Int.eq_ofNat_of_zero_le h2
          have ha : a ≤ s.size := by omega
          have HE : Hid (Sl.headE s.data.toList a x = match s.data.toList.drop a with | [] => 10 | c :: r => if c = 231 then (match r with | [] => 10 | d :: _ => if d.toNat = x then 0 else 21) else 20) := by
            show _ = _
            rw [Sl.headE, if_pos ⟨h0, by omega, h2, h3⟩]; rfl
          have hx := ext_drop s a
          rw [← hx] at HE
          obtain ⟨L, hL⟩ : ∃ L, s.extract a s.size = L := ⟨_, rfl⟩
          have hLs : L.size = s.size - a := by rw [← hL]; simp
          have hLl : L.data.toList.length = L.size := by simp
          rw [hL] at HE hx
          have HX : Hid (L.data.toList = s.data.toList.drop a) := hx
          clear hx
          cases hd : L.data.toList with
          | nil =>
            rw [hd] at hLl HE
            have hz : L.size = 0 := by simpa using hLl.symm
            have hLe : L = ⟨#[]⟩ := by rw [← mk_data L, hd]
            have hLq : (L.toList == []) = true := by rw [toList_data, hd]; rfl
            have HR : Hid (Sl.openE s.data.toList a x = ([], 0, 10)) := Sl.open_head _ _ _ 10 HE.out (by decide)
            clear hLe
            go_enter Tryz.func62, Tryz.ntmps62
            go_wp2
            go_ret3
            rw [HR.out]
            exact ⟨rfl, Gr.refl _⟩
          | cons c r =>
            have hLe : (L.toList == []) = false := by rw [toList_data, hd]; rfl
            rw [hd] at hLl HE
            have hpos : 0 < L.size := by rw [← hLl]; simp
            have hc0 : L[0] = c := by
              show L.data[0] = c
              have : L.data.toList[0]'(by rw [hd]; simp) = c := by simp [hd]
              simpa using this
            by_cases hc : c = 231
            · subst hc
              have hcb : (((231 : UInt8).toNat : Int) != 231) = false := by decide
              cases r with
              | nil =>
                have hz : L.size = 1 := by simpa using hLl.symm
                have HR : Hid (Sl.openE s.data.toList a x = ([], 0, 10)) := Sl.open_head _ _ _ 10 HE.out (by decide)
                go_enter Tryz.func62, Tryz.ntmps62
                go_wp2
                go_ret3
                rw [HR.out]
                exact ⟨rfl, Gr.refl _⟩
              | cons d r =>
                have hz : 2 ≤ L.size := by rw [← hLl]; simp
                have hz1 : 1 < L.size := by omega
                have hz2 : ((L.size : Int) == 1) = false := by rw [beq_eq_false_iff_ne]; omega
                have hd1 : L[1] = d := by
                  show L.data[1] = d
                  have : L.data.toList[1]'(by rw [hd]; simp) = d := by simp [hd]
                  simpa using this
                have hd8 : d.toNat < 256 := d.toNat_lt
                by_cases hv : (d.toNat : Int) = (x : Int)
                · have hvb : ((d.toNat : Int) != (x : Int)) = false := by rw [hv]; exact bne_self_eq_false _
                  have hh : Sl.headE s.data.toList a x = 0 := by rw [HE.out]; simp; omega
                  obtain ⟨⟨n, f, e⟩, ht⟩ : ∃ r, Pk.takeNum s.data.toList ((a : Int) + 2) = r := ⟨_, rfl⟩
                  have hO := Sl.open_take s.data.toList a x hh n f e ht
                  have hS := Sl.take_shift s.data.toList a (by omega)
                  have hsp := Pk.takeNum_spec s.data.toList ((a : Int) + 2)
                  rw [ht] at hS hsp
                  rw [← HX.out] at hS hO
                  simp only at hS hsp
                  have HT : Hid (∀ w : World, Calls Tryz.prog 84 #[.string L, .int .i64 2] w fun e w' => e = .returned (.tuple #[.int .u64 (Pk.takeNum L.data.toList 2).1, .int .i64 (Pk.takeNum L.data.toList 2).2.1, .int .i64 (Pk.takeNum L.data.toList 2).2.2]) ∧ Gr w w') := fun w => refTakeNumber_any L 2 w (by omega)
                  rw [hS] at HT
                  simp only at HT
                  clear hS ht HE
                  by_cases he : e = 0
                  · subst he
                    rw [if_pos rfl] at hO
                    have hb1 : n < 18446744073709551616 ∧ f ≤ s.size ∧ a + 2 ≤ f := by
                      rcases hsp with h | h | h | h <;> simp at h <;> omega
                    obtain ⟨hn, hf, hg⟩ := hb1
                    clear hsp
                    obtain ⟨g, hg2⟩ : ∃ g, f - a = g := ⟨_, rfl⟩
                    rw [hg2] at HT hO
                    by_cases hn3 : n ≤ 30000
                    · rw [if_pos hn3] at hO
                      by_cases hl : f + n + 8 ≤ s.size
                      · rw [if_pos (by omega)] at hO
                        have hnl : ¬ ((L.size : Int) - (g : Int) < (n : Int) + 8) := by omega
                        have hb1 : (0 : Int) ≤ (g : Int) + (n : Int) := by omega
                        have hb2 : (g : Int) + (n : Int) ≤ (L.size : Int) := by omega
                        have hb3 : (g : Int) + (n : Int) + 8 ≤ (L.size : Int) := by omega
                        have hbx := ext_data L g n
                        have hbs : (L.extract g (g + n)).size = n := by simp; omega
                        have hk1 : (L.extract 0 (g + n + 8)).toList = L.data.toList.take (g + n + 8) := by
                          have := ext_data L 0 (g + n + 8)
                          rw [toList_data]; simpa only [Nat.zero_add, List.drop_zero] using this
                        have hkl : (L.data.toList.take (g + n + 8)).length = g + n + 8 := by rw [List.length_take, show L.data.toList.length = L.size by simp]; omega
                        rw [← hbx] at hO
                        obtain ⟨B, hB⟩ : ∃ B, L.extract g (g + n) = B := ⟨_, rfl⟩
                        rw [hB] at hO hbs
                        have HS : Hid (∀ w : World, Calls Tryz.prog 64 #[.int .i64 x, .string B] w fun e w' => e = .returned (.tuple #[.string ⟨(Sl.frame x B.data.toList).toArray⟩, .int .i64 0]) ∧ Gr w w') := by
                          intro w
                          have := refSeal_any x B w (by omega)
                          have e : Sl.sealE x B.data.toList = (Sl.frame x B.data.toList, 0) := by
                            unfold Sl.sealE
                            rw [if_pos ⟨h2, h3⟩, if_pos (by have : B.data.toList.length = B.size := by simp
                                                            omega)]; rfl
                          rw [e] at this
                          exact this
                        generalize Sl.frame x B.data.toList = fr at *
                        generalize L.data.toList.take (g + n + 8) = tk at *
                        clear hbx hd
                        by_cases hq : (fr == tk) = true
                        · rw [if_pos hq] at hO
                          have HR : Hid (Sl.openE s.data.toList a x = _) := hO
                          have hfl : fr.length = g + n + 8 := by rw [beq_iff_eq] at hq; rw [hq]; exact hkl
                          have hfs : (⟨fr.toArray⟩ : ByteArray).size = g + n + 8 := by simpa [ByteArray.size] using hfl
                          clear hO hkl
                          go_enter Tryz.func62, Tryz.ntmps62
                          go_wp2_with fail
                          refine (HT.out _).mono ?_
                          rintro e w1 ⟨rfl, hg1⟩
                          go_wp2_with fail
                          refine (HS.out _).mono ?_
                          rintro e w2 ⟨rfl, hg2'⟩
                          go_wp2
                          go_ret3
                          rw [HR.out]
                          refine ⟨?_, (by repeat (first | exact Gr.refl _ | refine Gr.alloc ?_ | refine Gr.drew ?_ | refine Gr.trans ?_ (by assumption)))⟩
                          show Ending.returned (Value.tuple #[Value.string B, Value.int IntKind.i64 ((a : Int) + ((g : Int) + (n : Int) + 8)), Value.int IntKind.i64 0]) = _
                          have e9 : (a : Int) + ((g : Int) + (n : Int) + 8) = ((f + n + 8 : Nat) : Int) := by omega
                          rw [e9]
                          rfl
                        · have hq' : (fr == tk) = false := by simpa using hq
                          rw [if_neg hq] at hO
                          have HR : Hid (Sl.openE s.data.toList a x = _) := hO
                          clear hO hkl hq
                          go_enter Tryz.func62, Tryz.ntmps62
                          go_wp2_with fail
                          refine (HT.out _).mono ?_
                          rintro e w1 ⟨rfl, hg1⟩
                          go_wp2_with fail
                          refine (HS.out _).mono ?_
                          rintro e w2 ⟨rfl, hg2'⟩
                          go_wp2
                          go_ret3
                          rw [HR.out]
                          exact ⟨rfl, (by repeat (first | exact Gr.refl _ | refine Gr.alloc ?_ | refine Gr.drew ?_ | refine Gr.trans ?_ (by assumption)))⟩
                      · rw [if_neg (by omega)] at hO
                        have HR : Hid (Sl.openE s.data.toList a x = ([], 0, 10)) := hO
                        have hnl : (L.size : Int) - (g : Int) < (n : Int) + 8 := by omega
                        clear hO
                        go_enter Tryz.func62, Tryz.ntmps62
                        go_wp2_with fail
                        refine (HT.out _).mono ?_
                        rintro e w1 ⟨rfl, hg1⟩
                        go_wp2
                        go_ret3
                        rw [HR.out]
                        exact ⟨rfl, (by repeat (first | exact Gr.refl _ | refine Gr.alloc ?_ | refine Gr.drew ?_ | refine Gr.trans ?_ (by assumption)))⟩
                    · rw [if_neg hn3] at hO
                      have HR : Hid (Sl.openE s.data.toList a x = ([], 0, 3)) := hO
                      have hlt : (30000 : Int) < (n : Int) := by omega
                      clear hO
                      go_enter Tryz.func62, Tryz.ntmps62
                      go_wp2_with fail
                      refine (HT.out _).mono ?_
                      rintro e w1 ⟨rfl, hg1⟩
                      go_wp2
                      go_ret3
                      rw [HR.out]
                      exact ⟨rfl, (by repeat (first | exact Gr.refl _ | refine Gr.alloc ?_ | refine Gr.drew ?_ | refine Gr.trans ?_ (by assumption)))⟩
                  · rw [if_neg he] at hO
                    have HR : Hid (Sl.openE s.data.toList a x = ([], 0, e)) := hO
                    have hne : ((e : Int) != 0) = true := by rw [bne_iff_ne]; omega
                    clear hO hsp
                    go_enter Tryz.func62, Tryz.ntmps62
                    go_wp2_with fail
                    refine (HT.out _).mono ?_
                    rintro e w1 ⟨rfl, hg1⟩
                    go_wp2
                    go_ret3
                    rw [HR.out]
                    exact ⟨rfl, (by repeat (first | exact Gr.refl _ | refine Gr.alloc ?_ | refine Gr.drew ?_ | refine Gr.trans ?_ (by assumption)))⟩
                · have HR : Hid (Sl.openE s.data.toList a x = ([], 0, 21)) := Sl.open_head _ _ _ 21 (by rw [HE.out]; simp; omega) (by decide)
                  have hvb : ((d.toNat : Int) != (x : Int)) = true := by rw [bne_iff_ne]; exact hv
                  go_enter Tryz.func62, Tryz.ntmps62
                  go_wp2
                  go_ret3
                  rw [HR.out]
                  exact ⟨rfl, Gr.refl _⟩
            · have HR : Hid (Sl.openE s.data.toList a x = ([], 0, 20)) := Sl.open_head _ _ _ 20 (by rw [HE.out]; simp [hc]) (by decide)
              have hcb : ((c.toNat : Int) != 231) = true := by
                rw [bne_iff_ne]; intro h; apply hc
                exact UInt8.toNat_inj.1 (by have : c.toNat = 231 := by omega
                                            rw [this]; rfl)
              go_enter Tryz.func62, Tryz.ntmps62
              go_wp2
              go_ret3
              rw [HR.out]
              exact ⟨rfl, Gr.refl _⟩
        · have HR : Hid (Sl.openE s.data.toList p v = ([], 0, 2)) := hout (by omega)
          have h3' : 255 < v := by omega
          clear hout
          go_enter Tryz.func62, Tryz.ntmps62
          go_wp2
          go_ret3
          rw [HR.out]
          exact ⟨rfl, Gr.refl _⟩
      · have HR : Hid (Sl.openE s.data.toList p v = ([], 0, 2)) := hout (by omega)
        have h2' : v < 0 := by omega
        clear hout
        go_enter Tryz.func62, Tryz.ntmps62
        go_wp2
        go_ret3
        rw [HR.out]
        exact ⟨rfl, Gr.refl _⟩
    · have HR : Hid (Sl.openE s.data.toList p v = ([], 0, 2)) := hout (by omega)
      have h1' : (s.size : Int) < p := by omega
      clear hout
      go_enter Tryz.func62, Tryz.ntmps62
      go_wp2
      go_ret3
      rw [HR.out]
      exact ⟨rfl, Gr.refl _⟩
  · have HR : Hid (Sl.openE s.data.toList p v = ([], 0, 2)) := hout (by omega)
    have h0' : p < 0 := by omega
    clear hout
    go_enter Tryz.func62, Tryz.ntmps62
    go_wp2
    go_ret3
    rw [HR.out]
    exact ⟨rfl, Gr.refl _⟩
end Go.Proofs.YtojmhhmpmpbpfaaGreatDoor
