/- Parts of these proofs, laid together. -/
import Derived.Test.YtojmhhmpmpbpfaaDoorGW
namespace Go.Proofs.YtojmhhmpmpbpfaaDoor
open Go.RowKit Go.Maps
open Dk (Fl Fo St Ok)
variable {a u w w' w2 : World} {b m f g x : Nat} {A : Nat → Int} {s : St} {n z : Int} {l : Wl.Lg} {h : Wl.Bo}

structure Lv (u w : World) (b m g : Nat) (s : St) (l : Wl.Lg) : Prop where
  nw : New u w b m s
  lg : LgAt w g b l
  ug : u.heap.size ≤ g
theorem Lv.up (k : Lv u w b m g s l) (h : Gr w w') : Lv u w' b m g s l := ⟨k.nw.up h, k.lg.gr h, k.ug⟩
theorem Lv.ll {s' : St} {l' : Wl.Lg} (k : Lv u w b m g s l) (h : LlR w w' b m g s' l') : Lv u w' b m g s' l' :=
  ⟨⟨h.1, k.nw.b0, k.nw.m0, T3.gr_of k.nw.gr h.2.2 k.nw.b0 k.nw.m0 k.ug⟩, h.2.1, k.ug⟩
/- the disk moves, the log does not -/
theorem Lv.far {s' : St} (k : Lv u w b m g s l) (h : FaR w w' b m s') : Lv u w' b m g s' l := by
  obtain ⟨A, hA⟩ := k.nw.at_
  exact ⟨k.nw.far h, k.lg.td hA h.2, k.ug⟩
theorem Lv.ne (k : Lv u w b m g s l) : g ≠ b ∧ g ≠ m := by
  obtain ⟨A, hA⟩ := k.nw.at_
  exact k.lg.ne hA
theorem New.blt (k : New u w b m s) : b < w.heap.size ∧ m < w.heap.size := by
  obtain ⟨A, hA⟩ := k.at_
  exact ⟨hA.lt, hA.fl.lt⟩
theorem re_z (hr : Wl.Re s l h) : 0 ≤ l.z ∧ l.z ≤ 200000 := by
  have h1 := hr.z
  have h2 := hr.at_.ok.fits
  have h3 := hr.at_.ok.r1
  rw [hr.at_.eq, Wl.used_1] at h2
  omega
/- how many bytes the disk says that the file has -/
theorem re_get (hr : Wl.Re s l h) : ((Dk.get s.L l.n).d.size : Int) = l.z := by
  rw [hr.at_.eq, hr.z]
  have := Wl.get_1 (Wl.fl l.n h)
  rw [show (Wl.fl l.n h).n = l.n from rfl] at this
  rw [this]
  show ((Wl.ct h).size : Int) = _
  rw [Wl.ct_size]
theorem did_apq {h' : Wl.Bo} {d : ByteArray} (k : Wl.Did s l h h' (Wl.apn s l d).1 (Wl.apn s l d).2.1 (Wl.apn s l d).2.2) : Wl.Did s l h h' (Wl.apn s l d).1 (Wl.apn s l d).2.1 (apq s l d) := by
  rcases k with ⟨k1, k2, k3⟩ | ⟨k1, k2, k3, k4⟩ | ⟨k1, k2, k3⟩
  · refine Or.inl ⟨k1, ?_, k3⟩
    unfold apq
    rw [if_pos k1]
    exact k2
  · refine Or.inr (Or.inl ⟨k1, k2, k3, ?_⟩)
    unfold apq Wl.tol
    rw [if_neg k1, if_neg k2]
  · exact Or.inr (Or.inr ⟨k1, k2, k3⟩)
theorem v_append (k : Lv u w b m g s l) (hT : Tab u) (hr : Wl.Re s l h) (d : ByteArray) (hd : d.size ≤ 9223372036854775807) :
    Calls Tryd.prog 5 #[ptr g, .string d] w fun e w' => ∃ E s' l', e = .returned (.int .i64 E) ∧ E = (Wl.apn s l d).1 ∧ s' = (Wl.apn s l d).2.1 ∧ Wl.Did s l h (h ++ [d.data.toList]) E s' l' ∧ Lv u w' b m g s' l' ∧ T3 w w' b m g := by
  obtain ⟨A, hA⟩ := k.nw.at_
  have hn := hr.n01
  refine (lappend_any hA k.lg (hT.gr k.nw.gr) d (by omega) (by omega) hd).mono ?_
  rintro e w' ⟨rfl, r⟩
  exact ⟨_, _, _, rfl, rfl, rfl, did_apq (Wl.apn_re hr d), k.ll r, r.2.2⟩
theorem v_turn (k : Lv u w b m g s l) (hT : Tab u) (hr : Wl.Re s l h) (d : ByteArray) (hd : d.size ≤ 9223372036854775807) :
    Calls Tryd.prog 6 #[ptr g, .string d] w fun e w' => ∃ E s' l', e = .returned (.int .i64 E) ∧ E = (Wl.trn s l d).1 ∧ s' = (Wl.trn s l d).2.1 ∧ l' = (Wl.trn s l d).2.2 ∧ Wl.Did s l h [d.data.toList] E s' l' ∧ Lv u w' b m g s' l' ∧ T3 w w' b m g := by
  obtain ⟨A, hA⟩ := k.nw.at_
  have hn := hr.n01
  refine (lturn_any hA k.lg (hT.gr k.nw.gr) d hn.1 hn.2 hd).mono ?_
  rintro e w' ⟨rfl, r⟩
  exact ⟨_, _, _, rfl, rfl, rfl, rfl, Wl.trn_re hr d, k.ll r, r.2.2⟩
theorem v_open (k : New u w b m s) (hT : Tab u) (d : ByteArray) (hds : d.size ≤ 140737488355328) :
    Calls Tryd.prog 9 #[ptr b, .string d] w fun e w' => OpI w w' b m (Wl.opn s d) e ∧ New u w' b m (Wl.opn s d).st := by
  obtain ⟨A, hA⟩ := k.at_
  refine (wopen_any hA hT k.gr k.b0 k.m0 d hds).mono ?_
  intro e w' r
  exact ⟨r, k.far r.1⟩
/- what an opening that went well has: the log, the bodies' row -/
structure Og (u w w' : World) (b m g : Nat) (s : St) (l : Wl.Lg) (h : Wl.Bo) (ab : Option Addr) : Prop where
  lv : Lv u w' b m g s l
  ro : StrsAt w' ab (h.map mkT)
  fr : ∀ p, ab = some p → w.heap.size ≤ p.block
  ng : h ≠ [] → ∀ p, ab = some p → p.block ≠ g
  gw : w.heap.size ≤ g
  td : Td w w' b m
theorem og_of {o : Wl.Op} {e : Ending} (k : New u w b m s) (r : OpI w w' b m o e) (hl : o.lg = some l) : ∃ g ab cb, e = .returned (.tuple #[ptr g, .slice ab o.bo.length cb, .int .i64 o.er]) ∧ Og u w w' b m g o.st l o.bo ab := by
  obtain ⟨r1, r2⟩ := r
  rw [hl] at r2
  obtain ⟨g, ab, cb, q1, q2, q3, q4, q5, q6⟩ := r2
  exact ⟨g, ab, cb, q1, ⟨⟨k.far r1, q3, Nat.le_trans k.gr.size q2⟩, q4, q5, q6, q2, r1.2⟩⟩
/- without falls: a log at rest -/
structure Lz (u w : World) (b m g : Nat) (s : St) (l : Wl.Lg) (h : Wl.Bo) (R : Int) (N : Int) : Prop where
  lv : Lv u w b m g s l
  re : Wl.Re s l h
  lf : s.left = 0
  rm : s.room = R
  nn : l.n = N
theorem Lz.up {R N : Int} (k : Lz u w b m g s l h R N) (q : Gr w w') : Lz u w' b m g s l h R N := ⟨k.lv.up q, k.re, k.lf, k.rm, k.nn⟩
theorem cat_more (h : Wl.Bo) (d : ByteArray) (hd : d.size ≤ 30000) : (Sl.cat 3 (h ++ [d.data.toList])).length ≤ (Sl.cat 3 h).length + d.size + 20 := by
  have h1 := fr_le hd
  rw [Wl.fr_size] at h1
  rw [Wl.cat_snoc]
  omega
theorem cat_new (d : ByteArray) (hd : d.size ≤ 30000) : (Sl.cat 3 [d.data.toList]).length ≤ d.size + 20 := by
  have h1 := fr_le hd
  rw [Wl.fr_size] at h1
  rw [Wl.cat_one]
  omega
theorem z_append {R N : Int} (k : Lz u w b m g s l h R N) (hT : Tab u) (d : ByteArray) (hd : d.size ≤ 30000) (hf : (((Sl.cat 3 h).length + d.size + 20 : Nat) : Int) ≤ R) :
    Calls Tryd.prog 5 #[ptr g, .string d] w fun e w' => ∃ s' l', e = .returned (.int .i64 0) ∧ Lz u w' b m g s' l' (h ++ [d.data.toList]) R N ∧ T3 w w' b m g := by
  have h1 := fr_le hd
  have hrm := k.rm
  have hE := Wl.apn_fit k.re k.lf hd (by omega)
  obtain ⟨A, hA⟩ := k.lv.nw.at_
  have hn := k.re.n01
  refine (lappend_any hA k.lv.lg (hT.gr k.lv.nw.gr) d (by omega) (by omega) (by omega)).mono ?_
  rintro e w' ⟨rfl, r⟩
  have hq : apq s l d = (Wl.apn s l d).2.2 := by unfold apq; rw [if_pos hE]
  have hdid := Wl.apn_re k.re d
  rw [hE] at hdid ⊢
  rcases hdid with ⟨_, q2, q3⟩ | ⟨q1, _⟩ | ⟨q1, _⟩
  · rw [hq] at r
    exact ⟨_, _, rfl, ⟨k.lv.ll r, q2, q3 k.lf, (Wl.room_apn s l d).trans k.rm, (Wl.apn_num s l d).trans k.nn⟩, r.2.2⟩
  · exact absurd rfl q1
  · exact absurd q1 (by decide)
theorem z_turn {R N : Int} (k : Lz u w b m g s l h R N) (hT : Tab u) (d : ByteArray) (hd : d.size ≤ 30000) (hN : N ≠ 1000000) (hf : (((Sl.cat 3 h).length + d.size + 20 : Nat) : Int) ≤ R) :
    Calls Tryd.prog 6 #[ptr g, .string d] w fun e w' => ∃ s' l', e = .returned (.int .i64 0) ∧ Lz u w' b m g s' l' [d.data.toList] R (N + 1) ∧ T3 w w' b m g := by
  have h1 := fr_le hd
  have hrm := k.rm
  have hE := Wl.trn_fit k.re k.lf (by rw [k.nn]; exact hN) hd (by omega)
  obtain ⟨A, hA⟩ := k.lv.nw.at_
  have hn := k.re.n01
  refine (lturn_any hA k.lv.lg (hT.gr k.lv.nw.gr) d hn.1 hn.2 (by omega)).mono ?_
  rintro e w' ⟨rfl, r⟩
  have hdid := Wl.trn_re k.re d
  have hnum := Wl.trn_num hE
  rw [hE] at hdid ⊢
  rcases hdid with ⟨_, q2, q3⟩ | ⟨q1, _⟩ | ⟨q1, _⟩
  · exact ⟨_, _, rfl, ⟨k.lv.ll r, q2, q3 k.lf, (Wl.room_trn s l d).trans k.rm, by rw [hnum, k.nn]⟩, r.2.2⟩
  · exact absurd rfl q1
  · exact absurd q1 (by decide)
/- too long: nothing is done -/
theorem z_append_no {R N : Int} (k : Lz u w b m g s l h R N) (hT : Tab u) (d : ByteArray) (hd : ¬ d.size ≤ 30000) (hm : d.size ≤ 9223372036854775807) :
    Calls Tryd.prog 5 #[ptr g, .string d] w fun e w' => e = .returned (.int .i64 3) ∧ Lz u w' b m g s l h R N ∧ T3 w w' b m g := by
  obtain ⟨A, hA⟩ := k.lv.nw.at_
  have hn := k.re.n01
  refine (lappend_any hA k.lv.lg (hT.gr k.lv.nw.gr) d (by omega) (by omega) (by omega)).mono ?_
  obtain ⟨q1, q2⟩ := apn_big (s := s) (l := l) (d := d) k.re.br hd
  rw [q1, q2]
  rintro e w' ⟨rfl, r⟩
  exact ⟨rfl, ⟨k.lv.ll r, k.re, k.lf, k.rm, k.nn⟩, r.2.2⟩
theorem z_turn_no {R N : Int} (k : Lz u w b m g s l h R N) (hT : Tab u) (d : ByteArray) (hd : ¬ d.size ≤ 30000) (hN : N ≠ 1000000) (hm : d.size ≤ 9223372036854775807) :
    Calls Tryd.prog 6 #[ptr g, .string d] w fun e w' => e = .returned (.int .i64 3) ∧ Lz u w' b m g s l h R N ∧ T3 w w' b m g := by
  obtain ⟨A, hA⟩ := k.lv.nw.at_
  have hn := k.re.n01
  refine (lturn_any hA k.lv.lg (hT.gr k.lv.nw.gr) d hn.1 hn.2 (by omega)).mono ?_
  have q1 : Wl.trn s l d = (3, s, l) := by
    have hb : Wl.beg s (l.n + 1) d = (0, 3, s) := by unfold Wl.beg; rw [if_neg hd]
    rw [trn_no k.re.br (by rw [k.nn]; exact hN) (by rw [hb]; intro e; cases e), hb]
    rfl
  rw [q1]
  rintro e w' ⟨rfl, r⟩
  exact ⟨rfl, ⟨k.lv.ll r, k.re, k.lf, k.rm, k.nn⟩, r.2.2⟩
/- opened again at rest -/
theorem z_open {R N : Int} (k : Lz u w b m g s l h R N) (hT : Tab u) (d : ByteArray) (hds : d.size ≤ 140737488355328) :
    Calls Tryd.prog 9 #[ptr b, .string d] w fun e w' => ∃ g' ab cb, e = .returned (.tuple #[ptr g', .slice ab h.length cb, .int .i64 0]) ∧ Og u w w' b m g' s l h ab ∧ Lz u w' b m g s l h R N ∧ Lz u w' b m g' s l h R N := by
  refine (v_open k.lv.nw hT d hds).mono ?_
  rw [Wl.opn_rest k.re d]
  rintro e w' ⟨r, r2⟩
  obtain ⟨g', ab, cb, q1, q2⟩ := og_of k.lv.nw r rfl
  exact ⟨g', ab, cb, q1, q2, ⟨k.lv.far ⟨r2.at_, q2.td⟩, k.re, k.lf, k.rm, k.nn⟩, ⟨q2.lv, k.re, k.lf, k.rm, k.nn⟩⟩
theorem opn_fit {d : ByteArray} (hs : Wl.At s []) (hl : s.left = 0) (hd : d.size ≤ 30000) (hf : ((d.size + 20 : Nat) : Int) ≤ s.room) : ∃ l, (Wl.opn s d).lg = some l ∧ (Wl.opn s d).bo = [d.data.toList] ∧ (Wl.opn s d).er = 0 ∧ Wl.Re (Wl.opn s d).st l [d.data.toList] ∧ (Wl.opn s d).st.left = 0 ∧ l.n = 1 := by
  have h1 := fr_le hd
  rcases Wl.opn_new hs hl d hd with ⟨_, _, h3⟩ | h3
  · exfalso
    have hlk : Sg.look s.L = ⟨-1, 0, [], [], 0⟩ := by rw [hs.eq]; rfl
    rw [opn_none' hs.up (by rw [hlk]) (by rw [hlk]), hlk] at h3
    have hal : alnE s 1 d [] = layE s 1 (Wl.fr d) := by
      unfold alnE
      rw [show Wl.drp s [] = (0, s) from rfl, if_pos rfl, (beg_ok hd s 1).1]
    simp only at h3
    rw [hal] at h3
    have hne := Wl.app_full hs (n := 1) (d := Wl.fr d) (by omega) (by omega) (by simp) (by simp [Dk.used]; omega)
    unfold layE at h3
    rcases Wl.app_or hs (n := 1) (by omega) (by omega) (Wl.fr_ne d) with ⟨a1, a2⟩ | ⟨a1, a2, a3, _⟩ | ⟨a1, a2, a3⟩
    · exact hne a1
    · rw [if_pos a1] at h3
      rcases Wl.step_or a2 (q := 1) (n := 1) (k := 0) (Dk.has_of (f := Dk.ext [] 1 (Wl.fr d)) (Dk.self_ins _ _)) (by omega) with ⟨q1, _⟩ | ⟨q1, _⟩
      · rw [q1, if_pos rfl] at h3; cases h3
      · rw [q1, if_neg (by decide)] at h3; cases h3
    · rw [a1, if_neg (show ¬ ((150 : Int) = 0) by decide), if_neg (by decide)] at h3; cases h3
  · exact h3
/- a new disk, and its log -/
theorem at_new {R : Int} (h0 : 0 ≤ R) (h1 : R ≤ 200000) : Wl.At (Dk.new R []) [] := ⟨rfl, rfl, Ok.new h0 h1⟩
theorem z_first {R : Int} (h0 : 0 ≤ R) (h1 : R ≤ 200000) (k : New u w b m (Dk.new R [])) (hT : Tab u) (d : ByteArray) (hd : d.size ≤ 30000) (hf : ((d.size + 20 : Nat) : Int) ≤ R) :
    Calls Tryd.prog 9 #[ptr b, .string d] w fun e w' => ∃ g ab cb s l, e = .returned (.tuple #[ptr g, .slice ab 1 cb, .int .i64 0]) ∧ Og u w w' b m g s l [d.data.toList] ab ∧ Lz u w' b m g s l [d.data.toList] R 1 := by
  refine (v_open k hT d (by omega)).mono ?_
  rintro e w' ⟨r, r2⟩
  obtain ⟨l, q1, q2, q3, q4, q5, q6⟩ := opn_fit (at_new h0 h1) rfl hd hf
  obtain ⟨g, ab, cb, q7, q8⟩ := og_of k r q1
  have hrm := Wl.room_opn (Dk.new R []) d
  rw [q2, q3] at q7
  rw [q2] at q8
  exact ⟨g, ab, cb, _, l, q7, q8, q8.lv, q4, q5, hrm, q6⟩
end Go.Proofs.YtojmhhmpmpbpfaaDoor
