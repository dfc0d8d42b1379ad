/- Parts of these proofs, laid together. -/
import Derived.Test.YtcmbppjfpdkblaaGreatDoorGA
import Derived.Test.YtcmbppjfpdkblaaGreatDoorGB
import Derived.Test.YtcmbppjfpdkblaaGreatDoorGJ
import Derived.Test.YtcmbppjfpdkblaaGreatDoorGC
import Derived.Test.YtcmbppjfpdkblaaGreatDoorGI
import Derived.Laws.NewBlocks
/- Plain mathematics of notes and frames: which may be, their ends, their bytes, what is read of bytes. -/
namespace Go.Proofs.YtcmbppjfpdkblaaGreatDoor

/- a note: kind, the id's root, number and hops, definition, reason -/
structure Nt where
  k : Int
  r : Int
  n : Int
  L : List (Int × Int)
  d : ByteArray
  y : Int
/- a frame: from, to, epoch, number, epoch and number of the answer, note -/
structure Fm where
  f : Int
  t : Int
  e : Int
  s : Int
  a : Int
  c : Int
  n : Nt
namespace Nt
def zeroN : Nt := ⟨0, 0, 0, [], ⟨#[]⟩, 0⟩
def zeroF : Fm := ⟨0, 0, 0, 0, 0, 0, zeroN⟩
def inB (n l h : Int) : Bool := decide (l ≤ n) && decide (n ≤ h)
def chB (x : Nt) : Bool := Idn.mayB x.r x.n x.L && decide (0 < x.L.length)
def dfB (x : Nt) : Bool := if x.k = 1 then Act.nameB x.d else decide (x.d = ⟨#[]⟩)
def wyB (x : Nt) : Bool := if x.k = 6 then inB x.y 1 9 else decide (x.y = 0)
def ntB (x : Nt) : Bool := inB x.k 1 7 && chB x && dfB x && wyB x
def ckE (x : Nt) : Int := if ntB x = true then 0 else 130
def upO (x : Nt) : Int := (Idn.path x.r x.L.dropLast).getLastD (-1)
def dnO (x : Nt) : Int := (Idn.path x.r x.L).getLastD (-1)
def ends1 (x : Nt) : Int := if ntB x = true then (if x.k ≤ 4 then upO x else dnO x) else -1
def ends2 (x : Nt) : Int := if ntB x = true then (if x.k ≤ 4 then dnO x else upO x) else -1
def emB (x : Nt) : Bool := decide (x.k = 0) && decide (x.r = 0) && decide (x.n = 0) && decide (x.L.length = 0) && decide (x.d = ⟨#[]⟩) && decide (x.y = 0)
def cnB (f : Fm) : Bool := inB f.e 1 1000000000 && inB f.s 0 1000000000 && inB f.a 0 1000000000 && inB f.c 0 1000000000
def fnB (f : Fm) : Bool := if f.s = 0 then emB f.n else ntB f.n && decide (ends1 f.n = f.f) && decide (ends2 f.n = f.t)
def frB (f : Fm) : Bool := inB f.f 0 15 && inB f.t 0 15 && decide (f.f ≠ f.t) && cnB f && fnB f
def frE (f : Fm) : Int := if frB f = true then 0 else 130

/- bytes -/
def nm (z : Int) : List UInt8 := Pk.num z.toNat
def bdN (x : Nt) : List UInt8 := nm x.k ++ Pk.text (Idn.showT x.r x.n x.L) ++ Pk.text x.d.data.toList ++ nm x.y
def bd6 (f : Fm) : List UInt8 := nm f.f ++ nm f.t ++ nm f.e ++ nm f.s ++ nm f.a ++ nm f.c
def bd (f : Fm) : List UInt8 := bd6 f ++ (if f.s = 0 then [] else bdN f.n)
def encL (f : Fm) : List UInt8 := if frB f = true then Sl.frame 1 (bd f) else []

/- the kinds' words -/
def wordL (k : Int) : List UInt8 :=
  if k = 1 then [111, 102, 102, 101, 114] else if k = 2 then [114, 101, 110, 101, 119] else if k = 3 then [99, 111, 109, 109, 105, 116] else if k = 4 then [117, 110, 100, 111] else if k = 5 then [104, 101, 108, 100] else if k = 6 then [103, 111, 110, 101] else [107, 101, 112, 116]
def shL (x : Nt) : List UInt8 := if ntB x = true then wordL x.k ++ [32] ++ Idn.showT x.r x.n x.L ++ (if x.k = 1 then [32] ++ x.d.data.toList else if x.k = 6 then [32] ++ Lib.decDigits x.y.toNat else []) else []

/- where a reader stands: the place, and whether it is stuck -/
structure Rs where
  p : Nat
  b : Bool
def nv (l : List UInt8) (q : Rs) : Int := if q.b = true then 0 else if 1000000000 < (Pk.takeNum l q.p).1 then 0 else ((Pk.takeNum l q.p).1 : Int)
def ns (l : List UInt8) (q : Rs) : Rs := if q.b = true then q else ⟨if (Pk.takeNum l q.p).2.2 = 0 then (Pk.takeNum l q.p).2.1 else q.p, decide (¬ (Pk.takeNum l q.p).2.2 = 0) || decide (1000000000 < (Pk.takeNum l q.p).1)⟩
def tv (l : List UInt8) (q : Rs) : List UInt8 := if q.b = true then [] else (Pk.takeText l q.p).1
def ts (l : List UInt8) (q : Rs) : Rs := if q.b = true then q else ⟨if (Pk.takeText l q.p).2.2 = 0 then (Pk.takeText l q.p).2.1 else q.p, decide (¬ (Pk.takeText l q.p).2.2 = 0)⟩
def ivR (l : List UInt8) (q : Rs) : Int := if parB (tv l q) = true then (readR (tv l q)).1 else 0
def ivN (l : List UInt8) (q : Rs) : Int := if parB (tv l q) = true then (readR (tv l q)).2 else 0
def ivL (l : List UInt8) (q : Rs) : List (Int × Int) := if parB (tv l q) = true then readL (tv l q) else []
def is (l : List UInt8) (q : Rs) : Rs := ⟨(ts l q).p, (ts l q).b || !parB (tv l q)⟩
/- the places of a reader, one behind the other -/
def q0 : Rs := ⟨0, false⟩
def q1 (l : List UInt8) : Rs := ns l q0
def q2 (l : List UInt8) : Rs := ns l (q1 l)
def q3 (l : List UInt8) : Rs := ns l (q2 l)
def q4 (l : List UInt8) : Rs := ns l (q3 l)
def q5 (l : List UInt8) : Rs := ns l (q4 l)
def q6 (l : List UInt8) : Rs := ns l (q5 l)
def q7 (l : List UInt8) : Rs := ns l (q6 l)
def q8 (l : List UInt8) : Rs := is l (q7 l)
def q9 (l : List UInt8) : Rs := ts l (q8 l)
def qz (l : List UInt8) : Rs := ns l (q9 l)
def rdN (l : List UInt8) : Nt := if nv l (q3 l) = 0 then zeroN else ⟨nv l (q6 l), ivR l (q7 l), ivN l (q7 l), ivL l (q7 l), ⟨(tv l (q8 l)).toArray⟩, nv l (q9 l)⟩
def rdF (l : List UInt8) : Fm := ⟨nv l q0, nv l (q1 l), nv l (q2 l), nv l (q3 l), nv l (q4 l), nv l (q5 l), rdN l⟩
def rdQ (l : List UInt8) : Rs := if nv l (q3 l) = 0 then q6 l else qz l
def overB (l : List UInt8) (q : Rs) : Bool := !q.b && decide (q.p = l.length)
/- what Decode answers -/
def dcB (s : List UInt8) : Bool := decide ((Sl.openE s 0 1).2.1 = s.length) && overB (Sl.openE s 0 1).1 (rdQ (Sl.openE s 0 1).1) && frB (rdF (Sl.openE s 0 1).1)
def dcF (s : List UInt8) : Fm := if (Sl.openE s 0 1).2.2 = 0 ∧ dcB s = true then rdF (Sl.openE s 0 1).1 else zeroF
def dcE (s : List UInt8) : Int := if (Sl.openE s 0 1).2.2 = 0 then (if dcB s = true then 0 else 130) else ((Sl.openE s 0 1).2.2 : Int)

theorem inB_iff {n l h : Int} : inB n l h = true ↔ l ≤ n ∧ n ≤ h := by unfold inB; simp

/- what is taken, laid, is what it was taken from -/
theorem ns_stuck (l : List UInt8) (q : Rs) (h : (ns l q).b = false) : q.b = false := by
  cases hb : q.b with
  | false => rfl
  | true => unfold ns at h; rw [if_pos hb, hb] at h; exact h
theorem ts_stuck (l : List UInt8) (q : Rs) (h : (ts l q).b = false) : q.b = false := by
  cases hb : q.b with
  | false => rfl
  | true => unfold ts at h; rw [if_pos hb, hb] at h; exact h
theorem ns_form (l : List UInt8) (q : Rs) (h : (ns l q).b = false) : 0 ≤ nv l q ∧ nv l q ≤ 1000000000 ∧ l.take (ns l q).p = l.take q.p ++ nm (nv l q) ∧ (ns l q).p ≤ l.length := by
  have hq := ns_stuck l q h
  unfold ns nv at *
  rw [if_neg (by simp [hq])] at h ⊢
  simp only [if_neg (show ¬ q.b = true by simp [hq])]
  simp only [Bool.or_eq_false_iff, decide_eq_false_iff_not, Decidable.not_not] at h
  obtain ⟨h1, h2⟩ := h
  rw [if_neg h2]
  simp only [h1, if_true]
  have hf := Pk.takeNum_form l q.p (Pk.takeNum l q.p).1 (Pk.takeNum l q.p).2.1 (by rw [← h1])
  refine ⟨by omega, by omega, ?_, hf.2.1⟩
  rw [hf.2.2.2]
  unfold nm
  rw [Int.toNat_natCast]
theorem ts_form (l : List UInt8) (q : Rs) (h : (ts l q).b = false) : l.take (ts l q).p = l.take q.p ++ Pk.text (tv l q) ∧ (ts l q).p ≤ l.length := by
  have hq := ts_stuck l q h
  unfold ts tv at *
  rw [if_neg (by simp [hq])] at h ⊢
  simp only [if_neg (show ¬ q.b = true by simp [hq])]
  simp only [decide_eq_false_iff_not, Decidable.not_not] at h
  simp only [h, if_true]
  have hf := Pk.takeText_form l (Pk.takeText l q.p).1 q.p (Pk.takeText l q.p).2.1 (by rw [← h])
  exact ⟨hf.2.2, hf.2.1⟩
theorem is_form (l : List UInt8) (q : Rs) (h : (is l q).b = false) : parB (tv l q) = true ∧ Idn.showT (ivR l q) (ivN l q) (ivL l q) = tv l q ∧ l.take (is l q).p = l.take q.p ++ Pk.text (Idn.showT (ivR l q) (ivN l q) (ivL l q)) ∧ (ts l q).b = false := by
  unfold is at h ⊢
  simp only [Bool.or_eq_false_iff, Bool.not_eq_false'] at h
  obtain ⟨h1, h2⟩ := h
  have hs : Idn.showT (ivR l q) (ivN l q) (ivL l q) = tv l q := by
    unfold ivR ivN ivL
    rw [if_pos h2, if_pos h2, if_pos h2]
    have h3 := h2
    unfold parB at h3
    simp only [Bool.and_eq_true, decide_eq_true_eq] at h3
    exact h3.2
  refine ⟨h2, hs, ?_, h1⟩
  rw [hs]
  exact (ts_form l q h1).1
theorem rd_form (l : List UInt8) (h : overB l (rdQ l) = true) : bd (rdF l) = l := by
  unfold overB at h
  simp only [Bool.and_eq_true, Bool.not_eq_true', decide_eq_true_eq] at h
  obtain ⟨hb, hp⟩ := h
  have hl : l.take (rdQ l).p = l := by rw [hp]; exact List.take_length
  have six : (q6 l).b = false → l.take (q6 l).p = bd6 (rdF l) := by
    intro h6
    have f6 := ns_form l (q5 l) h6
    have h5 := ns_stuck l (q5 l) h6
    have f5 := ns_form l (q4 l) h5
    have h4 := ns_stuck l (q4 l) h5
    have f4 := ns_form l (q3 l) h4
    have h3 := ns_stuck l (q3 l) h4
    have f3 := ns_form l (q2 l) h3
    have h2 := ns_stuck l (q2 l) h3
    have f2 := ns_form l (q1 l) h2
    have h1 := ns_stuck l (q1 l) h2
    have f1 := ns_form l q0 h1
    have e1 : l.take (q1 l).p = nm (nv l q0) := by
      have := f1.2.2.1
      rw [show q0.p = 0 from rfl, List.take_zero, List.nil_append] at this
      exact this
    have e2 : l.take (q2 l).p = _ := f2.2.2.1
    have e3 : l.take (q3 l).p = _ := f3.2.2.1
    have e4 : l.take (q4 l).p = _ := f4.2.2.1
    have e5 : l.take (q5 l).p = _ := f5.2.2.1
    have e6 : l.take (q6 l).p = _ := f6.2.2.1
    rw [e6, e5, e4, e3, e2, e1]
    rfl
  unfold bd
  by_cases hz : nv l (q3 l) = 0
  · have hq : rdQ l = q6 l := by unfold rdQ; rw [if_pos hz]
    rw [hq] at hb hl
    rw [if_pos (show (rdF l).s = 0 from hz), List.append_nil, ← six hb, hl]
  · have hq : rdQ l = qz l := by unfold rdQ; rw [if_neg hz]
    rw [hq] at hb hl
    have fz := ns_form l (q9 l) hb
    have h9 := ns_stuck l (q9 l) hb
    have f9 := ts_form l (q8 l) h9
    have h8 := ts_stuck l (q8 l) h9
    have f8 := is_form l (q7 l) h8
    have h7 := ts_stuck l (q7 l) f8.2.2.2
    have f7 := ns_form l (q6 l) h7
    have h6 := ns_stuck l (q6 l) h7
    have e7 : l.take (q7 l).p = _ := f7.2.2.1
    have e8 : l.take (q8 l).p = _ := f8.2.2.1
    have e9 : l.take (q9 l).p = _ := f9.1
    have ez : l.take (qz l).p = _ := fz.2.2.1
    rw [e9, e8, e7, six h6] at ez
    rw [if_neg (show ¬ (rdF l).s = 0 from hz)]
    have hn : (rdF l).n = ⟨nv l (q6 l), ivR l (q7 l), ivN l (q7 l), ivL l (q7 l), ⟨(tv l (q8 l)).toArray⟩, nv l (q9 l)⟩ := by
      show rdN l = _
      unfold rdN; rw [if_neg hz]
    rw [hn]
    refine Eq.trans ?_ (ez.symm.trans hl)
    simp [bdN]

/- what was laid is read again -/
theorem ns_at (A R l : List UInt8) (z : Int) (q : Rs) (hl : l = A ++ (nm z ++ R)) (hq : q = ⟨A.length, false⟩) (h0 : 0 ≤ z) (h1 : z ≤ 1000000000) : nv l q = z ∧ ns l q = ⟨(A ++ nm z).length, false⟩ := by
  subst hq
  have ht := Pk.takeNum_at A R z.toNat (by omega)
  unfold nm at hl
  rw [← hl] at ht
  unfold nv ns
  simp only [ht]
  refine ⟨?_, ?_⟩
  · simp; omega
  · simp [nm]; omega
theorem ts_at (A R l t : List UInt8) (q : Rs) (hl : l = A ++ (Pk.text t ++ R)) (hq : q = ⟨A.length, false⟩) (ht : t.length ≤ 1000000) : tv l q = t ∧ ts l q = ⟨(A ++ Pk.text t).length, false⟩ := by
  subst hq
  have h := Pk.takeText_at A R t (by omega)
  rw [← hl] at h
  unfold tv ts
  simp only [h]
  simp
theorem is_at (A R l : List UInt8) (r n : Int) (L : List (Int × Int)) (q : Rs) (hl : l = A ++ (Pk.text (Idn.showT r n L) ++ R)) (hq : q = ⟨A.length, false⟩) (hm : Idn.mayB r n L = true) :
    ivR l q = r ∧ ivN l q = n ∧ ivL l q = L ∧ is l q = ⟨(A ++ Pk.text (Idn.showT r n L)).length, false⟩ := by
  obtain ⟨m1, m2, m3, m4, m5, m6⟩ := may_root hm
  have hlen := show_len r n L m1 m2 m3 m4 m6
  obtain ⟨e1, e2⟩ := ts_at A R l (Idn.showT r n L) q hl hq (by omega)
  have hp := par_show r n L hm
  obtain ⟨g1, g2⟩ := read_show r n L hm
  unfold ivR ivN ivL is
  rw [e1, e2, if_pos hp, if_pos hp, if_pos hp, g1, g2, hp]
  exact ⟨rfl, rfl, rfl, rfl⟩
theorem may_note {x : Nt} (h : ntB x = true) : (1 ≤ x.k ∧ x.k ≤ 7) ∧ Idn.mayB x.r x.n x.L = true ∧ 0 < x.L.length ∧ dfB x = true ∧ wyB x = true := by
  unfold ntB chB at h
  simp only [Bool.and_eq_true, decide_eq_true_eq, inB_iff] at h
  exact ⟨h.1.1.1, h.1.1.2.1, h.1.1.2.2, h.1.2, h.2⟩
theorem may_def {x : Nt} (h : dfB x = true) : x.d.size ≤ 16 := by
  unfold dfB at h
  split at h
  · exact (Act.name_pos h).2
  · have := of_decide_eq_true h
    rw [this]; decide
theorem may_why {x : Nt} (h : wyB x = true) : 0 ≤ x.y ∧ x.y ≤ 9 := by
  unfold wyB at h
  split at h
  · have := inB_iff.1 h; omega
  · have := of_decide_eq_true h; omega
theorem may_frame {f : Fm} (h : frB f = true) : (0 ≤ f.f ∧ f.f ≤ 15) ∧ (0 ≤ f.t ∧ f.t ≤ 15) ∧ f.f ≠ f.t ∧ (1 ≤ f.e ∧ f.e ≤ 1000000000) ∧ (0 ≤ f.s ∧ f.s ≤ 1000000000) ∧ (0 ≤ f.a ∧ f.a ≤ 1000000000) ∧ (0 ≤ f.c ∧ f.c ≤ 1000000000) ∧ fnB f = true := by
  unfold frB cnB at h
  simp only [Bool.and_eq_true, decide_eq_true_eq, inB_iff] at h
  exact ⟨h.1.1.1.1, h.1.1.1.2, h.1.1.2, h.1.2.1.1.1, h.1.2.1.1.2, h.1.2.1.2, h.1.2.2, h.2⟩
theorem em_zero {x : Nt} (h : emB x = true) : x = zeroN := by
  unfold emB at h
  simp only [Bool.and_eq_true, decide_eq_true_eq] at h
  obtain ⟨k, r, n, L, d, y⟩ := x
  simp only at h
  obtain ⟨⟨⟨⟨⟨rfl, rfl⟩, rfl⟩, hl⟩, rfl⟩, rfl⟩ := h
  rw [List.length_eq_zero_iff.1 hl]; rfl
theorem fn_note {f : Fm} (h : fnB f = true) (hs : ¬ f.s = 0) : ntB f.n = true ∧ ends1 f.n = f.f ∧ ends2 f.n = f.t := by
  unfold fnB at h
  rw [if_neg hs] at h
  simp only [Bool.and_eq_true, decide_eq_true_eq] at h
  exact ⟨h.1.1, h.1.2, h.2⟩
theorem rd_back (f : Fm) (h : frB f = true) : rdF (bd f) = f ∧ overB (bd f) (rdQ (bd f)) = true := by
  obtain ⟨hf, ht, _, he, hs, ha, hc, hn⟩ := may_frame h
  obtain ⟨X, hX⟩ : ∃ X, X = (if f.s = 0 then [] else bdN f.n) := ⟨_, rfl⟩
  have hl : bd f = bd6 f ++ X := by rw [hX]; rfl
  generalize bd f = l at *
  unfold bd6 at hl
  obtain ⟨v0, s0⟩ := ns_at [] (nm f.t ++ nm f.e ++ nm f.s ++ nm f.a ++ nm f.c ++ X) l f.f q0 (by rw [hl]; simp) rfl hf.1 (by omega)
  have s0 : q1 l = _ := s0
  obtain ⟨v1, s1⟩ := ns_at ([] ++ nm f.f) (nm f.e ++ nm f.s ++ nm f.a ++ nm f.c ++ X) l f.t (q1 l) (by rw [hl]; simp) s0 ht.1 (by omega)
  have s1 : q2 l = _ := s1
  obtain ⟨v2, s2⟩ := ns_at ([] ++ nm f.f ++ nm f.t) (nm f.s ++ nm f.a ++ nm f.c ++ X) l f.e (q2 l) (by rw [hl]; simp) s1 (by omega) he.2
  have s2 : q3 l = _ := s2
  obtain ⟨v3, s3⟩ := ns_at ([] ++ nm f.f ++ nm f.t ++ nm f.e) (nm f.a ++ nm f.c ++ X) l f.s (q3 l) (by rw [hl]; simp) s2 hs.1 hs.2
  have s3 : q4 l = _ := s3
  obtain ⟨v4, s4⟩ := ns_at ([] ++ nm f.f ++ nm f.t ++ nm f.e ++ nm f.s) (nm f.c ++ X) l f.a (q4 l) (by rw [hl]; simp) s3 ha.1 ha.2
  have s4 : q5 l = _ := s4
  obtain ⟨v5, s5⟩ := ns_at ([] ++ nm f.f ++ nm f.t ++ nm f.e ++ nm f.s ++ nm f.a) X l f.c (q5 l) (by rw [hl]; simp) s4 hc.1 hc.2
  have s5 : q6 l = _ := s5
  by_cases hz : f.s = 0
  · rw [if_pos hz] at hX
    have hq : rdQ l = q6 l := by unfold rdQ; rw [v3, if_pos hz]
    have hr : rdN l = zeroN := by unfold rdN; rw [v3, if_pos hz]
    unfold fnB at hn
    rw [if_pos hz] at hn
    have := em_zero hn
    refine ⟨?_, ?_⟩
    · unfold rdF
      rw [v0, v1, v2, v3, v4, v5, hr, ← this]
    · rw [hq, s5]
      unfold overB
      subst hX
      rw [hl]; simp
  · rw [if_neg hz] at hX
    obtain ⟨hnt, _, _⟩ := fn_note hn hz
    obtain ⟨hk, hm, hL, hd, hy⟩ := may_note hnt
    have hdl := may_def hd
    have hyl := may_why hy
    generalize hx : f.n = x at *
    obtain ⟨A6, hA6⟩ : ∃ A, A = [] ++ nm f.f ++ nm f.t ++ nm f.e ++ nm f.s ++ nm f.a ++ nm f.c := ⟨_, rfl⟩
    rw [← hA6] at s5
    have hl' : l = A6 ++ X := by rw [hl, hA6]; simp
    unfold bdN at hX
    obtain ⟨v6, s6⟩ := ns_at A6 (Pk.text (Idn.showT x.r x.n x.L) ++ Pk.text x.d.data.toList ++ nm x.y) l x.k (q6 l) (by rw [hl', hX]; simp) s5 (by omega) (by omega)
    have s6 : q7 l = _ := s6
    obtain ⟨i1, i2, i3, s7⟩ := is_at (A6 ++ nm x.k) (Pk.text x.d.data.toList ++ nm x.y) l x.r x.n x.L (q7 l) (by rw [hl', hX]; simp) s6 hm
    have s7 : q8 l = _ := s7
    have hsz : x.d.data.toList.length = x.d.size := by simp
    obtain ⟨v8, s8⟩ := ts_at (A6 ++ nm x.k ++ Pk.text (Idn.showT x.r x.n x.L)) (nm x.y) l x.d.data.toList (q8 l) (by rw [hl', hX]; simp) s7 (by omega)
    have s8 : q9 l = _ := s8
    obtain ⟨v9, s9⟩ := ns_at (A6 ++ nm x.k ++ Pk.text (Idn.showT x.r x.n x.L) ++ Pk.text x.d.data.toList) [] l x.y (q9 l) (by rw [hl', hX]; simp) s8 hyl.1 (by omega)
    have s9 : qz l = _ := s9
    have hq : rdQ l = qz l := by unfold rdQ; rw [v3, if_neg hz]
    have hr : rdN l = x := by
      unfold rdN
      rw [v3, if_neg hz, v6, i1, i2, i3, v8, v9]
    refine ⟨?_, ?_⟩
    · unfold rdF
      rw [v0, v1, v2, v3, v4, v5, hr, ← hx]
    · rw [hq, s9]
      unfold overB
      rw [hl', hX]; simp

theorem num_le (z : Int) : (nm z).length ≤ 10 := (Pk.num_len z.toNat).2
theorem text_le (t : List UInt8) : (Pk.text t).length ≤ 10 + t.length := by
  unfold Pk.text
  rw [List.length_append]
  have := (Pk.num_len t.length).2
  omega
theorem bdN_len (x : Nt) (h : ntB x = true) : (bdN x).length ≤ 200 := by
  obtain ⟨hk, hm, hL, hd, hy⟩ := may_note h
  obtain ⟨m1, m2, m3, m4, m5, m6⟩ := may_root hm
  have h1 := show_len x.r x.n x.L m1 m2 m3 m4 m6
  have h2 := may_def hd
  have hsz : x.d.data.toList.length = x.d.size := by simp
  have a := num_le x.k
  have b := num_le x.y
  have c := text_le (Idn.showT x.r x.n x.L)
  have d := text_le x.d.data.toList
  unfold bdN
  simp only [List.length_append]
  omega
theorem bd_len (f : Fm) (h : frB f = true) : (bd f).length ≤ 300 := by
  obtain ⟨_, _, _, _, _, _, _, hn⟩ := may_frame h
  unfold bd bd6
  simp only [List.length_append]
  have a1 := num_le f.f
  have a2 := num_le f.t
  have a3 := num_le f.e
  have a4 := num_le f.s
  have a5 := num_le f.a
  have a6 := num_le f.c
  split
  · simp; omega
  · next hz =>
    have := bdN_len f.n (fn_note hn hz).1
    omega

/- sealed and opened -/
theorem open_enc (f : Fm) (h : frB f = true) : Sl.openE (encL f) 0 1 = (bd f, (encL f).length, 0) := by
  have := Sl.open_whole [] [] (bd f) 1 (by decide) (by have := bd_len f h; omega)
  unfold encL
  rw [if_pos h]
  simpa using this
theorem dec_enc (f : Fm) (h : frB f = true) : dcF (encL f) = f ∧ dcE (encL f) = 0 := by
  obtain ⟨r1, r2⟩ := rd_back f h
  have ho := open_enc f h
  have hb : dcB (encL f) = true := by
    unfold dcB
    rw [ho]
    simp only
    rw [r1, r2, h]; simp
  unfold dcF dcE
  rw [ho]
  simp only [hb]
  simpa using r1
theorem dec_form (s : List UInt8) (h : dcE s = 0) : frB (dcF s) = true ∧ encL (dcF s) = s := by
  unfold dcE at h
  split at h
  · next h0 =>
    split at h
    · next hb =>
      have hf : dcF s = rdF (Sl.openE s 0 1).1 := by unfold dcF; rw [if_pos ⟨h0, hb⟩]
      unfold dcB at hb
      simp only [Bool.and_eq_true, decide_eq_true_eq] at hb
      obtain ⟨⟨h1, h2⟩, h3⟩ := hb
      rw [hf]
      refine ⟨h3, ?_⟩
      have hbd := rd_form _ h2
      have ho := Sl.open_form s 0 1 (Sl.openE s 0 1).1 (Sl.openE s 0 1).2.1 (show Sl.openE s 0 1 = _ from Prod.ext rfl (Prod.ext rfl h0))
      unfold encL
      rw [if_pos h3, hbd]
      have h6 := ho.2.2.2.2.2
      rw [h1] at h6
      simpa using h6.symm
    · cases h
  · next h0 => exact absurd (by omega) h0
theorem dec_zero (s : List UInt8) (h : ¬ dcE s = 0) : dcF s = zeroF := by
  unfold dcF
  rw [if_neg]
  rintro ⟨h0, hb⟩
  apply h
  unfold dcE
  rw [if_pos h0, if_pos hb]

/- the document's numbers, one behind the other -/
def rnL (l : List UInt8) : Nat → Nat → List Int
  | 0, _ => []
  | m + 1, p => ((Pk.takeNum l p).1 : Int) :: rnL l m (Pk.takeNum l p).2.1
def rnP (l : List UInt8) : Nat → Nat → Nat
  | 0, p => p
  | m + 1, p => rnP l m (Pk.takeNum l p).2.1
def rnB (l : List UInt8) : Nat → Nat → Bool
  | 0, _ => true
  | m + 1, p => decide ((Pk.takeNum l p).2.2 = 0) && decide ((Pk.takeNum l p).1 ≤ 1000000000) && rnB l m (Pk.takeNum l p).2.1
theorem rn_len (l : List UInt8) (m : Nat) : ∀ p, (rnL l m p).length = m := by
  induction m with
  | zero => intro p; rfl
  | succ m ih => intro p; simp [rnL, ih]
theorem rn_at (l : List UInt8) (zs : List Int) : ∀ (A R : List UInt8) (p : Nat), l = A ++ (zs.flatMap nm ++ R) → p = A.length → (∀ z ∈ zs, 0 ≤ z ∧ z ≤ 1000000000) →
    rnL l zs.length p = zs ∧ rnP l zs.length p = (A ++ zs.flatMap nm).length ∧ rnB l zs.length p = true := by
  induction zs with
  | nil => intro A R p hl hp _; subst hp; simp [rnL, rnP, rnB]
  | cons z zs ih =>
    intro A R p hl hp hz
    have h0 := hz z (by simp)
    have ht := Pk.takeNum_at A (zs.flatMap nm ++ R) z.toNat (by omega)
    have hl2 : l = A ++ (Pk.num z.toNat ++ (zs.flatMap nm ++ R)) := by rw [hl]; simp [nm]
    rw [← hl2, ← hp] at ht
    obtain ⟨i1, i2, i3⟩ := ih (A ++ nm z) R (p + (Pk.num z.toNat).length) (by rw [hl2]; simp [nm]) (by rw [hp]; simp [nm]) (fun y hy => hz y (by simp [hy]))
    simp only [List.length_cons, rnL, rnP, rnB, ht]
    rw [i1, i2, i3]
    refine ⟨?_, ?_, ?_⟩
    · congr 1; omega
    · simp [nm]
    · simp; omega

/- what the document reads of a body: is there something, and what -/
def rfS (l : List UInt8) : Int := (rnL l 6 0).getD 3 0
def rfp (l : List UInt8) : Nat := rnP l 6 0
def rfk (l : List UInt8) : Nat := if rnB l 1 (rfp l) = true then rnP l 1 (rfp l) else 0
def rfi (l : List UInt8) : List UInt8 × Nat × Nat := Pk.takeText l (rfk l)
def rfd (l : List UInt8) : List UInt8 × Nat × Nat := Pk.takeText l (rfi l).2.1
def rfB (l : List UInt8) : Bool := rnB l 6 0 && (decide (rfS l = 0) || (rnB l 1 (rfp l) && decide ((rfi l).2.2 = 0) && parB (rfi l).1 && decide ((rfd l).2.2 = 0) && rnB l 1 (rfd l).2.1))
def rfN (l : List UInt8) : Nt := if rfS l = 0 then zeroN else ⟨(rnL l 1 (rfp l)).getD 0 0, (readR (rfi l).1).1, (readR (rfi l).1).2, readL (rfi l).1, ⟨(rfd l).1.toArray⟩, (rnL l 1 (rfd l).2.1).getD 0 0⟩
def rfF (l : List UInt8) : Fm := ⟨(rnL l 6 0).getD 0 0, (rnL l 6 0).getD 1 0, (rnL l 6 0).getD 2 0, rfS l, (rnL l 6 0).getD 4 0, (rnL l 6 0).getD 5 0, rfN l⟩
theorem rf_back (f : Fm) (h : frB f = true) : rfB (bd f) = true ∧ rfF (bd f) = f := by
  obtain ⟨hf, ht, _, he, hs, ha, hc, hn⟩ := may_frame h
  obtain ⟨X, hX⟩ : ∃ X, X = (if f.s = 0 then [] else bdN f.n) := ⟨_, rfl⟩
  have hl : bd f = [] ++ ([f.f, f.t, f.e, f.s, f.a, f.c].flatMap nm ++ X) := by rw [hX]; simp [bd, bd6]
  generalize bd f = l at *
  obtain ⟨g1, g2, g3⟩ := rn_at l [f.f, f.t, f.e, f.s, f.a, f.c] [] X 0 hl rfl (by simp; omega)
  have g1 : rnL l 6 0 = _ := g1
  have g2 : rnP l 6 0 = _ := g2
  have g3 : rnB l 6 0 = true := g3
  have hS : rfS l = f.s := by unfold rfS; rw [g1]; rfl
  by_cases hz : f.s = 0
  · have hN : rfN l = zeroN := by unfold rfN; rw [hS, if_pos hz]
    unfold fnB at hn
    rw [if_pos hz] at hn
    have := em_zero hn
    refine ⟨?_, ?_⟩
    · unfold rfB; rw [g3, hS, hz]; rfl
    · unfold rfF; rw [g1, hS, hN, ← this]; rfl
  · rw [if_neg hz] at hX
    obtain ⟨hnt, _, _⟩ := fn_note hn hz
    obtain ⟨hk, hm, hL, hd, hy⟩ := may_note hnt
    have hdl := may_def hd
    have hyl := may_why hy
    generalize hx : f.n = x at *
    obtain ⟨m1, m2, m3, m4, m5, m6⟩ := may_root hm
    have hlen := show_len x.r x.n x.L m1 m2 m3 m4 m6
    obtain ⟨A6, hA6⟩ : ∃ A, A = [] ++ [f.f, f.t, f.e, f.s, f.a, f.c].flatMap nm := ⟨_, rfl⟩
    rw [← hA6] at g2
    have hl' : l = A6 ++ X := by rw [hl, hA6]; simp
    unfold bdN at hX
    have hp6 : rfp l = A6.length := g2
    obtain ⟨k1, k2, k3⟩ := rn_at l [x.k] A6 (Pk.text (Idn.showT x.r x.n x.L) ++ Pk.text x.d.data.toList ++ nm x.y) (rfp l) (by rw [hl', hX]; simp) hp6 (by simp; omega)
    have k1 : rnL l 1 (rfp l) = _ := k1
    have k2 : rnP l 1 (rfp l) = _ := k2
    have k3 : rnB l 1 (rfp l) = true := k3
    have hk7 : rfk l = (A6 ++ nm x.k).length := by unfold rfk; rw [if_pos k3, k2]; simp
    have hsz : x.d.data.toList.length = x.d.size := by simp
    have t1 : rfi l = (Idn.showT x.r x.n x.L, (A6 ++ nm x.k ++ Pk.text (Idn.showT x.r x.n x.L)).length, 0) := by
      have := Pk.takeText_at (A6 ++ nm x.k) (Pk.text x.d.data.toList ++ nm x.y) (Idn.showT x.r x.n x.L) (by omega)
      unfold rfi
      rw [hk7]
      have e : l = (A6 ++ nm x.k) ++ (Pk.text (Idn.showT x.r x.n x.L) ++ (Pk.text x.d.data.toList ++ nm x.y)) := by rw [hl', hX]; simp
      rw [← e] at this
      rw [this]; simp [Nat.add_assoc]
    have t2 : rfd l = (x.d.data.toList, (A6 ++ nm x.k ++ Pk.text (Idn.showT x.r x.n x.L) ++ Pk.text x.d.data.toList).length, 0) := by
      have := Pk.takeText_at (A6 ++ nm x.k ++ Pk.text (Idn.showT x.r x.n x.L)) (nm x.y) x.d.data.toList (by omega)
      unfold rfd
      rw [t1]
      have e : l = (A6 ++ nm x.k ++ Pk.text (Idn.showT x.r x.n x.L)) ++ (Pk.text x.d.data.toList ++ nm x.y) := by rw [hl', hX]; simp
      rw [← e] at this
      rw [this]; simp [Nat.add_assoc]
    obtain ⟨y1, y2, y3⟩ := rn_at l [x.y] (A6 ++ nm x.k ++ Pk.text (Idn.showT x.r x.n x.L) ++ Pk.text x.d.data.toList) [] (rfd l).2.1 (by rw [hl', hX]; simp) (by rw [t2]) (by simp; omega)
    have y1 : rnL l 1 (rfd l).2.1 = _ := y1
    have y3 : rnB l 1 (rfd l).2.1 = true := y3
    have hp := par_show x.r x.n x.L hm
    obtain ⟨r1, r2⟩ := read_show x.r x.n x.L hm
    have hN : rfN l = x := by
      unfold rfN
      rw [hS, if_neg hz, k1, y1, t1, t2, r1, r2]
      rfl
    refine ⟨?_, ?_⟩
    · unfold rfB
      rw [g3, hS, k3, y3, t1, t2, hp]; simp
    · unfold rfF; rw [g1, hS, hN, ← hx]; rfl
/- both read the same -/
def rfG (s : List UInt8) : Bool := rfB (Sl.openE s 0 1).1 && frB (rfF (Sl.openE s 0 1).1) && decide (encL (rfF (Sl.openE s 0 1).1) = s)
theorem rf_dec (s : List UInt8) (h0 : (Sl.openE s 0 1).2.2 = 0) : rfG s = dcB s ∧ (rfG s = true → rfF (Sl.openE s 0 1).1 = dcF s) := by
  by_cases hb : dcB s = true
  · have hd : dcE s = 0 := by unfold dcE; rw [if_pos h0, if_pos hb]
    obtain ⟨h1, h2⟩ := dec_form s hd
    have ho := open_enc _ h1
    rw [h2] at ho
    obtain ⟨r1, r2⟩ := rf_back _ h1
    have hg : rfG s = true := by
      unfold rfG
      rw [ho]
      simp only
      rw [r1, r2, h1, h2]; simp
    rw [hb]
    refine ⟨hg, fun _ => ?_⟩
    rw [ho]
    exact r2
  · have hg : ¬ rfG s = true := by
      intro hg
      unfold rfG at hg
      simp only [Bool.and_eq_true, decide_eq_true_eq] at hg
      obtain ⟨⟨_, h2⟩, h3⟩ := hg
      have ho := open_enc _ h2
      rw [h3] at ho
      obtain ⟨r1, r2⟩ := rd_back _ h2
      apply hb
      have hl : (Sl.openE s 0 1).1 = bd (rfF (Sl.openE s 0 1).1) := congrArg Prod.fst ho
      unfold dcB
      rw [hl, r1, r2, h2]
      rw [show (Sl.openE s 0 1).2.1 = s.length by rw [ho]]; simp
    refine ⟨?_, fun h => absurd h hg⟩
    rw [Bool.eq_false_iff.2 hg, Bool.eq_false_iff.2 hb]
end Nt
end Go.Proofs.YtcmbppjfpdkblaaGreatDoor
/- Rows of cells in a block of their own: structs of any number of cells. -/
namespace Go.Proofs.YtcmbppjfpdkblaaGreatDoor
open Go.RowKit

/- a block's first cells, which may be written -/
structure Cs (w : World) (g : Nat) (vs : List Value) : Prop where
  at_ : ∀ i v, vs[i]? = some v → w.cell? ⟨g, i, none⟩ = some v
  fz : ∀ i, i < vs.length → w.frozen? ⟨g, i, none⟩ = false
  lt : g < w.heap.size
theorem Cs.gr {w w' : World} {g : Nat} {vs : List Value} (h : Cs w g vs) (k : Gr w w') : Cs w' g vs :=
  ⟨fun i v e => k.keep (h.at_ i v e), fun i hi => k.keepF h.lt (h.fz i hi), Nat.lt_of_lt_of_le h.lt k.size⟩
theorem Cs.alloc {w : World} {g : Nat} {vs : List Value} (h : Cs w g vs) {o : Obj} : Cs (w.alloc o) g vs := h.gr (Gr.refl _).alloc
theorem Cs.drew {w : World} {g : Nat} {vs : List Value} (h : Cs w g vs) : Cs w.drew g vs := h.gr (Gr.refl _).drew
theorem Cs.new (w : World) (vs : List Value) (t : TypeId) (g : Nat) (hg : g = w.heap.size) : Cs (w.alloc (.cells vs.toArray t)) g vs := by
  refine ⟨fun i v e => ?_, fun i hi => ?_, by subst hg; simp⟩
  · rw [World.cell?_alloc_at _ _ _ _ hg]; simpa using e
  · exact World.frozen?_alloc_at _ _ _ _ hg
theorem Cs.far {w : World} {g : Nat} {vs : List Value} (h : Cs w g vs) (p : Addr) (v : Value) (hp : p.block ≠ g) : Cs (w.setCell p v) g vs :=
  ⟨fun i u e => (World.cell?_setCell_far _ _ _ _ (by simpa using hp)).trans (h.at_ i u e), fun i hi => (World.frozen?_setCell _ _ _ _).trans (h.fz i hi), by simpa using h.lt⟩
theorem Cs.set {w : World} {g : Nat} {vs : List Value} (h : Cs w g vs) (k : Nat) (hk : k < vs.length) (v : Value) : Cs (w.setCell ⟨g, k, none⟩ v) g (vs.set k v) := by
  have hl := h.lt
  have hf := h.fz k hk
  have hc := h.at_ k vs[k] (by simp [hk])
  refine ⟨fun i u e => ?_, fun i hi => (World.frozen?_setCell _ _ _ _).trans (h.fz i (by simpa using hi)), by simpa using h.lt⟩
  by_cases hik : i = k
  · subst hik
    rw [List.getElem?_set_self hk] at e
    cases e
    simp [go_sem, *]
  · rw [List.getElem?_set_ne (fun e => hik e.symm)] at e
    have := h.at_ i u e
    have hne : ¬ k = i := fun e => hik e.symm
    simp [go_sem, *]
theorem GB.cs {b : Nat} {w w' : World} {g : Nat} {vs : List Value} (h : GB b w w') (x : Cs w g vs) (hne : g ≠ b) : Cs w' g vs :=
  ⟨fun i v e => h.keep x.lt hne (x.at_ i v e), fun i hi => h.keepF x.lt hne (x.fz i hi), Nat.lt_of_lt_of_le x.lt h.size⟩
theorem GB.hops {b : Nat} {w w' : World} {ad : Option Addr} {L : List (Int × Int)} (h : GB b w w') (x : HopsAt w ad L) (hne : ∀ a, ad = some a → a.block ≠ b) : HopsAt w' ad L := by
  intro j hj
  obtain ⟨g, off, e, hg, h1, h2⟩ := x j hj
  have := hne _ e
  exact ⟨g, off, e, Nat.lt_of_lt_of_le hg h.size, h.keep hg this h1, h.keep hg this h2⟩

/- a frame is laid into a block -/
theorem Gr.set12 {a b : World} (h : Gr a b) (g : Nat) (hg : a.heap.size ≤ g) (v0 v1 v2 v3 v4 v5 v6 v7 v8 v9 v10 v11 : Value) : Gr a ((((((((((((b.setCell ⟨g, 0, none⟩ v0).setCell ⟨g, 1, none⟩ v1).setCell ⟨g, 2, none⟩ v2).setCell ⟨g, 3, none⟩ v3).setCell ⟨g, 4, none⟩ v4).setCell ⟨g, 5, none⟩ v5).setCell ⟨g, 6, none⟩ v6).setCell ⟨g, 7, none⟩ v7).setCell ⟨g, 8, none⟩ v8).setCell ⟨g, 9, none⟩ v9).setCell ⟨g, 10, none⟩ v10).setCell ⟨g, 11, none⟩ v11) :=
  (((((((((((h.set ⟨g, 0, none⟩ hg v0).set ⟨g, 1, none⟩ hg v1).set ⟨g, 2, none⟩ hg v2).set ⟨g, 3, none⟩ hg v3).set ⟨g, 4, none⟩ hg v4).set ⟨g, 5, none⟩ hg v5).set ⟨g, 6, none⟩ hg v6).set ⟨g, 7, none⟩ hg v7).set ⟨g, 8, none⟩ hg v8).set ⟨g, 9, none⟩ hg v9).set ⟨g, 10, none⟩ hg v10).set ⟨g, 11, none⟩ hg v11
theorem HopsAt.set12 {w : World} {ad : Option Addr} {L : List (Int × Int)} (h : HopsAt w ad L) (g : Nat) (hg : ∀ a, ad = some a → g ≠ a.block) (v0 v1 v2 v3 v4 v5 v6 v7 v8 v9 v10 v11 : Value) : HopsAt ((((((((((((w.setCell ⟨g, 0, none⟩ v0).setCell ⟨g, 1, none⟩ v1).setCell ⟨g, 2, none⟩ v2).setCell ⟨g, 3, none⟩ v3).setCell ⟨g, 4, none⟩ v4).setCell ⟨g, 5, none⟩ v5).setCell ⟨g, 6, none⟩ v6).setCell ⟨g, 7, none⟩ v7).setCell ⟨g, 8, none⟩ v8).setCell ⟨g, 9, none⟩ v9).setCell ⟨g, 10, none⟩ v10).setCell ⟨g, 11, none⟩ v11) ad L :=
  (((((((((((h.set ⟨g, 0, none⟩ v0 hg).set ⟨g, 1, none⟩ v1 hg).set ⟨g, 2, none⟩ v2 hg).set ⟨g, 3, none⟩ v3 hg).set ⟨g, 4, none⟩ v4 hg).set ⟨g, 5, none⟩ v5 hg).set ⟨g, 6, none⟩ v6 hg).set ⟨g, 7, none⟩ v7 hg).set ⟨g, 8, none⟩ v8 hg).set ⟨g, 9, none⟩ v9 hg).set ⟨g, 10, none⟩ v10 hg).set ⟨g, 11, none⟩ v11 hg
end Go.Proofs.YtcmbppjfpdkblaaGreatDoor
