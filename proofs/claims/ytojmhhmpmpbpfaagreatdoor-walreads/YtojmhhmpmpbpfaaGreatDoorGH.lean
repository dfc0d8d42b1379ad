/- Parts of these proofs, laid together. -/
import Derived.Test.YtojmhhmpmpbpfaaGreatDoorGG
import Derived.Test.YtojmhhmpmpbpfaaGreatDoorGA
import Derived.Shelf.Strings.Builder1
import Derived.Test.YtojmhhmpmpbpfaaGreatDoorProg
namespace Go.Proofs.YtojmhhmpmpbpfaaGreatDoor.Wl
open Dk (Fl St Ok Up Fo zf has del ins put used appE appS stpE stpS cntE cntS chS fst siz fallA cutF one kf ext emp)

theorem fr_ne (b : ByteArray) : (fr b).size ≠ 0 := by rw [fr_size]; have := Sg.frame_pos 3 b.data.toList; omega
theorem ct_app (h : Bo) (b : ByteArray) : ct h ++ fr b = ct (h ++ [b.data.toList]) := by
  unfold ct fr
  rw [mk_app, Sl.cat_append, cat_one]
theorem cat_snoc (h : Bo) (b : List UInt8) : (Sl.cat 3 (h ++ [b])).length = (Sl.cat 3 h).length + (Sl.frame 3 b).length := by rw [Sl.cat_append, cat_one, List.length_append]
/- the power goes: a file with a tail that is not synced -/
theorem fall_tail (K : Nat → Int) (n : Int) (h : Bo) (b : ByteArray) (hg : Gd h) : ∃ c, (Sl.cat 3 h).length ≤ c ∧ c ≤ (Sl.cat 3 (h ++ [b.data.toList])).length ∧
    fallA K 0 [⟨n, ct h ++ fr b, (Sl.cat 3 h).length⟩] = [⟨n, ⟨((Sl.cat 3 (h ++ [b.data.toList])).take c).toArray⟩, c⟩] := by
  have hp := cat_pos hg.1
  have hs := cat_snoc h b.data.toList
  have hsz : (ct h ++ fr b).size = (Sl.cat 3 (h ++ [b.data.toList])).length := by rw [ct_app, ct_size]
  obtain ⟨j, hj⟩ : ∃ j : Nat, min (max (K 0) 0) (((ct h ++ fr b).size : Int) - ((Sl.cat 3 h).length : Int)) = (j : Int) := ⟨(min (max (K 0) 0) (((ct h ++ fr b).size : Int) - ((Sl.cat 3 h).length : Int))).toNat, by rw [hsz]; omega⟩
  refine ⟨(Sl.cat 3 h).length + j, by omega, by rw [hsz] at hj; omega, ?_⟩
  simp only [fallA, List.append_nil]
  unfold Dk.one
  have e : cutF (K 0) ⟨n, ct h ++ fr b, (Sl.cat 3 h).length⟩ = ⟨n, ⟨((Sl.cat 3 (h ++ [b.data.toList])).take ((Sl.cat 3 h).length + j)).toArray⟩, ((Sl.cat 3 h).length + j : Nat)⟩ := by
    unfold cutF
    simp only
    rw [hj, show (((Sl.cat 3 h).length : Int) + (j : Int)).toNat = (Sl.cat 3 h).length + j by omega, ct_app]
    unfold ct
    rw [ext_take]
    congr 1
  rw [e, if_neg (by simp only; omega)]
/- the power goes: a file, and one that is begun -/
theorem fall_head (K : Nat → Int) (n m : Int) (h : Bo) (b : ByteArray) (hg : Gd h) : fallA K 0 [fl n h, ⟨m, fr b, 0⟩] = [fl n h] ∨ ∃ c, 1 ≤ c ∧ c ≤ (Sl.frame 3 b.data.toList).length ∧
    fallA K 0 [fl n h, ⟨m, fr b, 0⟩] = [fl n h, ⟨m, ⟨((Sl.frame 3 b.data.toList).take c).toArray⟩, c⟩] := by
  have hp := cat_pos hg.1
  obtain ⟨j, hj⟩ : ∃ j : Nat, min (max (K 1) 0) (((fr b).size : Int) - 0) = (j : Int) := ⟨(min (max (K 1) 0) (((fr b).size : Int) - 0)).toNat, by omega⟩
  have e0 : cutF (K 0) (fl n h) = fl n h := cut_same (by simp only [fl, ct_size]) _
  have e : cutF (K 1) ⟨m, fr b, 0⟩ = ⟨m, ⟨((Sl.frame 3 b.data.toList).take j).toArray⟩, (j : Nat)⟩ := by
    unfold cutF
    simp only
    rw [hj, show ((0 : Int) + (j : Int)).toNat = j by omega]
    unfold fr
    rw [ext_take]
    congr 1
    omega
  have hf : fallA K 0 [fl n h, ⟨m, fr b, 0⟩] = fl n h :: (Dk.one (K 1) ⟨m, fr b, 0⟩) := by
    simp only [fallA, List.append_nil]
    conv => lhs; unfold Dk.one
    rw [e0, if_neg (by simp only [fl]; omega)]
    rfl
  rw [hf]
  unfold Dk.one
  rw [e]
  by_cases hz : j = 0
  · left
    rw [if_pos (by simp only; omega)]
  · right
    refine ⟨j, by omega, by rw [fr_size] at hj; omega, ?_⟩
    rw [if_neg (by simp only; omega)]
/- what a call does to a log -/
def Did (s : St) (l : Lg) (h h' : Bo) (e : Int) (s' : St) (l' : Lg) : Prop :=
  (e = 0 ∧ Re s' l' h' ∧ (s.left = 0 → s'.left = 0)) ∨ (e ≠ 0 ∧ e ≠ 150 ∧ s' = s ∧ l' = l) ∨ (e = 150 ∧ s.left ≠ 0 ∧ ∃ L r, Dn s' L ∧ Pre L r ∧ (r = h ∨ r = h'))
theorem Did.ok {s : St} {l : Lg} {h h' : Bo} (s' : St) (l' : Lg) (hr : Re s' l' h') (hl : s.left = 0 → s'.left = 0) : Did s l h h' 0 s' l' := Or.inl ⟨rfl, hr, hl⟩
theorem Did.no {s : St} {l : Lg} {h h' : Bo} (e : Int) (h0 : e ≠ 0) (h1 : e ≠ 150) : Did s l h h' e s l := Or.inr (Or.inl ⟨h0, h1, rfl, rfl⟩)
theorem Did.dead {s : St} {l : Lg} {h h' : Bo} (s' : St) (l' : Lg) (L : List Fl) (r : Bo) (hl : s.left ≠ 0) (hd : Dn s' L) (hp : Pre L r) (hr : r = h ∨ r = h') : Did s l h h' 150 s' l' := Or.inr (Or.inr ⟨rfl, hl, L, r, hd, hp, hr⟩)
theorem Re.n01 {s : St} {l : Lg} {h : Bo} (hr : Re s l h) : 0 ≤ l.n ∧ l.n ≤ 1000000 := by
  have := hr.at_.ok.fo (fl l.n h) (by rw [hr.at_.eq]; simp)
  exact ⟨this.n0, this.n1⟩
theorem pre_tail {n : Int} {h : Bo} {b : ByteArray} {c : Nat} (hg : Gd h) (hb : b.size ≤ 30000) (h0 : (Sl.cat 3 h).length ≤ c) (h1 : c ≤ (Sl.cat 3 (h ++ [b.data.toList])).length) :
    ∃ r, Pre [⟨n, ⟨((Sl.cat 3 (h ++ [b.data.toList])).take c).toArray⟩, c⟩] r ∧ (r = h ∨ r = h ++ [b.data.toList]) := by
  refine ⟨_, Pre.one n h [b.data.toList] c hg (by intro x hx; simp at hx; subst hx; simpa using hb) (by simp) h0 h1, ?_⟩
  split
  · exact Or.inr rfl
  · exact Or.inl rfl
theorem apn_re {s : St} {l : Lg} {h : Bo} (hr : Re s l h) (b : ByteArray) : Did s l h (h ++ [b.data.toList]) (apn s l b).1 (apn s l b).2.1 (apn s l b).2.2 := by
  obtain ⟨n0, n1⟩ := hr.n01
  have hbl : b.data.toList.length = b.size := by simp
  unfold apn
  rw [hr.br]
  simp only [Bool.false_eq_true, if_false]
  by_cases hb : b.size ≤ 30000
  · rw [if_pos hb]
    have hL : ins (ext [fl l.n h] l.n (fr b)) [fl l.n h] = [⟨l.n, ct h ++ fr b, (Sl.cat 3 h).length⟩] := by
      unfold ext
      have := get_1 (fl l.n h)
      rw [show (fl l.n h).n = l.n from rfl] at this
      rw [this]
      simp [ins, fl]
    rcases app_or hr.at_ n0 n1 (fr_ne b) with ⟨a1, a2⟩ | ⟨a1, a2, a3, _⟩ | ⟨a1, a2, a3⟩
    · rw [a1, a2]
      simp only [show ¬ ((151 : Int) = 0) by decide, if_false]
      exact Did.no 151 (by decide) (by decide)
    · rw [if_pos a1]
      rw [hL] at a2
      generalize appS s l.n (fr b) = s1 at *
      have hg1 : Dk.get [(⟨l.n, ct h ++ fr b, (Sl.cat 3 h).length⟩ : Fl)] l.n = ⟨l.n, ct h ++ fr b, (Sl.cat 3 h).length⟩ := get_1 ⟨l.n, ct h ++ fr b, (Sl.cat 3 h).length⟩
      rcases step_or a2 (q := 1) (n := l.n) (k := 0) (has_1 ⟨l.n, ct h ++ fr b, (Sl.cat 3 h).length⟩) (by omega) with ⟨q1, q2, q3⟩ | ⟨q1, q2, q3⟩
      · rw [q1]
        refine Did.ok _ _ ?_ (fun e => q3 (a3 e))
        have hfs : fst (⟨l.n, ct h ++ fr b, (Sl.cat 3 h).length⟩ : Fl) (siz 1 ⟨l.n, ct h ++ fr b, (Sl.cat 3 h).length⟩ 0) = fl l.n (h ++ [b.data.toList]) := by
          unfold fst siz fl
          simp only [if_true]
          rw [ct_app, ct_size, Int.toNat_natCast]
          congr 1
          unfold ct
          rw [ext_take, List.take_length]
        have hpu := put_1 (f := ⟨l.n, ct h ++ fr b, (Sl.cat 3 h).length⟩) (k := (ct h ++ fr b).size) (by rw [ct_app, ct_size]; exact cat_pos (by simp))
        rw [hg1] at q2
        have hsz : siz 1 (⟨l.n, ct h ++ fr b, (Sl.cat 3 h).length⟩ : Fl) 0 = ((ct h ++ fr b).size : Int) := by simp [siz]
        rw [hsz, hpu] at q2
        rw [hsz] at hfs
        rw [hfs] at q2
        refine ⟨?_, ?_, ?_, hr.gd.snoc (by omega)⟩
        · unfold tol; rw [if_neg (by decide)]; exact q2
        · unfold tol; rw [if_neg (by decide)]
          show l.z + ((fr b).size : Int) = _
          rw [hr.z, fr_size, cat_snoc]
          rfl
        · show (tol _ 0).br = false; unfold tol; simp
      · rw [q1]
        obtain ⟨c, c0, c1, c2⟩ := fall_tail (kf s1.keep) l.n h b hr.gd
        rw [c2] at q3
        obtain ⟨r, p1, p2⟩ := pre_tail (n := l.n) hr.gd hb c0 c1
        exact Did.dead _ _ _ r (fun e => q2 (a3 e)) q3 p1 p2
    · rw [a1]
      simp only [show ¬ ((150 : Int) = 0) by decide, if_false]
      rw [hL] at a3
      obtain ⟨c, c0, c1, c2⟩ := fall_tail (kf s.keep) l.n h b hr.gd
      rw [c2] at a3
      obtain ⟨r, p1, p2⟩ := pre_tail (n := l.n) hr.gd hb c0 c1
      exact Did.dead _ _ _ r a2 a3 p1 p2
  · rw [if_neg hb]
    exact Did.no 3 (by decide) (by decide)
theorem put_2 {f g : Fl} {k : Nat} (h : f.n < g.n) (hk : 1 ≤ k) : put (fst g k) [f, g] = [f, fst g k] := by
  have h1 : emp (fst g k) = false := by
    unfold emp fst
    simp
    intro _
    omega
  unfold put
  rw [h1]
  have h2 : ¬ g.n < f.n := by omega
  have h3 : ¬ g.n = f.n := by omega
  simp [ins, fst, h2, h3]
theorem pre_head {n m : Int} {h : Bo} {b : ByteArray} (K : Nat → Int) (hg : Gd h) (hb : b.size ≤ 30000) (hnm : n < m) : ∃ r, Pre (fallA K 0 [fl n h, ⟨m, fr b, 0⟩]) r ∧ (r = h ∨ r = [b.data.toList]) := by
  rcases fall_head K n m h b hg with e | ⟨c, c0, c1, e⟩
  · rw [e]; exact ⟨h, pre_rest n hg, Or.inl rfl⟩
  · rw [e]
    refine ⟨_, Pre.two n m h b.data.toList c hg (by simpa using hb) hnm c0 c1, ?_⟩
    split
    · exact Or.inr rfl
    · exact Or.inl rfl
theorem trn_re {s : St} {l : Lg} {h : Bo} (hr : Re s l h) (b : ByteArray) : Did s l h [b.data.toList] (trn s l b).1 (trn s l b).2.1 (trn s l b).2.2 := by
  obtain ⟨n0, n1⟩ := hr.n01
  have hbl : b.data.toList.length = b.size := by simp
  unfold trn
  rw [hr.br]
  simp only [Bool.false_eq_true, if_false]
  by_cases hm : l.n = 1000000
  · rw [if_pos hm]; exact Did.no 151 (by decide) (by decide)
  · rw [if_neg hm]
    by_cases hb : b.size ≤ 30000
    · have hL : ins (ext [fl l.n h] (l.n + 1) (fr b)) [fl l.n h] = [fl l.n h, ⟨l.n + 1, fr b, 0⟩] := by
        have hg : Dk.get [fl l.n h] (l.n + 1) = zf 0 := Dk.get_not (by simp [has, fl]; omega)
        unfold ext
        rw [hg]
        have e1 : ¬ l.n + 1 < l.n := by omega
        have e2 : ¬ l.n + 1 = l.n := by omega
        have e3 : (⟨#[]⟩ : ByteArray) ++ fr b = fr b := by
          unfold fr
          exact mk_app [] _
        simp [ins, fl, e1, e2, e3]
      have hbg : beg s (l.n + 1) b = if appE s (l.n + 1) (fr b) = 0 then (((fr b).size : Int), stpE (appS s (l.n + 1) (fr b)) 1 (l.n + 1) 0, stpS (appS s (l.n + 1) (fr b)) 1 (l.n + 1) 0) else (0, appE s (l.n + 1) (fr b), appS s (l.n + 1) (fr b)) := by
        unfold beg; rw [if_pos hb]
      rcases app_or hr.at_ (n := l.n + 1) (by omega) (by omega) (fr_ne b) with ⟨a1, a2⟩ | ⟨a1, a2, a3, _⟩ | ⟨a1, a2, a3⟩
      · rw [a1, a2, if_neg (by decide)] at hbg
        rw [hbg]
        simp only [show ¬ ((151 : Int) = 0) by decide, if_false]
        exact Did.no 151 (by decide) (by decide)
      · rw [if_pos a1] at hbg
        rw [hL] at a2
        generalize appS s (l.n + 1) (fr b) = s1 at *
        have hlt : (fl l.n h).n < (⟨l.n + 1, fr b, 0⟩ : Fl).n := by show l.n < l.n + 1; omega
        have hg1 := get_2b (f := fl l.n h) (g := ⟨l.n + 1, fr b, 0⟩) hlt
        simp only at hg1
        rcases step_or a2 (q := 1) (n := l.n + 1) (k := 0) (by simp [has]) (by omega) with ⟨q1, q2, q3⟩ | ⟨q1, q2, q3⟩
        · rw [q1] at hbg
          rw [hbg]
          simp only [if_true]
          have hsz : siz 1 (⟨l.n + 1, fr b, 0⟩ : Fl) 0 = ((fr b).size : Int) := by simp [siz]
          have hfs : fst (⟨l.n + 1, fr b, 0⟩ : Fl) ((fr b).size : Int) = fl (l.n + 1) [b.data.toList] := by
            unfold fst fl ct
            rw [Int.toNat_natCast, fr_size, cat_one]
            unfold fr
            rw [ext_take, List.take_length]
          rw [hg1, hsz, put_2 hlt (by rw [fr_size]; exact Sg.frame_pos 3 _), hfs] at q2
          generalize stpS s1 1 (l.n + 1) 0 = s2 at *
          have hlt2 : (fl l.n h).n < (fl (l.n + 1) [b.data.toList]).n := by show l.n < l.n + 1; omega
          have hg2 := get_2a (f := fl l.n h) (g := fl (l.n + 1) [b.data.toList])
          rw [show (fl l.n h).n = l.n from rfl] at hg2
          rcases step_or q2 (q := 3) (n := l.n) (k := 0) (by simp [has, fl]) (by omega) with ⟨p1, p2, p3⟩ | ⟨p1, p2, p3⟩
          · rw [p1]
            refine Did.ok _ _ ?_ (fun e => p3 (q3 (a3 e)))
            rw [hg2, show siz 3 (fl l.n h) 0 = 0 by simp [siz], put_0a hlt2] at p2
            unfold tol
            rw [if_neg (by decide)]
            exact ⟨p2, by rw [fr_size, cat_one], rfl, Gd.one (by omega)⟩
          · rw [p1]
            have hpr := Pre.two l.n (l.n + 1) h b.data.toList (Sl.frame 3 b.data.toList).length hr.gd (by omega) (by omega) (Sg.frame_pos 3 _) (Nat.le_refl _)
            rw [List.take_length, if_pos rfl] at hpr
            have he : (⟨l.n + 1, ⟨(Sl.frame 3 b.data.toList).toArray⟩, (Sl.frame 3 b.data.toList).length⟩ : Fl) = fl (l.n + 1) [b.data.toList] := by
              unfold fl ct; rw [cat_one]
            rw [he] at hpr
            rw [fall_same (pre_sy hpr)] at p3
            exact Did.dead _ _ _ _ (fun e => p2 (q3 (a3 e))) p3 hpr (Or.inr rfl)
        · rw [q1] at hbg
          rw [hbg]
          simp only [show ¬ ((150 : Int) = 0) by decide, if_false]
          obtain ⟨r, p1, p2⟩ := pre_head (n := l.n) (m := l.n + 1) (kf s1.keep) hr.gd hb (by omega)
          exact Did.dead _ _ _ r (fun e => q2 (a3 e)) q3 p1 p2
      · rw [a1, if_neg (by decide)] at hbg
        rw [hbg]
        simp only [show ¬ ((150 : Int) = 0) by decide, if_false]
        rw [hL] at a3
        obtain ⟨r, p1, p2⟩ := pre_head (n := l.n) (m := l.n + 1) (kf s.keep) hr.gd hb (by omega)
        exact Did.dead _ _ _ r a2 a3 p1 p2
    · have hbg : beg s (l.n + 1) b = (0, 3, s) := by unfold beg; rw [if_neg hb]
      rw [hbg]
      simp only [show ¬ ((3 : Int) = 0) by decide, if_false]
      exact Did.no 3 (by decide) (by decide)
/- the first opening -/
theorem opn_new {s : St} (h : At s []) (hl : s.left = 0) (b : ByteArray) (hb : b.size ≤ 30000) :
    ((opn s b).lg = none ∧ (opn s b).bo = [] ∧ (opn s b).er = 151) ∨ ∃ l, (opn s b).lg = some l ∧ (opn s b).bo = [b.data.toList] ∧ (opn s b).er = 0 ∧ Re (opn s b).st l [b.data.toList] ∧ (opn s b).st.left = 0 ∧ l.n = 1 := by
  have hbl : b.data.toList.length = b.size := by simp
  have hlk : Sg.look s.L = ⟨-1, 0, [], [], 0⟩ := by rw [h.eq]; rfl
  have ho : opn s b = if (beg s 1 b).2.1 = 0 then ⟨some ⟨1, (beg s 1 b).1, false⟩, [b.data.toList], 0, (beg s 1 b).2.2⟩ else ⟨none, [], (beg s 1 b).2.1, (beg s 1 b).2.2⟩ := by
    unfold opn
    rw [h.up, hlk]
    simp only [Bool.false_eq_true, if_false, if_true, drp]
    rw [if_pos (by decide)]
    rfl
  have hbg : beg s 1 b = if appE s 1 (fr b) = 0 then (((fr b).size : Int), stpE (appS s 1 (fr b)) 1 1 0, stpS (appS s 1 (fr b)) 1 1 0) else (0, appE s 1 (fr b), appS s 1 (fr b)) := by
    unfold beg; rw [if_pos hb]
  have hL : ins (ext [] 1 (fr b)) [] = [⟨1, fr b, 0⟩] := by
    have hg : Dk.get [] 1 = zf 0 := rfl
    unfold ext
    rw [hg]
    have e3 : (⟨#[]⟩ : ByteArray) ++ fr b = fr b := by
      unfold fr
      exact mk_app [] _
    simp [ins, e3]
  rcases app_or h (n := 1) (by omega) (by omega) (fr_ne b) with ⟨a1, a2⟩ | ⟨a1, a2, a3, _⟩ | ⟨a1, a2, a3⟩
  · left
    rw [a1, a2, if_neg (by decide)] at hbg
    rw [ho, hbg]
    simp only [show ¬ ((151 : Int) = 0) by decide, if_false]
    exact ⟨trivial, trivial, trivial⟩
  · right
    rw [if_pos a1] at hbg
    rw [hL] at a2
    have hl1 := a3 hl
    generalize appS s 1 (fr b) = s1 at *
    have hg1 : Dk.get [(⟨1, fr b, 0⟩ : Fl)] 1 = ⟨1, fr b, 0⟩ := get_1 ⟨1, fr b, 0⟩
    rcases step_or a2 (q := 1) (n := 1) (k := 0) (by simp [has]) (by omega) with ⟨q1, q2, q3⟩ | ⟨q1, q2, q3⟩
    · rw [q1] at hbg
      rw [ho, hbg]
      simp only [if_true]
      have hsz : siz 1 (⟨1, fr b, 0⟩ : Fl) 0 = ((fr b).size : Int) := by simp [siz]
      have hfs : fst (⟨1, fr b, 0⟩ : Fl) ((fr b).size : Int) = fl 1 [b.data.toList] := by
        unfold fst fl ct
        rw [Int.toNat_natCast, fr_size, cat_one]
        unfold fr
        rw [ext_take, List.take_length]
      rw [hg1, hsz, put_1 (by rw [fr_size]; exact Sg.frame_pos 3 _), hfs] at q2
      refine ⟨⟨1, (fr b).size, false⟩, rfl, (by first | rfl | trivial), (by first | rfl | trivial), ⟨q2, ?_, rfl, Gd.one (by omega)⟩, q3 hl1, rfl⟩
      show ((fr b).size : Int) = _
      rw [fr_size, cat_one]
    · exact absurd hl1 q2
  · exact absurd hl a2
end Go.Proofs.YtojmhhmpmpbpfaaGreatDoor.Wl
namespace Go.Proofs.YtojmhhmpmpbpfaaGreatDoor.Wl
open Dk (Fl St Ok Up Fo zf has del ins put used appE appS stpE stpS cntE cntS chS fst siz fallA cutF one kf ext emp)

/- the room stays -/
theorem room_cnt (s : St) : (cntS s).room = s.room := by
  unfold cntS
  split
  · rfl
  · split <;> rfl
theorem room_ch (s : St) (f : Fl) : (chS s f).room = s.room := by
  unfold chS
  split
  · exact room_cnt s
  · exact room_cnt s
theorem room_stp (s : St) (q n k : Int) : (stpS s q n k).room = s.room := by
  unfold stpS
  split
  · rfl
  · split
    · rfl
    · split
      · rfl
      · exact room_ch _ _
theorem room_app (s : St) (n : Int) (d : ByteArray) : (appS s n d).room = s.room := by
  unfold appS
  split
  · rfl
  · split
    · rfl
    · split
      · rfl
      · split
        · rfl
        · exact room_cnt _
theorem room_beg (s : St) (n : Int) (b : ByteArray) : (beg s n b).2.2.room = s.room := by
  unfold beg
  split
  · split
    · rw [room_stp, room_app]
    · exact room_app _ _ _
  · rfl
theorem room_drp (s : St) (l : List Int) : (drp s l).2.room = s.room := by
  induction l generalizing s with
  | nil => rfl
  | cons n r ih =>
    unfold drp
    split
    · rw [ih, room_stp]
    · exact room_stp _ _ _ _
theorem room_trm (s : St) (n : Int) (g : Nat) : (trm s n g).2.room = s.room := by
  unfold trm
  split
  · exact room_stp _ _ _ _
  · rfl
theorem room_opn (s : St) (b : ByteArray) : (opn s b).st.room = s.room := by
  unfold opn
  split
  · rfl
  · split
    · split
      · split
        · split
          · rw [room_beg, room_drp]
          · rw [room_beg, room_drp]
        · exact room_drp _ _
      · split
        · split
          · rw [room_drp, room_trm]
          · rw [room_drp, room_trm]
        · exact room_trm _ _ _
    · rfl
theorem room_apn (s : St) (l : Lg) (b : ByteArray) : (apn s l b).2.1.room = s.room := by
  unfold apn
  split
  · rfl
  · split
    · split
      · rw [room_stp, room_app]
      · exact room_app _ _ _
    · rfl
theorem room_trn (s : St) (l : Lg) (b : ByteArray) : (trn s l b).2.1.room = s.room := by
  unfold trn
  split
  · rfl
  · split
    · rfl
    · split
      · rw [room_stp, room_beg]
      · exact room_beg _ _ _
/- at rest an opening changes nothing -/
theorem opn_rest {s : St} {l : Lg} {h : Bo} (hr : Re s l h) (b : ByteArray) : opn s b = ⟨some l, h, 0, s⟩ := by
  have hlk := look_one l.n h [] (Sl.cat 3 h).length (Sl.cat 3 h).length hr.gd (by simp) (by simp) (Nat.le_refl _) (by simp)
  rw [List.append_nil, List.take_length, if_pos rfl] at hlk
  have hlk2 : Sg.look s.L = ⟨l.n, (Sl.cat 3 h).length, h, [], 0⟩ := by rw [hr.at_.eq]; exact hlk
  rw [opn_some hr.at_.up hlk2 hr.n01.1]
  have hg1 : Dk.get [fl l.n h] l.n = fl l.n h := get_1 (fl l.n h)
  have e1 : trm s l.n (Sl.cat 3 h).length = (0, s) := by
    unfold trm
    rw [hr.at_.eq, hg1, if_neg (by simp only [fl, ct_size]; omega)]
  rw [e1]
  simp only [if_true, show drp s [] = (0, s) from rfl]
  obtain ⟨ln, lz, lb⟩ := l
  have h1 := hr.z
  have h2 := hr.br
  simp only at h1 h2
  rw [h1, h2]
theorem used_1 (n : Int) (h : Bo) : used [fl n h] = (Sl.cat 3 h).length := by simp [used, fl, ct_size]
theorem apn_fit {s : St} {l : Lg} {h : Bo} (hr : Re s l h) (hl : s.left = 0) {b : ByteArray} (hb : b.size ≤ 30000) (hf : (((Sl.cat 3 h).length + (fr b).size : Nat) : Int) ≤ s.room) : (apn s l b).1 = 0 := by
  obtain ⟨n0, n1⟩ := hr.n01
  have hne : appE s l.n (fr b) ≠ 151 := app_full hr.at_ n0 n1 (by simp) (by rw [used_1]; omega)
  have hd := apn_re hr b
  have h3 : (apn s l b).1 ≠ 3 ∧ (apn s l b).1 ≠ 151 ∧ ((apn s l b).1 = 0 ∨ (apn s l b).1 = 150) := by
    unfold apn
    rw [hr.br]
    simp only [Bool.false_eq_true, if_false]
    rw [if_pos hb]
    have hL : ins (ext [fl l.n h] l.n (fr b)) [fl l.n h] = [⟨l.n, ct h ++ fr b, (Sl.cat 3 h).length⟩] := by
      unfold ext
      have := get_1 (fl l.n h)
      rw [show (fl l.n h).n = l.n from rfl] at this
      rw [this]
      simp [ins, fl]
    rcases app_or hr.at_ n0 n1 (fr_ne b) with ⟨a1, a2⟩ | ⟨a1, a2, a3, _⟩ | ⟨a1, a2, a3⟩
    · exact absurd a1 hne
    · rw [if_pos a1]
      rw [hL] at a2
      rcases step_or a2 (q := 1) (n := l.n) (k := 0) (has_1 ⟨l.n, ct h ++ fr b, (Sl.cat 3 h).length⟩) (by omega) with ⟨q1, _⟩ | ⟨q1, _⟩
      · rw [q1]; exact ⟨by simp, by simp, Or.inl rfl⟩
      · rw [q1]; exact ⟨by simp, by simp, Or.inr rfl⟩
    · exact absurd hl a2
  generalize (apn s l b).1 = e at *
  generalize (apn s l b).2.1 = s' at *
  generalize (apn s l b).2.2 = l' at *
  rcases hd with ⟨h0, _⟩ | ⟨h0, h1, _⟩ | ⟨_, hl2, _⟩
  · exact h0
  · omega
  · exact absurd hl hl2
theorem trn_fit {s : St} {l : Lg} {h : Bo} (hr : Re s l h) (hl : s.left = 0) (hn : l.n ≠ 1000000) {b : ByteArray} (hb : b.size ≤ 30000) (hf : (((Sl.cat 3 h).length + (fr b).size : Nat) : Int) ≤ s.room) : (trn s l b).1 = 0 := by
  obtain ⟨n0, n1⟩ := hr.n01
  have hne : appE s (l.n + 1) (fr b) ≠ 151 := app_full hr.at_ (by omega) (by omega) (by simp) (by rw [used_1]; omega)
  have hd := trn_re hr b
  have h3 : (trn s l b).1 ≠ 3 ∧ (trn s l b).1 ≠ 151 ∧ ((trn s l b).1 = 0 ∨ (trn s l b).1 = 150) := by
    have hL : ins (ext [fl l.n h] (l.n + 1) (fr b)) [fl l.n h] = [fl l.n h, ⟨l.n + 1, fr b, 0⟩] := by
      have hg : Dk.get [fl l.n h] (l.n + 1) = zf 0 := Dk.get_not (by simp [has, fl]; omega)
      unfold ext
      rw [hg]
      have e1 : ¬ l.n + 1 < l.n := by omega
      have e2 : ¬ l.n + 1 = l.n := by omega
      have e3 : (⟨#[]⟩ : ByteArray) ++ fr b = fr b := by
        unfold fr
        exact mk_app [] _
      simp [ins, fl, e1, e2, e3]
    unfold trn
    rw [hr.br]
    simp only [Bool.false_eq_true, if_false]
    rw [if_neg hn]
    have hbg : beg s (l.n + 1) b = if appE s (l.n + 1) (fr b) = 0 then (((fr b).size : Int), stpE (appS s (l.n + 1) (fr b)) 1 (l.n + 1) 0, stpS (appS s (l.n + 1) (fr b)) 1 (l.n + 1) 0) else (0, appE s (l.n + 1) (fr b), appS s (l.n + 1) (fr b)) := by
      unfold beg; rw [if_pos hb]
    rcases app_or hr.at_ (n := l.n + 1) (by omega) (by omega) (fr_ne b) with ⟨a1, a2⟩ | ⟨a1, a2, a3, _⟩ | ⟨a1, a2, a3⟩
    · exact absurd a1 hne
    · rw [if_pos a1] at hbg
      rw [hL] at a2
      have hl1 := a3 hl
      generalize appS s (l.n + 1) (fr b) = s1 at *
      have hlt : (fl l.n h).n < (⟨l.n + 1, fr b, 0⟩ : Fl).n := by show l.n < l.n + 1; omega
      have hg1 := get_2b (f := fl l.n h) (g := ⟨l.n + 1, fr b, 0⟩) hlt
      simp only at hg1
      rcases step_or a2 (q := 1) (n := l.n + 1) (k := 0) (by simp [has]) (by omega) with ⟨q1, q2, q3⟩ | ⟨q1, q2, q3⟩
      · rw [q1] at hbg
        rw [hbg]
        simp only [if_true]
        have hsz : siz 1 (⟨l.n + 1, fr b, 0⟩ : Fl) 0 = ((fr b).size : Int) := by simp [siz]
        rw [hg1, hsz, put_2 hlt (by rw [fr_size]; exact Sg.frame_pos 3 _)] at q2
        rcases step_or q2 (q := 3) (n := l.n) (k := 0) (by simp [has, fl]) (by omega) with ⟨p1, _⟩ | ⟨p1, _⟩
        · rw [p1]; exact ⟨by decide, by decide, Or.inl rfl⟩
        · rw [p1]; exact ⟨by decide, by decide, Or.inr rfl⟩
      · exact absurd hl1 q2
    · exact absurd hl a2
  generalize (trn s l b).1 = e at *
  generalize (trn s l b).2.1 = s' at *
  generalize (trn s l b).2.2 = l' at *
  rcases hd with ⟨h0, _⟩ | ⟨h0, h1, _⟩ | ⟨_, hl2, _⟩
  · exact h0
  · omega
  · exact absurd hl hl2
theorem trn_num {s : St} {l : Lg} {b : ByteArray} (h : (trn s l b).1 = 0) : (trn s l b).2.2.n = l.n + 1 := by
  unfold trn at h ⊢
  split
  · rename_i c; rw [if_pos c] at h; cases h
  · rename_i c
    rw [if_neg c] at h
    split
    · rename_i d; rw [if_pos d] at h; cases h
    · rename_i d
      rw [if_neg d] at h
      split
      · unfold tol
        split <;> rfl
      · rename_i f
        rw [if_neg f] at h
        exact absurd h f
theorem apn_num (s : St) (l : Lg) (b : ByteArray) : (apn s l b).2.2.n = l.n := by
  unfold apn tol
  split
  · rfl
  · split
    · split
      · split <;> rfl
      · split <;> rfl
    · rfl
end Go.Proofs.YtojmhhmpmpbpfaaGreatDoor.Wl
namespace Go.Proofs.YtojmhhmpmpbpfaaGreatDoor
open Go.RowKit

set_option maxHeartbeats 400000 in
set_option maxRecDepth 100000 in
theorem refText_any (s : ByteArray) (w : World) (hs : s.size ≤ 140737488355328) :
    Calls Tryz.prog 85 #[.string s] w fun e w' => e = .returned (.string ⟨(Pk.text s.data.toList).toArray⟩) ∧ Gr w w' := by
  have hsz : s.data.toList.length = s.size := by simp
  have hl := Pk.num_len s.size
  have hadd := add_lists (Pk.num s.size) s.data.toList (by omega)
  rw [mk_data] at hadd
  have he : Pk.text s.data.toList = Pk.num s.size ++ s.data.toList := by rw [Pk.text, hsz]
  rw [he]
  have HN : Hid (∀ w : World, Calls Tryz.prog 103 #[.int .u64 s.size] w fun e w' => e = .returned (.string ⟨(Pk.num s.size).toArray⟩) ∧ Gr w w') := fun w => refNumber_any 9 s.size w (by omega) (by omega) (by omega)
  generalize Pk.num s.size = t at *
  clear he hsz hl
  go_enter Tryz.func85, Tryz.ntmps85
  go_wp2_with fail
  refine (HN.out _).mono ?_
  rintro e w1 ⟨rfl, hg1⟩
  go_wp2
  go_ret
  exact ⟨rfl, (by repeat (first | exact Gr.refl _ | refine Gr.alloc ?_ | refine Gr.drew ?_ | refine Gr.trans ?_ (by assumption)))⟩
end Go.Proofs.YtojmhhmpmpbpfaaGreatDoor
namespace Go.Proofs
open Go.Shelf
def Tryz.wr_ren : Go.Shelf.Ren := ⟨fun | 166 => 72 | 240 => 94 | 276 => 108 | n => n, fun | 0 => 0 | 3 => 3 | 4 => 4 | 5 => 5 | 9 => 9 | 20 => 20 | 70 => 122 | 72 => 125 | 37 => 123 | 75 => 128 | 80 => 131 | 164 => 165 | n => n, fun | n => n⟩
theorem Tryz.wr_lays : Go.Proofs.Lays.n166 Tryz.prog Tryz.wr_ren := {
  mixed := by kernel_rfl
  f166 := Tryz.func72.trans (congrArg some (by kernel_rfl))
  f240 := Tryz.func94.trans (congrArg some (by kernel_rfl))
  f276 := Tryz.func108.trans (congrArg some (by kernel_rfl))
  t0 := Tryz.underlying0
  a0 := Tryz.isAgg0
  z0 := Tryz.sizeOf0
  v0 := Tryz.zeroValue0
  t3 := Tryz.underlying3
  a3 := Tryz.isAgg3
  z3 := Tryz.sizeOf3
  v3 := Tryz.zeroValue3
  t4 := Tryz.underlying4
  a4 := Tryz.isAgg4
  z4 := Tryz.sizeOf4
  v4 := Tryz.zeroValue4
  t9 := Tryz.underlying9
  a9 := Tryz.isAgg9
  z9 := Tryz.sizeOf9
  v9 := Tryz.zeroValue9
  t20 := Tryz.underlying20
  a20 := Tryz.isAgg20
  z20 := Tryz.sizeOf20
  v20 := Tryz.zeroValue20
  t37 := Tryz.underlying123
  a37 := Tryz.isAgg123
  z37 := Tryz.sizeOf123
  v37 := Tryz.zeroValue123
  t70 := Tryz.underlying122
  a70 := Tryz.isAgg122
  z70 := Tryz.sizeOf122
  v70 := Tryz.zeroValue122
  t72 := Tryz.underlying125
  a72 := Tryz.isAgg125
  z72 := Tryz.sizeOf125
  v72 := Tryz.zeroValue125
  t75 := Tryz.underlying128
  a75 := Tryz.isAgg128
  z75 := Tryz.sizeOf128
  v75 := Tryz.zeroValue128
  t164 := Tryz.underlying165
  a164 := Tryz.isAgg165
  z164 := Tryz.sizeOf165
  v164 := Tryz.zeroValue165 }
theorem Tryz.wr_extra : Builder.Extra Tryz.prog Tryz.wr_ren := {
  sizeBuilder := by kernel_rfl
  liesBuilder := by kernel_rfl
  t5 := Tryz.underlying5
  a5 := Tryz.isAgg5
  z5 := Tryz.sizeOf5
  v5 := Tryz.zeroValue5
  infoByte := by kernel_rfl
  cellsByte := by kernel_rfl
  sizeByte := by kernel_rfl
  neB5 := by decide }
open Go.RowKit in
theorem Tryz.writeString (B b : Nat) (bs : List Value) (s : ByteArray) (w : World) (h : Lib.IsBuilder 125 5 B b bs w) (hlen : bs.length + s.size ≤ 140737488355328) (hBw : B ≤ w.heap.size) :
    Calls Tryz.prog 72 #[.pointer (some ⟨b, 0, none⟩), .string s] w fun e w' => e = .returned (.tuple #[.int .i64 s.size, .nilIface]) ∧ (Lib.BuilderAt 125 5 B b (.pointer (some ⟨b, 0, none⟩)) (bs ++ Lib.strCells s) w' ∧ Below B w w') := Any.Builder_WriteString Tryz.wr_lays Tryz.wr_extra B b bs s w h hlen hBw
end Go.Proofs
