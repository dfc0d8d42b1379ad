/- Parts of these proofs, laid together. -/
import Derived.Test.YtojmhhmpmpbpfaaGreatDoorGF
import Derived.Test.YtojmhhmpmpbpfaaGreatDoorGE
import Derived.Test.YtojmhhmpmpbpfaaGreatDoorGA
namespace Go.Proofs.YtojmhhmpmpbpfaaGreatDoor.Wl
open Dk (Fl St Ok Up Fo zf get has del ins put used appE appS stpE stpS cntE cntS chS fst siz fallA cutF one kf ext emp)
abbrev Bo := List (List UInt8)
def ct (h : Bo) : ByteArray := ⟨(Sl.cat 3 h).toArray⟩
theorem ct_size (h : Bo) : (ct h).size = (Sl.cat 3 h).length := mk_size _
theorem cat_one (b : List UInt8) : Sl.cat 3 [b] = Sl.frame 3 b := by simp [Sl.cat]
theorem cat_pos {h : Bo} (hn : h ≠ []) : 0 < (Sl.cat 3 h).length := by
  cases h with
  | nil => exact absurd rfl hn
  | cons b r => rw [Sl.cat_cons, List.length_append]; have := Sg.frame_pos 3 b; omega
/- a file with all bodies, synced -/
def fl (n : Int) (h : Bo) : Fl := ⟨n, ct h, (Sl.cat 3 h).length⟩
def Gd (h : Bo) : Prop := h ≠ [] ∧ ∀ x ∈ h, x.length ≤ 30000
theorem Gd.snoc {h : Bo} (hg : Gd h) {b : List UInt8} (hb : b.length ≤ 30000) : Gd (h ++ [b]) := by
  refine ⟨by simp, fun x hx => ?_⟩
  rcases List.mem_append.1 hx with hx | hx
  · exact hg.2 x hx
  · simp at hx; subst hx; exact hb
theorem Gd.one {b : List UInt8} (hb : b.length ≤ 30000) : Gd [b] := ⟨by simp, fun x hx => by simp at hx; subst hx; exact hb⟩
/- at rest: one file, with all bodies -/
structure Re (s : St) (l : Lg) (h : Bo) : Prop where
  at_ : At s [fl l.n h]
  z : l.z = (Sl.cat 3 h).length
  br : l.br = false
  gd : Gd h
/- what an opening may meet, and the bodies that it tells -/
structure P1 (h t : Bo) (c : Nat) : Prop where
  hg : Gd h
  ht : ∀ x ∈ t, x.length ≤ 30000
  hl : t.length ≤ 1
  h0 : (Sl.cat 3 h).length ≤ c
  h1 : c ≤ (Sl.cat 3 (h ++ t)).length
structure P2 (n m : Int) (h : Bo) (b : List UInt8) (c : Nat) : Prop where
  hg : Gd h
  hb : b.length ≤ 30000
  hnm : n < m
  h0 : 1 ≤ c
  h1 : c ≤ (Sl.frame 3 b).length
def Pre (L : List Fl) (r : Bo) : Prop :=
  (∃ (n : Int) (h t : Bo) (c : Nat), P1 h t c ∧ L = [⟨n, ⟨((Sl.cat 3 (h ++ t)).take c).toArray⟩, c⟩] ∧ r = if c = (Sl.cat 3 (h ++ t)).length then h ++ t else h) ∨
  (∃ (n m : Int) (h : Bo) (b : List UInt8) (c : Nat), P2 n m h b c ∧ L = [fl n h, ⟨m, ⟨((Sl.frame 3 b).take c).toArray⟩, c⟩] ∧ r = if c = (Sl.frame 3 b).length then [b] else h)
theorem Pre.one (n : Int) (h t : Bo) (c : Nat) (hg : Gd h) (ht : ∀ x ∈ t, x.length ≤ 30000) (hl : t.length ≤ 1) (h0 : (Sl.cat 3 h).length ≤ c) (h1 : c ≤ (Sl.cat 3 (h ++ t)).length) :
    Pre [⟨n, ⟨((Sl.cat 3 (h ++ t)).take c).toArray⟩, c⟩] (if c = (Sl.cat 3 (h ++ t)).length then h ++ t else h) := Or.inl ⟨n, h, t, c, ⟨hg, ht, hl, h0, h1⟩, rfl, rfl⟩
theorem Pre.two (n m : Int) (h : Bo) (b : List UInt8) (c : Nat) (hg : Gd h) (hb : b.length ≤ 30000) (hnm : n < m) (h0 : 1 ≤ c) (h1 : c ≤ (Sl.frame 3 b).length) :
    Pre [fl n h, ⟨m, ⟨((Sl.frame 3 b).take c).toArray⟩, c⟩] (if c = (Sl.frame 3 b).length then [b] else h) := Or.inr ⟨n, m, h, b, c, ⟨hg, hb, hnm, h0, h1⟩, rfl, rfl⟩
theorem pre_rest (n : Int) {h : Bo} (hg : Gd h) : Pre [fl n h] h := by
  have := Pre.one n h [] (Sl.cat 3 h).length hg (by simp) (by simp) (Nat.le_refl _) (by simp)
  rw [List.append_nil, List.take_length, if_pos rfl] at this
  exact this
theorem pre_sy {L : List Fl} {r : Bo} (h : Pre L r) : Sy L := by
  rcases h with ⟨n, h, t, c, ⟨hg, ht, hl, h0, h1⟩, rfl, rfl⟩ | ⟨n, m, h, b, c, ⟨hg, hb, hnm, h0, h1⟩, rfl, rfl⟩
  · intro f hf
    simp only [List.mem_singleton] at hf
    subst hf
    have := cat_pos hg.1
    simp only [mk_size, List.length_take]
    omega
  · intro f hf
    simp only [List.mem_cons, List.not_mem_nil, or_false] at hf
    rcases hf with rfl | rfl
    · have := cat_pos hg.1
      exact ⟨by simp only [fl, ct_size], by simp only [fl, ct_size]; omega⟩
    · simp only [mk_size, List.length_take]
      omega
theorem pre_gd {L : List Fl} {r : Bo} (h : Pre L r) : Gd r := by
  rcases h with ⟨n, h, t, c, ⟨hg, ht, hl, h0, h1⟩, rfl, rfl⟩ | ⟨n, m, h, b, c, ⟨hg, hb, hnm, h0, h1⟩, rfl, rfl⟩
  · split
    · refine ⟨by intro e; exact hg.1 (List.append_eq_nil_iff.1 e).1, fun x hx => ?_⟩
      rcases List.mem_append.1 hx with hx | hx
      · exact hg.2 x hx
      · exact ht x hx
    · exact hg
  · split
    · exact Gd.one hb
    · exact hg
/- Look of one file -/
theorem look_one (n : Int) (h t : Bo) (c : Nat) (y : Int) (hg : Gd h) (ht : ∀ x ∈ t, x.length ≤ 30000) (hl : t.length ≤ 1) (h0 : (Sl.cat 3 h).length ≤ c) (h1 : c ≤ (Sl.cat 3 (h ++ t)).length) :
    Sg.look [⟨n, ⟨((Sl.cat 3 (h ++ t)).take c).toArray⟩, y⟩] = ⟨n, (Sl.cat 3 (if c = (Sl.cat 3 (h ++ t)).length then h ++ t else h)).length, if c = (Sl.cat 3 (h ++ t)).length then h ++ t else h, [], 0⟩ := by
  obtain ⟨hne, hgb⟩ := hg
  cases h with
  | nil => exact absurd rfl hne
  | cons b r =>
    have hb := hgb b (by simp)
    have hr : ∀ x ∈ r ++ t, x.length ≤ 30000 := by
      intro x hx
      rcases List.mem_append.1 hx with hx | hx
      · exact hgb x (by simp [hx])
      · exact ht x hx
    have hf : (Sl.frame 3 b).length ≤ c := by rw [Sl.cat_cons, List.length_append] at h0; omega
    by_cases hc : c = (Sl.cat 3 (b :: r ++ t)).length
    · have := Sg.look_cut n y b (r ++ t) hb hr c (r ++ t).length hf h1 (Nat.le_refl _) (by rw [List.take_length]; exact Nat.le_of_eq hc.symm) (Or.inl rfl)
      rw [List.take_length] at this
      rw [if_pos hc]
      exact this
    · have hlt : c < (Sl.cat 3 (b :: r ++ t)).length := by omega
      have ht1 : t.length = 1 := by
        cases t with
        | nil => rw [List.append_nil] at hlt; omega
        | cons x q => simp at hl ⊢; exact hl
      have := Sg.look_cut n y b (r ++ t) hb hr c r.length hf h1 (by simp) (by rw [List.take_left]; exact h0) (Or.inr (by rw [show r.length + 1 = (r ++ t).length by rw [List.length_append, ht1], List.take_length]; exact hlt))
      rw [List.take_left] at this
      rw [if_neg hc]
      exact this
/- Look of two files -/
theorem look_two (n m : Int) (h : Bo) (b : List UInt8) (c : Nat) (x y : Int) (hg : Gd h) (hb : b.length ≤ 30000) (hnm : n < m) (h0 : 1 ≤ c) (h1 : c ≤ (Sl.frame 3 b).length) :
    Sg.look [⟨n, ct h, x⟩, ⟨m, ⟨((Sl.frame 3 b).take c).toArray⟩, y⟩] = if c = (Sl.frame 3 b).length then ⟨m, (Sl.frame 3 b).length, [b], [n], 0⟩ else ⟨n, (Sl.cat 3 h).length, h, [m], 0⟩ := by
  obtain ⟨hne, hgb⟩ := hg
  have hrs : Sg.rise [(⟨n, ct h, x⟩ : Fl), ⟨m, ⟨((Sl.frame 3 b).take c).toArray⟩, y⟩] = true := by simp [Sg.rise, hnm]
  have hk : Sg.hd ⟨m, ⟨((Sl.frame 3 b).take c).toArray⟩, y⟩ = if (Sl.frame 3 b).length ≤ c then 0 else 10 := by
    unfold Sg.hd
    simp only
    have := Sg.open_front b [] hb c h0 (by rw [List.append_nil]; exact h1)
    rw [List.append_nil] at this
    rw [this]
    split <;> rfl
  have hh : Sg.hd ⟨n, ct h, x⟩ = 0 := by
    cases h with
    | nil => exact absurd rfl hne
    | cons b' r =>
      unfold Sg.hd ct
      simp only
      rw [Sl.cat_cons]
      have := Sg.open_front b' (Sl.cat 3 r) (hgb b' (by simp)) _ (by have := Sg.frame_pos 3 b'; rw [List.length_append]; omega) (Nat.le_refl _)
      rw [List.take_length, if_pos (by rw [List.length_append]; omega)] at this
      rw [this]
  unfold Sg.look
  rw [if_pos hrs, show [(⟨n, ct h, x⟩ : Fl), ⟨m, ⟨((Sl.frame 3 b).take c).toArray⟩, y⟩].length = 2 from rfl]
  by_cases hc : c = (Sl.frame 3 b).length
  · rw [if_pos (by omega)] at hk
    have hlw : Sg.lw [(⟨n, ct h, x⟩ : Fl), ⟨m, ⟨((Sl.frame 3 b).take c).toArray⟩, y⟩] 2 = (1, 0) := by
      rw [Sg.lw, Sg.at_eq _ 1 (by simp), if_pos (by simpa using hk)]
      rfl
    rw [hlw, if_pos rfl, if_neg (by decide), if_pos hc]
    unfold Sg.found
    rw [show ((1 : Int), (0 : Int)).1.toNat = 1 from rfl, Sg.at_eq _ 1 (by simp)]
    simp only [List.getElem_cons_succ, List.getElem_cons_zero]
    unfold Sg.cut
    simp only
    have hcu := Sg.cut_all [b] (Gd.one hb).2
    rw [cat_one] at hcu
    rw [hc, List.take_length, hcu, if_pos (Or.inl rfl)]
    rfl
  · rw [if_neg (by omega)] at hk
    have hlw : Sg.lw [(⟨n, ct h, x⟩ : Fl), ⟨m, ⟨((Sl.frame 3 b).take c).toArray⟩, y⟩] 2 = (0, 0) := by
      rw [Sg.lw, Sg.at_eq _ 1 (by simp), if_neg (by simp [hk]), if_pos (by simpa using hk), Sg.lw, Sg.at_eq _ 0 (by simp), if_pos (by simpa using hh)]
      rfl
    rw [hlw, if_pos rfl, if_neg (by decide), if_neg hc]
    unfold Sg.found
    rw [show ((0 : Int), (0 : Int)).1.toNat = 0 from rfl, Sg.at_eq _ 0 (by simp)]
    simp only [List.getElem_cons_zero]
    unfold Sg.cut
    have hcu := Sg.cut_all h hgb
    unfold ct
    simp only
    rw [hcu, if_pos (Or.inl rfl)]
    rfl
/- rows of one or two files -/
theorem get_1 (f : Fl) : get [f] f.n = f := by simp [Dk.get]
theorem has_1 (f : Fl) : has [f] f.n = true := by simp [has]
theorem get_2a {f g : Fl} : get [f, g] f.n = f := by simp [Dk.get]
theorem get_2b {f g : Fl} (h : f.n < g.n) : get [f, g] g.n = g := by
  have : ¬ f.n = g.n := by omega
  simp [Dk.get, this]
theorem put_0a {f g : Fl} (h : f.n < g.n) : put (fst f 0) [f, g] = [g] := by
  have h1 : emp (fst f 0) = true := by simp [emp, fst]
  unfold put
  rw [h1, if_pos rfl]
  have : ¬ g.n = f.n := by omega
  simp [del, fst, this]
theorem put_0b {f g : Fl} (h : f.n < g.n) : put (fst g 0) [f, g] = [f] := by
  have h1 : emp (fst g 0) = true := by simp [emp, fst]
  unfold put
  rw [h1, if_pos rfl]
  have : ¬ f.n = g.n := by omega
  simp [del, fst, this]
theorem put_1 {f : Fl} {k : Nat} (hk : 1 ≤ k) : put (fst f k) [f] = [fst f k] := by
  have h1 : emp (fst f k) = false := by
    unfold emp fst
    simp
    intro _
    omega
  unfold put
  rw [h1]
  simp [ins, fst]
end Go.Proofs.YtojmhhmpmpbpfaaGreatDoor.Wl
namespace Go.Proofs.YtojmhhmpmpbpfaaGreatDoor.Wl
open Dk (Fl St Ok Up Fo zf has del ins put used appE appS stpE stpS cntE cntS chS fst siz fallA cutF one kf ext emp)

theorem take_cat (h t : Bo) : (Sl.cat 3 (h ++ t)).take (Sl.cat 3 h).length = Sl.cat 3 h := by rw [Sl.cat_append, List.take_left]
theorem fst_fl {n : Int} {h t : Bo} {c : Nat} {y : Int} (h0 : (Sl.cat 3 h).length ≤ c) : fst ⟨n, ⟨((Sl.cat 3 (h ++ t)).take c).toArray⟩, y⟩ ((Sl.cat 3 h).length : Nat) = fl n h := by
  unfold fst fl ct
  simp only [Int.toNat_natCast]
  rw [ext_take, List.take_take, Nat.min_eq_left h0, take_cat]
theorem one_fl {n : Int} {h t : Bo} {c : Nat} (hc : (Sl.cat 3 (if c = (Sl.cat 3 (h ++ t)).length then h ++ t else h)).length = c) : (⟨n, ⟨((Sl.cat 3 (h ++ t)).take c).toArray⟩, c⟩ : Fl) = fl n (if c = (Sl.cat 3 (h ++ t)).length then h ++ t else h) := by
  unfold fl ct
  rw [hc]
  congr 3
  split at hc
  · rename_i e
    rw [if_pos e, e, List.take_length]
  · rename_i e
    rw [if_neg e, ← hc, take_cat]
/- what an opening answers -/
structure Opened (s : St) (o : Op) (r : Bo) : Prop where
  ok : (∃ l, o.lg = some l ∧ o.bo = r ∧ o.er = 0 ∧ Re o.st l r ∧ (s.left = 0 → o.st.left = 0)) ∨ (o.lg = none ∧ o.bo = [] ∧ o.er = 150 ∧ s.left ≠ 0 ∧ ∃ L, Dn o.st L ∧ Pre L r)
theorem opn_some {s : St} {b : ByteArray} {n : Int} {g : Nat} {r : Bo} {d : List Int} (hd : s.dead = false) (hl : Sg.look s.L = ⟨n, g, r, d, 0⟩) (hn : 0 ≤ n) :
    opn s b = if (trm s n g).1 = 0 then (if (drp (trm s n g).2 d).1 = 0 then ⟨some ⟨n, g, false⟩, r, 0, (drp (trm s n g).2 d).2⟩ else ⟨none, [], (drp (trm s n g).2 d).1, (drp (trm s n g).2 d).2⟩) else ⟨none, [], (trm s n g).1, (trm s n g).2⟩ := by
  unfold opn
  rw [hd, hl]
  simp only [Bool.false_eq_true, if_false, if_true]
  rw [if_neg (by omega)]
theorem opn_pre {s : St} {L : List Fl} {r : Bo} (h : At s L) (hp : Pre L r) (b : ByteArray) : Opened s (opn s b) r := by
  have hsy := pre_sy hp
  have hgr := pre_gd hp
  have hpp := hp
  have hfo : ∀ f ∈ L, Fo f := by rw [← h.eq]; exact h.ok.fo
  refine ⟨?_⟩
  rcases hp with ⟨n, h1, t, c, ⟨hg, ht, hl, h0, hc⟩, rfl, rfl⟩ | ⟨n, m, h1, x, c, ⟨hg, hb, hnm, h0, hc⟩, rfl, rfl⟩
  · have hlk := look_one n h1 t c c hg ht hl h0 hc
    rw [← h.eq] at hlk
    generalize hr : (if c = (Sl.cat 3 (h1 ++ t)).length then h1 ++ t else h1) = r at *
    have hn := (hfo ⟨n, ⟨((Sl.cat 3 (h1 ++ t)).take c).toArray⟩, c⟩ (by simp)).n0
    rw [opn_some h.up hlk hn]
    have hcr : (Sl.cat 3 r).length ≤ c := by
      rw [← hr]
      split
      · rename_i e; rw [e]; exact Nat.le_refl _
      · exact h0
    have hrp := cat_pos hgr.1
    have hsz : (Dk.get s.L n).d.size = c := by
      rw [h.eq]
      have := get_1 ⟨n, ⟨((Sl.cat 3 (h1 ++ t)).take c).toArray⟩, c⟩
      simp only at this
      rw [this]
      simp only [mk_size, List.length_take]
      omega
    by_cases hlt : (Sl.cat 3 r).length < c
    · have hrh : r = h1 := by
        rw [← hr]
        split
        · rename_i e
          rw [← hr, if_pos e] at hlt
          omega
        · rfl
      subst hrh
      have e1 : trm s n (Sl.cat 3 r).length = (stpE s 2 n (Sl.cat 3 r).length, stpS s 2 n (Sl.cat 3 r).length) := by
        unfold trm; rw [hsz, if_pos hlt]
      rw [e1]
      have hg1 := get_1 ⟨n, ⟨((Sl.cat 3 (r ++ t)).take c).toArray⟩, c⟩
      simp only at hg1
      rcases step_or h (q := 2) (n := n) (k := (Sl.cat 3 r).length) (by have := has_1 ⟨n, ⟨((Sl.cat 3 (r ++ t)).take c).toArray⟩, c⟩; exact this) (by rw [← h.eq, hsz]; omega) with ⟨q1, q2, q3⟩ | ⟨q1, q2, q3⟩
      · left
        simp only
        rw [if_pos q1, show drp (stpS s 2 n (Sl.cat 3 r).length) [] = (0, stpS s 2 n (Sl.cat 3 r).length) from rfl]
        simp only [if_true]
        refine ⟨⟨n, (Sl.cat 3 r).length, false⟩, (by first | rfl | trivial), (by first | rfl | trivial), (by first | rfl | trivial), ⟨?_, rfl, rfl, hgr⟩, q3⟩
        rw [hg1, show siz 2 ⟨n, ⟨((Sl.cat 3 (r ++ t)).take c).toArray⟩, c⟩ ((Sl.cat 3 r).length : Int) = ((Sl.cat 3 r).length : Nat) by simp [siz], put_1 (by omega), fst_fl hcr] at q2
        exact q2
      · right
        simp only
        rw [if_neg (by rw [q1]; decide)]
        rw [fall_same hsy] at q3
        exact ⟨(by first | rfl | trivial), (by first | rfl | trivial), q1, q2, _, q3, hpp⟩
    · have hce : (Sl.cat 3 r).length = c := by omega
      have e1 : trm s n (Sl.cat 3 r).length = (0, s) := by
        unfold trm; rw [hsz, if_neg hlt]
      rw [e1]
      simp only [if_true, show drp s [] = (0, s) from rfl]
      left
      refine ⟨⟨n, (Sl.cat 3 r).length, false⟩, (by first | rfl | trivial), (by first | rfl | trivial), (by first | rfl | trivial), ⟨?_, rfl, rfl, hgr⟩, fun e => e⟩
      have := one_fl (n := n) (h := h1) (t := t) (c := c) (by rw [hr]; exact hce)
      rw [hr] at this
      rw [this] at h
      exact h
  · have hlk := look_two n m h1 x c (Sl.cat 3 h1).length c hg hb hnm h0 hc
    have hn := (hfo (fl n h1) (by simp)).n0
    have hsl : (fl n h1).n = n := rfl
    by_cases hce : c = (Sl.frame 3 x).length
    · rw [if_pos hce] at hlk ⊢
      have hlk2 : Sg.look s.L = ⟨m, (Sl.frame 3 x).length, [x], [n], 0⟩ := by rw [h.eq]; exact hlk
      rw [opn_some h.up hlk2 (by omega)]
      have hg2 := get_2b (f := fl n h1) (g := ⟨m, ⟨((Sl.frame 3 x).take c).toArray⟩, c⟩) hnm
      simp only at hg2
      have e1 : trm s m (Sl.frame 3 x).length = (0, s) := by
        unfold trm
        rw [h.eq, hg2, if_neg (by simp only [mk_size, List.length_take]; omega)]
      rw [e1]
      simp only [if_true]
      have hg1 := get_2a (f := fl n h1) (g := ⟨m, ⟨((Sl.frame 3 x).take c).toArray⟩, c⟩)
      rw [hsl] at hg1
      have hd : drp s [n] = if stpE s 3 n 0 = 0 then (0, stpS s 3 n 0) else (stpE s 3 n 0, stpS s 3 n 0) := by rw [drp]; rfl
      rw [hd]
      rcases step_or h (q := 3) (n := n) (k := 0) (by simp [has, fl]) (by omega) with ⟨q1, q2, q3⟩ | ⟨q1, q2, q3⟩
      · left
        rw [if_pos q1]
        simp only [if_true]
        refine ⟨⟨m, (Sl.frame 3 x).length, false⟩, (by first | rfl | trivial), (by first | rfl | trivial), (by first | rfl | trivial), ⟨?_, by rw [cat_one], rfl, Gd.one hb⟩, q3⟩
        rw [hg1, show siz 3 (fl n h1) 0 = 0 by simp [siz], put_0a hnm] at q2
        have : (⟨m, ⟨((Sl.frame 3 x).take c).toArray⟩, c⟩ : Fl) = fl m [x] := by
          unfold fl ct
          rw [cat_one, hce, List.take_length]
        rw [this] at q2
        exact q2
      · right
        rw [show (if stpE s 3 n 0 = 0 then ((0 : Int), stpS s 3 n 0) else (stpE s 3 n 0, stpS s 3 n 0)) = (stpE s 3 n 0, stpS s 3 n 0) from if_neg (by rw [q1]; decide)]
        simp only
        rw [if_neg (by rw [q1]; decide)]
        rw [fall_same hsy] at q3
        rw [if_pos hce] at hpp
        exact ⟨(by first | rfl | trivial), (by first | rfl | trivial), q1, q2, _, q3, hpp⟩
    · rw [if_neg hce] at hlk ⊢
      have hlk2 : Sg.look s.L = ⟨n, (Sl.cat 3 h1).length, h1, [m], 0⟩ := by rw [h.eq]; exact hlk
      rw [opn_some h.up hlk2 hn]
      have hg1 := get_2a (f := fl n h1) (g := ⟨m, ⟨((Sl.frame 3 x).take c).toArray⟩, c⟩)
      rw [hsl] at hg1
      have e1 : trm s n (Sl.cat 3 h1).length = (0, s) := by
        unfold trm
        rw [h.eq, hg1, if_neg (by simp only [fl, ct_size]; omega)]
      rw [e1]
      simp only [if_true]
      have hg2 := get_2b (f := fl n h1) (g := ⟨m, ⟨((Sl.frame 3 x).take c).toArray⟩, c⟩) hnm
      simp only at hg2
      have hd : drp s [m] = if stpE s 3 m 0 = 0 then (0, stpS s 3 m 0) else (stpE s 3 m 0, stpS s 3 m 0) := by rw [drp]; rfl
      rw [hd]
      rcases step_or h (q := 3) (n := m) (k := 0) (by simp [has]) (by omega) with ⟨q1, q2, q3⟩ | ⟨q1, q2, q3⟩
      · left
        rw [if_pos q1]
        simp only [if_true]
        refine ⟨⟨n, (Sl.cat 3 h1).length, false⟩, (by first | rfl | trivial), (by first | rfl | trivial), (by first | rfl | trivial), ⟨?_, rfl, rfl, hg⟩, q3⟩
        rw [hg2, show siz 3 ⟨m, ⟨((Sl.frame 3 x).take c).toArray⟩, c⟩ 0 = 0 by simp [siz], put_0b hnm] at q2
        exact q2
      · right
        rw [show (if stpE s 3 m 0 = 0 then ((0 : Int), stpS s 3 m 0) else (stpE s 3 m 0, stpS s 3 m 0)) = (stpE s 3 m 0, stpS s 3 m 0) from if_neg (by rw [q1]; decide)]
        simp only
        rw [if_neg (by rw [q1]; decide)]
        rw [fall_same hsy] at q3
        rw [if_neg hce] at hpp
        exact ⟨(by first | rfl | trivial), (by first | rfl | trivial), q1, q2, _, q3, hpp⟩
end Go.Proofs.YtojmhhmpmpbpfaaGreatDoor.Wl
namespace Go.Proofs.YtojmhhmpmpbpfaaGreatDoor.Dk

theorem ex_ex (d : ByteArray) {i j : Nat} (h : i ≤ j) : (d.extract 0 j).extract 0 i = d.extract 0 i := by
  rw [ByteArray.extract_extract]
  simp [Nat.min_eq_left h]
theorem ex_all (d : ByteArray) {j : Nat} (h : d.size ≤ j) : d.extract 0 j = d := by
  have := ByteArray.extract_zero_max_size (a := d) (i := j)
  rwa [Nat.max_eq_left h] at this
theorem ex_app (d e : ByteArray) {i : Nat} (h : i ≤ d.size) : (d ++ e).extract 0 i = d.extract 0 i := by
  have e1 : e.extract (0 - d.size) (i - d.size) = ByteArray.empty := ByteArray.extract_eq_empty_iff.2 (by omega)
  rw [ByteArray.extract_append, e1, ByteArray.append_empty]
def Sf (s : St) (n : Int) (a : ByteArray) : Prop := a.size = 0 ∨ ∃ f ∈ s.L, f.n = n ∧ (a.size : Int) ≤ f.y ∧ f.d.extract 0 a.size = a
theorem cut_pre {k : Int} {f : Fl} {a : ByteArray} (hf : Fo f) (h1 : (a.size : Int) ≤ f.y) (h2 : f.d.extract 0 a.size = a) : (a.size : Int) ≤ (cutF k f).y ∧ (cutF k f).d.extract 0 a.size = a := by
  have h3 := cut_le (k := k) hf
  refine ⟨by omega, ?_⟩
  have h4 : a.size ≤ (cutF k f).y.toNat := by omega
  show (f.d.extract 0 (cutF k f).y.toNat).extract 0 a.size = a
  rw [ex_ex _ h4, h2]
theorem Sf.fall {s : St} {n : Int} {a : ByteArray} (h : Sf s n a) (hk : Ok s) (keep : List Int) : Sf (fall s keep) n a := by
  rcases h with h | ⟨f, h1, h2, h3, h4⟩
  · exact Or.inl h
  · by_cases c : a.size = 0
    · exact Or.inl c
    · obtain ⟨k, h5 | h5⟩ := fall_of (K := kf keep) (i := 0) h1
      · have := (cut_pre (k := k) (hk.fo f h1) h3 h4).1; omega
      · exact Or.inr ⟨_, h5, h2, cut_pre (hk.fo f h1) h3 h4⟩
theorem Sf.cnt {s : St} {n : Int} {a : ByteArray} (h : Sf s n a) (hk : Ok s) : Sf (cntS s) n a := by
  unfold cntS
  split
  · exact h
  · split
    · exact h
    · exact h.fall hk _
theorem Sf.app {s : St} {n : Int} {a : ByteArray} (h : Sf s n a) (hk : Ok s) (m : Int) (d : ByteArray) : Sf (appS s m d) n a := by
  unfold appS
  split
  · exact h
  · split
    · exact h
    · split
      · exact h
      · split
        · exact h
        · rename_i c1 c2 c3 c4
          refine Sf.cnt ?_ (hk.ext c2 c3 c4).2
          rcases h with h | ⟨f, h1, h2, h3, h4⟩
          · exact Or.inl h
          · by_cases c : f.n = m
            · have e : get s.L m = f := by rw [← c]; exact get_of hk.up h1
              have := (hk.fo f h1).y1
              refine Or.inr ⟨_, self_ins _ _, by rw [← h2, c]; rfl, by simp only [Dk.ext, e]; exact h3, ?_⟩
              simp only [Dk.ext, e]
              rw [ex_app _ _ (by omega), h4]
            · exact Or.inr ⟨f, mem_ins_of h1 c, h2, h3, h4⟩
theorem Sf.put {s : St} {n : Int} {a : ByteArray} (h : Sf s n a) {f : Fl} {k : Int} (hu : Up s.L) (hf : f ∈ s.L) (hy : f.y ≤ f.d.size) (hk : f.n = n → k = f.d.size ∧ 0 < f.d.size) : Sf { s with L := put (fst f k) s.L } n a := by
  rcases h with h | ⟨g, h1, h2, h3, h4⟩
  · exact Or.inl h
  · by_cases c : g.n = f.n
    · obtain rfl := hu.inj h1 hf c
      obtain ⟨e, e0⟩ := hk h2
      have e1 : emp (fst g k) = false := by
        have : ¬ k = 0 := by omega
        simp only [emp, fst, this, decide_false, Bool.and_false]
      have e2 : (fst g k).d = g.d := by
        show g.d.extract 0 k.toNat = g.d
        exact ex_all _ (by omega)
      refine Or.inr ⟨fst g k, ?_, h2, by show (a.size : Int) ≤ k; omega, by rw [e2]; exact h4⟩
      show fst g k ∈ Dk.put (fst g k) s.L
      unfold Dk.put
      rw [e1]
      exact self_ins _ _
    · refine Or.inr ⟨g, ?_, h2, h3, h4⟩
      show g ∈ Dk.put (fst f k) s.L
      unfold Dk.put
      split
      · exact List.mem_filter.2 ⟨h1, decide_eq_true (show g.n ≠ f.n from c)⟩
      · exact mem_ins_of h1 c
theorem cnt_L {s : St} (c : cntE s = 0) : (cntS s).L = s.L := by
  unfold cntE at c
  unfold cntS
  split
  · rfl
  · rename_i c1
    rw [if_neg c1] at c
    split
    · rfl
    · rename_i c2; rw [if_neg c2] at c; cases c
theorem Sf.ch {s : St} {n : Int} {a : ByteArray} (h : Sf s n a) (hok : Ok s) {f : Fl} {k : Int} (hf : f ∈ s.L) (hk : f.n = n → k = f.d.size ∧ 0 < f.d.size) : Sf (chS s (fst f k)) n a := by
  unfold chS
  split
  · rename_i c
    have h1 := h.cnt hok
    have h2 := hok.cnt
    have e := cnt_L c
    rw [← e] at hf ⊢
    exact h1.put h2.up hf (h2.fo f hf).y1 hk
  · exact h.cnt hok
theorem Sf.stp {s : St} {n : Int} {a : ByteArray} (h : Sf s n a) (hok : Ok s) {q m k : Int} (hq : m = n → q = 1) : Sf (stpS s q m k) n a := by
  unfold stpS
  split
  · exact h
  · split
    · exact h
    · rename_i c
      split
      · exact h
      · have hh : has s.L m = true := by cases e : has s.L m with | true => rfl | false => exact absurd e c
        obtain ⟨g1, g2⟩ := get_mem hh
        refine h.ch hok g1 (fun e => ?_)
        have := (hok.fo _ g1).d1
        rw [hq (g2.symm.trans e)]
        exact ⟨rfl, this⟩
theorem Sf.arm {s : St} {n : Int} {a : ByteArray} (h : Sf s n a) (k : Int) (keep : List Int) : Sf (armS s k keep) n a := by
  unfold armS
  split
  · exact h
  · split
    · exact h
    · exact h
theorem Sf.cra {s : St} {n : Int} {a : ByteArray} (h : Sf s n a) (hk : Ok s) (keep : List Int) : Sf (craS s keep) n a := by
  unfold craS
  split
  · exact h
  · exact h.fall hk _
theorem Sf.boo {s : St} {n : Int} {a : ByteArray} (h : Sf s n a) : Sf (booS s) n a := h
/- what holds of it -/
theorem Sf.get {s : St} {n : Int} {a : ByteArray} (h : Sf s n a) (hk : Ok s) (ha : 0 < a.size) : has s.L n = true ∧ (a.size : Int) ≤ (get s.L n).y ∧ a.size ≤ (get s.L n).d.size ∧ (get s.L n).d.extract 0 a.size = a := by
  rcases h with h | ⟨f, h1, h2, h3, h4⟩
  · omega
  · subst h2
    have := (hk.fo f h1).y1
    rw [get_of hk.up h1]
    exact ⟨has_of h1, h3, by omega, h4⟩
/- behind a crash -/
theorem crash_now {K : Nat → Int} {L : List Fl} (hu : Up L) (hf : ∀ f ∈ L, Fo f) {g : Fl} (h : g ∈ fallA K 0 L) :
    has L g.n = true ∧ (get L g.n).y ≤ g.d.size ∧ g.d.size ≤ (get L g.n).d.size ∧ (get L g.n).d.extract 0 g.d.size = g.d ∧ g.y = g.d.size ∧ g.d.size ≠ 0 := by
  obtain ⟨k, f, h1, rfl, h2⟩ := fall_mem h
  have e : get L (cutF k f).n = f := get_of hu h1
  have h3 := cut_size (k := k) (hf f h1)
  have h4 := cut_le (k := k) (hf f h1)
  rw [e]
  refine ⟨(has_of h1 : has L f.n = true), by omega, by omega, ?_, h3.symm, by omega⟩
  show f.d.extract 0 _ = f.d.extract 0 (cutF k f).y.toNat
  congr 1
  omega
theorem crash_was {K : Nat → Int} {L : List Fl} (hf : ∀ f ∈ L, Fo f) {f : Fl} (h : f ∈ L) (hy : 0 < f.y) : has (fallA K 0 L) f.n = true := by
  obtain ⟨k, h1 | h1⟩ := fall_of (K := K) (i := 0) h
  · have := (cut_le (k := k) (hf f h)).2; omega
  · exact (has_of h1 : has _ (cutF k f).n = true)
end Go.Proofs.YtojmhhmpmpbpfaaGreatDoor.Dk
namespace Go.Proofs.YtojmhhmpmpbpfaaGreatDoor
open Go.RowKit
attribute [local go_sem ↓] Go.wp_at_zero Go.wp_at_succ

set_option maxHeartbeats 400000 in
set_option maxRecDepth 100000 in
theorem refNumber_any (f : Nat) : ∀ (n : Nat) (w : World), f ≤ 9 → n < 128 ^ (f + 1) → n < 18446744073709551616 →
    Calls Tryz.prog 103 #[.int .u64 n] w fun e w' => e = .returned (.string ⟨(Pk.numF f n).toArray⟩) ∧ Gr w w' := by
  induction f with
  | zero =>
    intro n w hf9 h h1
    have hlt : n < 128 := by simpa using h
    have hc := fun w b => conv1 w b n (by omega)
    go_enter Tryz.func103, Tryz.ntmps103
    go_wp2
    go_ret
    exact ⟨rfl, (by repeat (first | exact Gr.refl _ | refine Gr.alloc ?_ | refine Gr.drew ?_ | refine Gr.trans ?_ (by assumption)))⟩
  | succ f ih =>
    intro n w hf9 h h1
    by_cases hlt : n < 128
    · have hc := fun w b => conv1 w b n (by omega)
      have e := Pk.numF_lt (f + 1) n hlt
      rw [e]
      clear ih e
      go_enter Tryz.func103, Tryz.ntmps103
      go_wp2
      go_ret
      exact ⟨rfl, (by repeat (first | exact Gr.refl _ | refine Gr.alloc ?_ | refine Gr.drew ?_ | refine Gr.trans ?_ (by assumption)))⟩
    · have hc : ∀ (w : World) (b : Nat), w.cell? ⟨b, 0, none⟩ = some (.int .u8 ((n : Int) % 128 + 128)) → (convert 123 9 (.slice (some ⟨b, 0, none⟩) 1 1)).run Tryz.prog w = .ok (.string ⟨#[UInt8.ofNat (n % 128 + 128)]⟩) w := by
        intro w b hw
        exact conv1 w b (n % 128 + 128) (by omega) (by rw [hw]; simp)
      have ih' : ∀ w : World, Calls Tryz.prog 103 #[.int .u64 ((n : Int) / 128)] w fun e w' => e = .returned (.string ⟨(Pk.numF f (n / 128)).toArray⟩) ∧ Gr w w' := by
        intro w
        have := ih (n / 128) w (by omega) (by rw [Nat.pow_succ] at h; omega) (by omega)
        simpa using this
      have hlen := Pk.numF_len f (n / 128)
      have hE0 : (n : Int).tmod 128 = (n : Int) % 128 := by rw [Int.tmod_eq_emod_of_nonneg (by omega)]
      have hE1 : IntKind.u64.wrap ((n : Int) % 128 + 128) = (n : Int) % 128 + 128 := w64 _ (by omega) (by omega)
      have hE2 : IntKind.u8.wrap ((n : Int) % 128 + 128) = (n : Int) % 128 + 128 := w8 _ (by omega) (by omega)
      have hE3 : IntKind.u64.wrap ((n : Int) / 128) = (n : Int) / 128 := w64 _ (by omega) (by omega)
      have e := Pk.numF_ge f n hlt
      rw [e]
      generalize Pk.numF f (n / 128) = t at *
      generalize UInt8.ofNat (n % 128 + 128) = c at *
      have hadd := add_lists [c] t (by simp; omega)
      clear ih e h hlen
      have IH : Hid (∀ w : World, Calls Tryz.prog 103 #[.int .u64 ((n : Int) / 128)] w fun e w' => e = .returned (.string ⟨t.toArray⟩) ∧ Gr w w') := ih'
      clear ih'
      go_enter Tryz.func103, Tryz.ntmps103
      go_wp2
      go_region_with (go_at_call 103; refine (IH.out _).mono ?_; rintro e w1 ⟨rfl, hb1⟩; obtain ⟨hc1, hf1⟩ := hb1.cells)
      all_goals go_wp2
      all_goals go_ret
      all_goals exact ⟨rfl, (by repeat (first | exact Gr.refl _ | refine Gr.alloc ?_ | refine Gr.drew ?_ | refine Gr.trans ?_ (by assumption)))⟩
end Go.Proofs.YtojmhhmpmpbpfaaGreatDoor
