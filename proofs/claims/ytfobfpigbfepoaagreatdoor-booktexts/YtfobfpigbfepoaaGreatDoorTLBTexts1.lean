/- What the proof is made of, part 1. -/
import Derived.Lib.ItoaNum
namespace Go.Proofs.YtfobfpigbfepoaaGreatDoor.Csh
def okB (s : Int) : Bool := decide (-9223372036854775808 ≤ s) && decide (s ≤ 9223372036854775807)
def valE (s : Int) : Int := if okB s = true then s else 0
end Go.Proofs.YtfobfpigbfepoaaGreatDoor.Csh
namespace Go.Proofs.YtfobfpigbfepoaaGreatDoor.Pot
def mayB (h i o : Int) : Bool := decide (0 ≤ i) && decide (i ≤ h) && decide (0 ≤ o) && decide (h + o ≤ 1000000000000000)
def chkE (h i o : Int) : Int := if mayB h i o = true then 0 else 2
theorem may_iff (h i o : Int) : mayB h i o = true ↔ 0 ≤ i ∧ i ≤ h ∧ 0 ≤ o ∧ h + o ≤ 1000000000000000 := by
  unfold mayB; simp only [Bool.and_eq_true, decide_eq_true_eq]; omega
end Go.Proofs.YtfobfpigbfepoaaGreatDoor.Pot
namespace Go.Proofs.YtfobfpigbfepoaaGreatDoor.Act
def letB (b : UInt8) : Bool := decide ((97 : Int) ≤ (b.toNat : Int)) && decide ((b.toNat : Int) ≤ 122)
def digB (b : UInt8) : Bool := decide ((48 : Int) ≤ (b.toNat : Int)) && decide ((b.toNat : Int) ≤ 57)
def sgnB (b : UInt8) : Bool := letB b || digB b
def headB : List UInt8 → Bool
  | [] => false
  | b :: _ => letB b
def nameB (s : ByteArray) : Bool := decide (s.size ≤ 16) && headB s.data.toList && s.data.toList.all sgnB
theorem head_get (s : ByteArray) (h : 0 < s.size) : headB s.data.toList = letB (s[0]'h) := by
  have hl : s.data.toList.length = s.size := by simp
  have h0 : s.data.toList[0]'(by omega) = s[0]'h := rfl
  cases hc : s.data.toList with
  | nil => rw [hc] at hl; simp at hl; omega
  | cons b t => simp only [hc] at h0; rw [← h0]; rfl
theorem head_none (s : ByteArray) (h : s.size = 0) : headB s.data.toList = false := by
  have hl : s.data.toList.length = s.size := by simp
  cases hc : s.data.toList with
  | nil => rfl
  | cons b t => rw [hc] at hl; simp at hl; omega
theorem name_empty (s : ByteArray) (h : s.size = 0) : nameB s = false := by unfold nameB; rw [head_none s h]; simp
theorem name_long (s : ByteArray) (h : 16 < s.size) : nameB s = false := by unfold nameB; rw [decide_eq_false (by omega)]; rfl
theorem name_head (s : ByteArray) (h : 0 < s.size) (hb : letB (s[0]'h) = false) : nameB s = false := by unfold nameB; rw [head_get s h, hb]; simp
theorem name_sign (s : ByteArray) (k : Nat) (h : k < s.size) (hb : sgnB (s[k]'h) = false) : nameB s = false := by
  have hl : s.data.toList.length = s.size := by simp
  have hk : s.data.toList[k]'(by omega) = s[k]'h := rfl
  have : s.data.toList.all sgnB = false := by
    rw [List.all_eq_false]
    exact ⟨_, List.getElem_mem (by omega : k < s.data.toList.length), by rw [hk, hb]; simp⟩
  unfold nameB; rw [this]; simp
theorem name_yes (s : ByteArray) (h : 0 < s.size) (h16 : s.size ≤ 16) (hb : letB (s[0]'h) = true) (ha : ∀ j (hj : j < s.size), sgnB (s[j]'hj) = true) : nameB s = true := by
  have hl : s.data.toList.length = s.size := by simp
  have : s.data.toList.all sgnB = true := by
    rw [List.all_eq_true]
    intro b hm
    obtain ⟨j, hj, rfl⟩ := List.getElem_of_mem hm
    exact ha j (by omega)
  unfold nameB; rw [this, head_get s h, hb, decide_eq_true h16]; rfl
theorem sgn_let {b : UInt8} (h : letB b = true) : sgnB b = true := by unfold sgnB; rw [h]; rfl
theorem sgn_dig {b : UInt8} (h : digB b = true) : sgnB b = true := by unfold sgnB; rw [h]; simp
theorem sgn_no {b : UInt8} (h : letB b = false) (h2 : digB b = false) : sgnB b = false := by unfold sgnB; rw [h, h2]; rfl
theorem dig_let {b : UInt8} (h : digB b = true) : letB b = false := by
  unfold digB at h
  unfold letB
  simp only [Bool.and_eq_true, decide_eq_true_eq] at h
  rw [decide_eq_false (by omega)]; rfl
theorem name_pos {s : ByteArray} (h : nameB s = true) : 0 < s.size ∧ s.size ≤ 16 := by
  refine ⟨?_, ?_⟩
  · by_cases hz : s.size = 0
    · rw [name_empty s hz] at h; cases h
    · omega
  · by_cases hz : 16 < s.size
    · rw [name_long s hz] at h; cases h
    · omega
def actB (k : Int) (s : ByteArray) (n : Int) : Bool := decide (1 ≤ k) && decide (k ≤ 4) && nameB s && decide (1 ≤ n) && decide (n ≤ 1000000000000000)
def chkE (k : Int) (s : ByteArray) (n : Int) : Int := if actB k s n = true then 0 else 60
theorem act_iff (k : Int) (s : ByteArray) (n : Int) : actB k s n = true ↔ (1 ≤ k ∧ k ≤ 4) ∧ nameB s = true ∧ 1 ≤ n ∧ n ≤ 1000000000000000 := by
  unfold actB; simp only [Bool.and_eq_true, decide_eq_true_eq]; constructor
  · rintro ⟨⟨⟨⟨a, b⟩, c⟩, d⟩, e⟩; exact ⟨⟨a, b⟩, c, d, e⟩
  · rintro ⟨⟨a, b⟩, c, d, e⟩; exact ⟨⟨⟨⟨a, b⟩, c⟩, d⟩, e⟩
theorem chk_yes {k : Int} {s : ByteArray} {n : Int} (h : actB k s n = true) : chkE k s n = 0 := by unfold chkE; rw [if_pos h]
theorem chk_no {k : Int} {s : ByteArray} {n : Int} (h : actB k s n = false) : chkE k s n = 60 := by unfold chkE; rw [h]; rfl
def accB (s : ByteArray) (a b c x y z : Int) : Bool := nameB s && Pot.mayB a b c && Pot.mayB x y z
def mayE (s : ByteArray) (a b c x y z : Int) : Int := if accB s a b c x y z = true then 0 else 2
def wK (k : Int) : Int := if k = 3 then 1 else if k = 4 then -1 else 0
structure Ch where
  h : Bool → Int → Int → Int → Int → Int
  i : Bool → Int → Int → Int → Int → Int
  o : Bool → Int → Int → Int → Int → Int
  e : Bool → Int → Int → Int → Int → Int
def oK (k : Int) : Bool := decide (wK k < 0)
def hK (C : Ch) (k x y z n : Int) : Int := if wK k = 0 then x else C.h (oK k) x y z n
end Go.Proofs.YtfobfpigbfepoaaGreatDoor.Act
namespace Go.Proofs.YtfobfpigbfepoaaGreatDoor.Lex
open _root_.Go.Proofs.YtfobfpigbfepoaaGreatDoor.Act (letB digB sgnB nameB headB)
structure Tok where
  k : Int
  t : ByteArray
  p : Int
def blkB (b : UInt8) : Bool := decide ((b.toNat : Int) = 32) || decide ((b.toNat : Int) = 9) || decide ((b.toNat : Int) = 10)
def remB (b : UInt8) : Bool := !decide ((b.toNat : Int) = 10)
def run (p : UInt8 → Bool) : List UInt8 → Nat
  | [] => 0
  | b :: t => if p b = true then run p t + 1 else 0
theorem run_le (p : UInt8 → Bool) (l : List UInt8) : run p l ≤ l.length := by
  induction l with
  | nil => simp [run]
  | cons b t ih =>
    rw [run]; split
    · simp; omega
    · simp
theorem run_yes {p : UInt8 → Bool} {b : UInt8} (t : List UInt8) (h : p b = true) : run p (b :: t) = run p t + 1 := by rw [run, if_pos h]
theorem run_no {p : UInt8 → Bool} {b : UInt8} (t : List UInt8) (h : p b = false) : run p (b :: t) = 0 := by rw [run, h]; rfl
theorem run_eq (p : UInt8 → Bool) : ∀ (l : List UInt8) (k : Nat), k ≤ l.length → (∀ j (hj : j < l.length), j < k → p l[j] = true) → (∀ h : k < l.length, p l[k] = false) → run p l = k := by
  intro l
  induction l with
  | nil => intro k hk _ _; simp at hk; rw [hk]; rfl
  | cons b t ih =>
    intro k hk ha he
    cases k with
    | zero => exact run_no t (he (by simp))
    | succ k =>
      have h0 : p b = true := ha 0 (by simp) (by omega)
      rw [run_yes t h0]
      rw [ih k (by simpa using hk) (fun j hj h => by have := ha (j + 1) (by simpa using hj) (by omega); simpa using this) (fun h => by have := he (by simpa using h); simpa using this)]
def zeroB : List UInt8 → Bool
  | [] => false
  | b :: _ => decide ((b.toNat : Int) = 48)
def numB (s : ByteArray) : Bool := decide (1 ≤ s.size) && decide (s.size ≤ 16) && s.data.toList.all digB && (decide (s.size = 1) || !zeroB s.data.toList)
def sigB (s : ByteArray) : Bool := decide (s = ⟨#[123]⟩) || decide (s = ⟨#[125]⟩) || decide (s = ⟨#[59]⟩)
def mayB (k : Int) (s : ByteArray) : Bool := if k = 1 then nameB s else if k = 2 then numB s else if k = 3 then sigB s else false
def kd (s : ByteArray) : Int := if sigB s = true then 3 else if numB s = true then 2 else if nameB s = true then 1 else 0
theorem all_get {p : UInt8 → Bool} (s : ByteArray) (h : s.data.toList.all p = true) (k : Nat) (hk : k < s.size) : p (s[k]'hk) = true := by
  rw [List.all_eq_true] at h
  exact h _ (List.getElem_mem (show k < s.data.toList.length by simpa using hk))
theorem all_of {p : UInt8 → Bool} (s : ByteArray) (h : ∀ k (hk : k < s.size), p (s[k]'hk) = true) : s.data.toList.all p = true := by
  rw [List.all_eq_true]
  intro b hb
  obtain ⟨j, hj, rfl⟩ := List.getElem_of_mem hb
  exact h j (by simpa using hj)
theorem all_not {p : UInt8 → Bool} (s : ByteArray) (k : Nat) (hk : k < s.size) (h : p (s[k]'hk) = false) : s.data.toList.all p = false := by
  rw [List.all_eq_false]
  exact ⟨_, List.getElem_mem (show k < s.data.toList.length by simpa using hk), by show ¬ (p (s[k]'hk) = true); rw [h]; simp⟩
theorem zero_get (s : ByteArray) (h : 0 < s.size) : zeroB s.data.toList = decide (((s[0]'h).toNat : Int) = 48) := by
  have hl : s.data.toList.length = s.size := by simp
  have h0 : s.data.toList[0]'(by omega) = s[0]'h := rfl
  cases hc : s.data.toList with
  | nil => rw [hc] at hl; simp at hl; omega
  | cons b t => simp only [hc] at h0; rw [← h0]; rfl
theorem num_empty (s : ByteArray) (h : s.size = 0) : numB s = false := by unfold numB; rw [decide_eq_false (by omega)]; rfl
theorem num_long (s : ByteArray) (h : 16 < s.size) : numB s = false := by
  unfold numB
  rw [show decide (s.size ≤ 16) = false from decide_eq_false (by omega)]; simp
theorem num_sign (s : ByteArray) (k : Nat) (h : k < s.size) (hb : digB (s[k]'h) = false) : numB s = false := by
  unfold numB
  rw [all_not s k h hb]; simp
theorem num_all (s : ByteArray) (h0 : 1 ≤ s.size) (h1 : s.size ≤ 16) (ha : ∀ k (hk : k < s.size), digB (s[k]'hk) = true) : numB s = (decide (s.size = 1) || !decide (((s[0]'h0).toNat : Int) = 48)) := by
  unfold numB
  rw [all_of s ha, decide_eq_true h0, decide_eq_true h1, zero_get s h0]; rfl
theorem num_parts {s : ByteArray} (h : numB s = true) : 1 ≤ s.size ∧ s.size ≤ 16 ∧ (∀ k (hk : k < s.size), digB (s[k]'hk) = true) := by
  unfold numB at h
  simp only [Bool.and_eq_true, decide_eq_true_eq] at h
  exact ⟨h.1.1.1, h.1.1.2, fun k hk => all_get s h.1.2 k hk⟩
theorem sig_parts {s : ByteArray} (h : sigB s = true) : s = ⟨#[123]⟩ ∨ s = ⟨#[125]⟩ ∨ s = ⟨#[59]⟩ := by
  unfold sigB at h
  simp only [Bool.or_eq_true, decide_eq_true_eq] at h
  rcases h with (h | h) | h
  · exact Or.inl h
  · exact Or.inr (Or.inl h)
  · exact Or.inr (Or.inr h)
def tl : List UInt8 → Nat
  | [] => 0
  | b :: t => if letB b = true then run sgnB t + 1 else if digB b = true then run digB t + 1 else 1
def pc (l : List UInt8) : ByteArray := ⟨(l.take (tl l)).toArray⟩
theorem tl_pos (b : UInt8) (t : List UInt8) : 1 ≤ tl (b :: t) := by
  rw [tl]
  split
  · omega
  · split <;> omega
theorem tl_le (l : List UInt8) : tl l ≤ l.length := by
  cases l with
  | nil => simp [tl]
  | cons b t =>
    unfold tl
    have h1 := run_le sgnB t
    have h2 := run_le digB t
    simp only [List.length_cons]
    split
    · omega
    · split <;> omega
theorem tl_let {b : UInt8} (t : List UInt8) (h : letB b = true) : tl (b :: t) = run sgnB (b :: t) := by rw [run_yes t (Act.sgn_let h), tl, if_pos h]
theorem tl_dig {b : UInt8} (t : List UInt8) (h0 : letB b = false) (h : digB b = true) : tl (b :: t) = run digB (b :: t) := by rw [run_yes t h, tl, h0, if_neg (by simp), if_pos h]
theorem tl_one {b : UInt8} (t : List UInt8) (h0 : letB b = false) (h : digB b = false) : tl (b :: t) = 1 := by rw [tl, h0, h, if_neg (by simp), if_neg (by simp)]
theorem pc_size (l : List UInt8) : (pc l).size = tl l := by
  have := tl_le l
  show (List.toArray _).size = _
  simp; omega
theorem pc_list (l : List UInt8) : (pc l).data.toList = l.take (tl l) := by simp [pc]
theorem head_let {b : UInt8} {t : List UInt8} (s : ByteArray) (h : s.data.toList = b :: t) (hb : letB b = true) : sigB s = false ∧ numB s = false := by
  have h2 : digB b = false := by
    cases hd : digB b with
    | false => rfl
    | true => rw [Act.dig_let hd] at hb; cases hb
  have hk : (97 : Int) ≤ (b.toNat : Int) ∧ (b.toNat : Int) ≤ 122 := by unfold letB at hb; simpa only [Bool.and_eq_true, decide_eq_true_eq] using hb
  constructor
  · cases hs : sigB s with
    | false => rfl
    | true =>
      rcases sig_parts hs with rfl | rfl | rfl <;> (simp at h; rw [← h.1] at hk; simp at hk)
  · unfold numB; rw [h, List.all_cons, h2]; simp
theorem head_dig {b : UInt8} {t : List UInt8} (s : ByteArray) (h : s.data.toList = b :: t) (hb : digB b = true) : sigB s = false ∧ nameB s = false := by
  have h2 := Act.dig_let hb
  have hk : (48 : Int) ≤ (b.toNat : Int) ∧ (b.toNat : Int) ≤ 57 := by unfold digB at hb; simpa only [Bool.and_eq_true, decide_eq_true_eq] using hb
  constructor
  · cases hs : sigB s with
    | false => rfl
    | true =>
      rcases sig_parts hs with rfl | rfl | rfl <;> (simp at h; rw [← h.1] at hk; simp at hk)
  · unfold nameB; rw [h, show headB (b :: t) = letB b from rfl, h2]; simp
theorem head_else {b : UInt8} {t : List UInt8} (s : ByteArray) (h : s.data.toList = b :: t) (h1 : letB b = false) (h2 : digB b = false) : numB s = false ∧ nameB s = false := by
  constructor
  · unfold numB; rw [h, List.all_cons, h2]; simp
  · unfold nameB; rw [h, show headB (b :: t) = letB b from rfl, h1]; simp
theorem pc_cons (b : UInt8) (t : List UInt8) : ∃ u, (pc (b :: t)).data.toList = b :: u := by
  rw [pc_list]
  have := tl_pos b t
  obtain ⟨n, hn⟩ : ∃ n, tl (b :: t) = n + 1 := ⟨tl (b :: t) - 1, by omega⟩
  rw [hn, List.take_succ_cons]
  exact ⟨_, rfl⟩
def fk (b : UInt8) : Int := if letB b = true then 1 else if digB b = true then 2 else 3
theorem kd_first (b : UInt8) (t : List UInt8) : kd (pc (b :: t)) = if mayB (fk b) (pc (b :: t)) = true then fk b else 0 := by
  obtain ⟨u, hu⟩ := pc_cons b t
  unfold fk
  cases h1 : letB b with
  | true =>
    obtain ⟨a1, a2⟩ := head_let _ hu h1
    unfold kd mayB
    rw [a1, a2]; simp
  | false =>
    cases h2 : digB b with
    | true =>
      obtain ⟨a1, a2⟩ := head_dig _ hu h2
      unfold kd mayB
      rw [a1, a2]; simp
    | false =>
      obtain ⟨a1, a2⟩ := head_else _ hu h1 h2
      unfold kd mayB
      rw [a1, a2]; simp
def scn : Nat → List UInt8 → Nat → List Tok × Option Nat
  | 0, _, _ => ([], none)
  | _ + 1, [], at' => ([⟨0, ⟨#[]⟩, at'⟩], none)
  | f + 1, b :: t, at' =>
    if blkB b = true then scn f t (at' + 1)
    else if (b.toNat : Int) = 35 then scn f ((b :: t).drop (run remB (b :: t))) (at' + run remB (b :: t))
    else if kd (pc (b :: t)) = 0 then ([], some at')
    else (⟨kd (pc (b :: t)), pc (b :: t), at'⟩ :: (scn f ((b :: t).drop (tl (b :: t))) (at' + tl (b :: t))).1, (scn f ((b :: t).drop (tl (b :: t))) (at' + tl (b :: t))).2)
theorem rem_pos {b : UInt8} (t : List UInt8) (h : (b.toNat : Int) = 35) : 1 ≤ run remB (b :: t) := by
  rw [run_yes t (by unfold remB; rw [decide_eq_false (by omega)]; rfl)]; omega
theorem scn_fuel : ∀ (f g : Nat) (l : List UInt8) (a : Nat), l.length < f → l.length < g → scn f l a = scn g l a := by
  intro f
  induction f with
  | zero => intro g l a h; omega
  | succ f ih =>
    intro g l a hf hg
    cases g with
    | zero => omega
    | succ g =>
      cases l with
      | nil => rfl
      | cons b t =>
        simp only [List.length_cons] at hf hg
        unfold scn
        split
        · exact ih g t _ (by omega) (by omega)
        · split
          · rename_i h35
            have := rem_pos t h35
            exact ih g _ _ (by simp; omega) (by simp; omega)
          · have := tl_pos b t
            rw [ih g ((b :: t).drop (tl (b :: t))) _ (by simp; omega) (by simp; omega)]
def S (l : List UInt8) (a : Nat) : List Tok × Option Nat := scn (l.length + 1) l a
theorem S_nil (a : Nat) : S [] a = ([⟨0, ⟨#[]⟩, a⟩], none) := rfl
theorem S_blank {b : UInt8} (t : List UInt8) (a : Nat) (h : blkB b = true) : S (b :: t) a = S t (a + 1) := by
  unfold S; rw [List.length_cons, scn, if_pos h]
theorem S_rem {b : UInt8} (t : List UInt8) (a : Nat) (h : blkB b = false) (h2 : (b.toNat : Int) = 35) : S (b :: t) a = S ((b :: t).drop (run remB (b :: t))) (a + run remB (b :: t)) := by
  have := rem_pos t h2
  unfold S; rw [List.length_cons, scn, h, if_neg (by simp), if_pos h2]
  exact scn_fuel _ _ _ _ (by simp; omega) (by simp)
theorem S_bad {b : UInt8} (t : List UInt8) (a : Nat) (h : blkB b = false) (h2 : ¬ (b.toNat : Int) = 35) (h3 : kd (pc (b :: t)) = 0) : S (b :: t) a = ([], some a) := by
  unfold S; rw [List.length_cons, scn, h, if_neg (by simp), if_neg h2, if_pos h3]
theorem S_tok {b : UInt8} (t : List UInt8) (a : Nat) (h : blkB b = false) (h2 : ¬ (b.toNat : Int) = 35) (h3 : ¬ kd (pc (b :: t)) = 0) :
    S (b :: t) a = (⟨kd (pc (b :: t)), pc (b :: t), a⟩ :: (S ((b :: t).drop (tl (b :: t))) (a + tl (b :: t))).1, (S ((b :: t).drop (tl (b :: t))) (a + tl (b :: t))).2) := by
  have := tl_pos b t
  unfold S; rw [List.length_cons, scn, h, if_neg (by simp), if_neg h2, if_neg h3]
  rw [scn_fuel (t.length + 1) (((b :: t).drop (tl (b :: t))).length + 1) _ _ (by simp; omega) (by simp)]
theorem S_blanks (l : List UInt8) : ∀ a, S l a = S (l.drop (run blkB l)) (a + run blkB l) := by
  induction l with
  | nil => intro a; rfl
  | cons b t ih =>
    intro a
    cases h : blkB b with
    | false => rw [run_no t h]; simp
    | true =>
      rw [run_yes t h, S_blank t a h, ih (a + 1), List.drop_succ_cons]
      rw [show a + 1 + run blkB t = a + (run blkB t + 1) by omega]
theorem drop_get (L : List UInt8) (k : Nat) (h : k < L.length) : L.drop k = L[k] :: L.drop (k + 1) := (List.getElem_cons_drop h).symm
def scF (L : List UInt8) : Int := if 2000 < L.length then 3 else if (S L 0).2 = none then 0 else 80
def scA (L : List UInt8) : Int := if 2000 < L.length then 0 else match (S L 0).2 with | none => 0 | some p => (p : Int)
def scT (L : List UInt8) : List Tok := if 2000 < L.length then [] else match (S L 0).2 with | none => (S L 0).1 | some _ => []
end Go.Proofs.YtfobfpigbfepoaaGreatDoor.Lex
namespace Go.Proofs.YtfobfpigbfepoaaGreatDoor.Lex
open _root_.Go.Proofs.YtfobfpigbfepoaaGreatDoor.Act (letB digB sgnB nameB headB)
def endT (x : Tok) : Bool := decide (x.k = 0) && decide (x.t = ⟨#[]⟩)
def okT (x : Tok) : Bool := mayB x.k x.t
def szs (I : List Tok) : Nat := (I.map (fun x => x.t.size)).sum
def jz (I : List Tok) : Nat := szs I + (I.length - 1)
def ckE (T : List Tok) : Int := match T.getLast? with
  | none => 80
  | some x => if endT x = true then (if T.dropLast.all okT = true then (if 2000 < jz T.dropLast then 3 else 0) else 80) else 80
theorem szs_snoc (I : List Tok) (x : Tok) : szs (I ++ [x]) = szs I + x.t.size := by simp [szs]
theorem szs_take (I : List Tok) (i : Nat) (h : i < I.length) : szs (I.take (i + 1)) = szs (I.take i) + I[i].t.size := by
  rw [List.take_succ_eq_append_getElem h, szs_snoc]
theorem szs_le (I : List Tok) : ∀ i, szs (I.take i) ≤ szs I := by
  induction I with
  | nil => intro i; simp [szs]
  | cons x t ih =>
    intro i
    cases i with
    | zero => simp [szs]
    | succ i => have := ih i; simp [szs] at this ⊢; omega
theorem may_size {k : Int} {s : ByteArray} (h : mayB k s = true) : 1 ≤ s.size ∧ s.size ≤ 16 := by
  unfold mayB at h
  split at h
  · have := Act.name_pos h; omega
  · split at h
    · have := num_parts h; exact ⟨this.1, this.2.1⟩
    · split at h
      · rcases sig_parts h with rfl | rfl | rfl <;> decide
      · cases h
theorem szs_bound (I : List Tok) (h : ∀ x ∈ I, okT x = true) : szs I ≤ 16 * I.length := by
  induction I with
  | nil => simp [szs]
  | cons x t ih =>
    have h1 := ih (fun y hy => h y (by simp [hy]))
    have h2 := (may_size (h x (by simp))).2
    simp [szs] at h1 ⊢; omega
theorem ck_none : ckE [] = 80 := rfl
theorem ck_snoc (I : List Tok) (x : Tok) : ckE (I ++ [x]) = if endT x = true then (if I.all okT = true then (if 2000 < jz I then 3 else 0) else 80) else 80 := by
  unfold ckE; simp
theorem all_idx (I : List Tok) (p : Tok → Bool) (h : ∀ j (hj : j < I.length), p I[j] = true) : I.all p = true := by
  rw [List.all_eq_true]
  intro x hx
  obtain ⟨j, hj, rfl⟩ := List.getElem_of_mem hx
  exact h j hj
theorem all_nidx (I : List Tok) (p : Tok → Bool) (j : Nat) (hj : j < I.length) (h : p I[j] = false) : I.all p = false := by
  rw [List.all_eq_false]
  exact ⟨I[j], List.getElem_mem hj, by rw [h]; simp⟩
def jr : List Tok → List UInt8
  | [] => []
  | x :: t => 32 :: (x.t.data.toList ++ jr t)
def jf : List Tok → List UInt8
  | [] => []
  | x :: t => x.t.data.toList ++ jr t
theorem jz_take (I : List Tok) (i : Nat) (h : i < I.length) : jz (I.take (i + 1)) = jz (I.take i) + (if i = 0 then 0 else 1) + I[i].t.size := by
  unfold jz
  rw [szs_take I i h]
  have h1 : (I.take i).length = i := by rw [List.length_take]; omega
  have h2 : (I.take (i + 1)).length = i + 1 := by rw [List.length_take]; omega
  rw [h1, h2]
  split <;> omega
theorem jz_le (I : List Tok) (i : Nat) : jz (I.take i) ≤ jz I := by
  unfold jz
  have := szs_le I i
  rw [List.length_take]; omega
def jx (I : List Tok) : ByteArray := ⟨(jf I).toArray⟩
def vl : List UInt8 → Int → Int
  | [], n => n
  | b :: t, n => vl t (n * 10 + ((b.toNat : Int) - 48))
def valE (k : Int) (s : ByteArray) : Int := if k = 2 ∧ numB s = true then vl s.data.toList 0 else 0
def valB (k : Int) (s : ByteArray) : Bool := decide (k = 2) && numB s
theorem vl_snoc (l : List UInt8) (b : UInt8) : ∀ n, vl (l ++ [b]) n = vl l n * 10 + ((b.toNat : Int) - 48) := by
  induction l with
  | nil => intro n; rfl
  | cons c t ih => intro n; exact ih _
theorem vl_take (l : List UInt8) (k : Nat) (h : k < l.length) : vl (l.take (k + 1)) 0 = vl (l.take k) 0 * 10 + ((l[k].toNat : Int) - 48) := by
  rw [List.take_succ_eq_append_getElem h, vl_snoc]
theorem vl_bound : ∀ (l : List UInt8) (n : Int), 0 ≤ n → (∀ b ∈ l, digB b = true) → 0 ≤ vl l n ∧ vl l n < (n + 1) * 10 ^ l.length := by
  intro l
  induction l with
  | nil => intro n hn _; simp [vl]; omega
  | cons b t ih =>
    intro n hn hd
    have hb : digB b = true := hd b (by simp)
    have hk : (48 : Int) ≤ (b.toNat : Int) ∧ (b.toNat : Int) ≤ 57 := by unfold Act.digB at hb; simpa only [Bool.and_eq_true, decide_eq_true_eq] using hb
    obtain ⟨h1, h2⟩ := ih (n * 10 + ((b.toNat : Int) - 48)) (by omega) (fun c hc => hd c (by simp [hc]))
    refine ⟨h1, Int.lt_of_lt_of_le h2 ?_⟩
    rw [List.length_cons, Int.pow_succ]
    have : (n * 10 + ((b.toNat : Int) - 48) + 1) ≤ (n + 1) * 10 := by omega
    have h3 : (0 : Int) ≤ 10 ^ t.length := Int.pow_nonneg (by omega)
    calc (n * 10 + ((b.toNat : Int) - 48) + 1) * 10 ^ t.length ≤ ((n + 1) * 10) * 10 ^ t.length := Int.mul_le_mul_of_nonneg_right this h3
      _ = (n + 1) * (10 ^ t.length * 10) := by rw [Int.mul_assoc, Int.mul_comm 10]
theorem vl_rng (l : List UInt8) (hl : l.length ≤ 16) (hd : ∀ b ∈ l, digB b = true) : 0 ≤ vl l 0 ∧ vl l 0 < 10000000000000000 := by
  obtain ⟨h1, h2⟩ := vl_bound l 0 (by omega) hd
  refine ⟨h1, Int.lt_of_lt_of_le h2 ?_⟩
  have h := Nat.pow_le_pow_right (show 0 < 10 by omega) hl
  have e : ((10 : Int) ^ l.length) = ((10 ^ l.length : Nat) : Int) := by simp
  rw [e]
  omega
end Go.Proofs.YtfobfpigbfepoaaGreatDoor.Lex
namespace Go.Proofs.YtfobfpigbfepoaaGreatDoor.Lex
open _root_.Go.Proofs.YtfobfpigbfepoaaGreatDoor.Act (letB digB sgnB nameB headB)
def gap : List UInt8 → Bool
  | [] => true
  | b :: _ => !sgnB b
theorem list_bytes {x y : ByteArray} (h : x.data.toList = y.data.toList) : x = y := by
  cases x with
  | mk a => cases y with
    | mk b => simp at h; rw [h]
theorem bytes_list (x : ByteArray) : (⟨x.data.toList.toArray⟩ : ByteArray) = x := list_bytes (by simp)
def but (x y : Tok) : Prop := x.k = y.k ∧ x.t = y.t
def butL : List Tok → List Tok → Prop
  | [], [] => True
  | x :: t, y :: u => but x y ∧ butL t u
  | _, _ => False
theorem scn_len : ∀ (f : Nat) (l : List UInt8) (a : Nat), (scn f l a).1.length ≤ l.length + 1 := by
  intro f
  induction f with
  | zero => intro l a; simp [scn]
  | succ f ih =>
    intro l a
    cases l with
    | nil => simp [scn]
    | cons b t =>
      unfold scn
      split
      · have := ih t (a + 1); simp; omega
      · split
        · have := ih ((b :: t).drop (run remB (b :: t))) (a + run remB (b :: t))
          rw [List.length_drop] at this
          omega
        · split
          · simp
          · have h1 := ih ((b :: t).drop (tl (b :: t))) (a + tl (b :: t))
            have h2 := tl_pos b t
            have h3 := tl_le (b :: t)
            simp only [List.length_drop, List.length_cons] at h1 h3 ⊢
            omega
theorem scT_len (l : List UInt8) : (scT l).length ≤ 2001 := by
  unfold scT
  split
  · simp
  · split
    · have := scn_len (l.length + 1) l 0
      unfold S
      omega
    · simp
end Go.Proofs.YtfobfpigbfepoaaGreatDoor.Lex
namespace Go.Proofs.YtfobfpigbfepoaaGreatDoor.Df
open _root_.Go.Proofs.YtfobfpigbfepoaaGreatDoor.Act (nameB actB)
open _root_.Go.Proofs.YtfobfpigbfepoaaGreatDoor.Lex (Tok mayB numB sigB vl valE okT endT)
structure Stp where
  k : Int
  a : ByteArray
  n : Int
  o : Int
  u : ByteArray
  y : Int
  v : Int
def ownB (s : Stp) : Bool := decide (s.u = ⟨#[]⟩) && actB s.k s.a s.n && decide (s.o = 0) && decide (s.v = 0) && (decide (1 ≤ s.y) && decide (s.y ≤ 5))
def zerB (s : Stp) : Bool := decide (s.k = 0) && decide (s.a = ⟨#[]⟩) && decide (s.n = 0)
def askB (s : Stp) : Bool := nameB s.u && zerB s && decide (s.y = 0) && (decide (0 ≤ s.o) && decide (s.o ≤ 15)) && (decide (1 ≤ s.v) && decide (s.v ≤ 50))
def stpB (s : Stp) : Bool := ownB s || askB s
def defB (nm : ByteArray) (L : List Stp) : Bool := nameB nm && (decide (1 ≤ L.length) && decide (L.length ≤ 8)) && L.all stpB
def chE (nm : ByteArray) (L : List Stp) : Int := if defB nm L = true then 0 else 90
theorem own_iff (s : Stp) : ownB s = true ↔ s.u = ⟨#[]⟩ ∧ actB s.k s.a s.n = true ∧ s.o = 0 ∧ s.v = 0 ∧ 1 ≤ s.y ∧ s.y ≤ 5 := by
  unfold ownB; simp only [Bool.and_eq_true, decide_eq_true_eq, and_assoc]
theorem ask_iff (s : Stp) : askB s = true ↔ nameB s.u = true ∧ s.k = 0 ∧ s.a = ⟨#[]⟩ ∧ s.n = 0 ∧ s.y = 0 ∧ 0 ≤ s.o ∧ s.o ≤ 15 ∧ 1 ≤ s.v ∧ s.v ≤ 50 := by
  unfold askB zerB; simp only [Bool.and_eq_true, decide_eq_true_eq, and_assoc]
theorem def_iff (nm : ByteArray) (L : List Stp) : defB nm L = true ↔ nameB nm = true ∧ 1 ≤ L.length ∧ L.length ≤ 8 ∧ ∀ s ∈ L, stpB s = true := by
  unfold defB; simp only [Bool.and_eq_true, decide_eq_true_eq, and_assoc, List.all_eq_true]
theorem ch_yes {nm : ByteArray} {L : List Stp} (h : defB nm L = true) : chE nm L = 0 := by unfold chE; rw [if_pos h]
theorem ch_no {nm : ByteArray} {L : List Stp} (h : defB nm L = false) : chE nm L = 90 := by unfold chE; rw [h]; rfl
def wSaga : ByteArray := ⟨#[115, 97, 103, 97]⟩
def wAsk : ByteArray := ⟨#[97, 115, 107]⟩
def wTries : ByteArray := ⟨#[116, 114, 105, 101, 115]⟩
def wWait : ByteArray := ⟨#[119, 97, 105, 116]⟩
def wDebit : ByteArray := ⟨#[100, 101, 98, 105, 116]⟩
def wCredit : ByteArray := ⟨#[99, 114, 101, 100, 105, 116]⟩
def wReserve : ByteArray := ⟨#[114, 101, 115, 101, 114, 118, 101]⟩
def wRelease : ByteArray := ⟨#[114, 101, 108, 101, 97, 115, 101]⟩
def gOpen : ByteArray := ⟨#[123]⟩
def gShut : ByteArray := ⟨#[125]⟩
def gSemi : ByteArray := ⟨#[59]⟩
def kw (s : ByteArray) : Int := if s = wDebit then 1 else if s = wCredit then 2 else if s = wReserve then 3 else if s = wRelease then 4 else 0
def wk (k : Int) : ByteArray := if k = 1 then wDebit else if k = 2 then wCredit else if k = 3 then wReserve else if k = 4 then wRelease else ⟨#[]⟩
theorem kw_ask : kw wAsk = 0 := by decide
theorem kw_range (s : ByteArray) : 0 ≤ kw s ∧ kw s ≤ 4 := by
  unfold kw; repeat' split
  all_goals omega
def tk (T : List Tok) (i : Nat) : Tok := T.getD i ⟨0, ⟨#[]⟩, 0⟩
theorem tk_get (T : List Tok) (i : Nat) (h : i < T.length) : tk T i = T[i] := by unfold tk; rw [List.getD_eq_getElem?_getD, List.getElem?_eq_getElem h]; rfl
theorem tk_out (T : List Tok) (i : Nat) (h : T.length ≤ i) : tk T i = ⟨0, ⟨#[]⟩, 0⟩ := by unfold tk; rw [List.getD_eq_getElem?_getD, List.getElem?_eq_none h]; rfl
def isT (x : Tok) (k : Int) (s : ByteArray) : Bool := decide (x.k = k) && decide (x.t = s)
def sm (t : ByteArray) : Int := if 9 < t.size then -1 else valE 2 t
def opt (T : List Tok) (i : Nat) (wd : ByteArray) (n : Int) : Nat × Option Int :=
  if isT (tk T i) 1 wd = true then (if (tk T (i + 1)).k = 2 then (i + 2, some (sm (tk T (i + 1)).t)) else (i + 1, none)) else (i, some n)
def fin (T : List Tok) (x : Nat × Option Int) (f : Int → Stp) : Nat × Option Stp := match x.2 with
  | none => (x.1, none)
  | some n => if isT (tk T x.1) 3 gSemi = true then (x.1 + 1, some (f n)) else (x.1, none)
def one (T : List Tok) (i : Nat) : Nat × Option Stp :=
  if isT (tk T i) 1 wAsk = true then
    (if (tk T (i + 1)).k = 2 then
      (if (tk T (i + 2)).k = 1 then fin T (opt T (i + 3) wWait 20) (fun n => ⟨0, ⟨#[]⟩, 0, sm (tk T (i + 1)).t, (tk T (i + 2)).t, 0, n⟩)
      else (i + 2, none))
    else (i + 1, none))
  else if (tk T i).k = 1 ∧ kw (tk T i).t ≠ 0 then
    (if (tk T (i + 1)).k = 1 then
      (if (tk T (i + 2)).k = 2 then fin T (opt T (i + 3) wTries 1) (fun n => ⟨kw (tk T i).t, (tk T (i + 1)).t, valE 2 (tk T (i + 2)).t, 0, ⟨#[]⟩, n, 0⟩)
      else (i + 2, none))
    else (i + 1, none))
  else (i, none)
def stps (T : List Tok) : Nat → Nat → List Stp → Nat × Option (List Stp)
  | 0, i, _ => (i, none)
  | f + 1, i, L => if isT (tk T i) 3 gShut = true then (i + 1, some L) else match one T i with
    | (j, none) => (j, none)
    | (j, some s) => stps T f j (L ++ [s])
def prs (T : List Tok) (i : Nat) : Nat × Option (ByteArray × List Stp) :=
  if isT (tk T i) 1 wSaga = true then
    (if (tk T (i + 1)).k = 1 then
      (if isT (tk T (i + 2)) 3 gOpen = true then
        match stps T (T.length + 1) (i + 3) [] with
        | (j, none) => (j, none)
        | (j, some L) => (j, some ((tk T (i + 1)).t, L))
      else (i + 2, none))
    else (i + 1, none))
  else (i, none)
structure Gd (T : List Tok) : Prop where
  pos : 0 < T.length
  may : ∀ i, i + 1 < T.length → mayB (tk T i).k (tk T i).t = true
  last : (tk T (T.length - 1)).k = 0 ∧ (tk T (T.length - 1)).t = ⟨#[]⟩
theorem gd_of {T : List Tok} (h : Lex.ckE T ≠ 80) : Gd T := by
  rcases List.eq_nil_or_concat T with rfl | ⟨I, x, rfl⟩
  · exact absurd Lex.ck_none h
  rw [List.concat_eq_append] at *
  rw [Lex.ck_snoc] at h
  by_cases he : endT x = true
  · rw [if_pos he] at h
    by_cases ha : I.all okT = true
    · have hlen : (I ++ [x]).length = I.length + 1 := by simp
      have he0 : x.k = 0 ∧ x.t = ⟨#[]⟩ := by unfold Lex.endT at he; simpa only [Bool.and_eq_true, decide_eq_true_eq] using he
      refine ⟨by omega, ?_, ?_⟩
      · intro i hi
        rw [tk_get _ _ (by omega), List.getElem_append_left (by omega)]
        rw [List.all_eq_true] at ha
        exact ha _ (List.getElem_mem _)
      · rw [hlen, tk_get _ _ (by omega), List.getElem_append_right (by omega)]
        simpa using he0
    · rw [if_neg ha] at h; exact absurd rfl h
  · rw [if_neg he] at h; exact absurd rfl h
theorem Gd.next {T : List Tok} (h : Gd T) {i : Nat} (hk : (tk T i).k ≠ 0) : i + 1 < T.length := by
  by_cases h1 : i + 1 < T.length
  · exact h1
  · by_cases h2 : i + 1 = T.length
    · have := h.last.1
      rw [show T.length - 1 = i by omega] at this
      exact absurd this hk
    · rw [tk_out T i (by omega)] at hk
      exact absurd rfl hk
theorem Gd.size {T : List Tok} (h : Gd T) (i : Nat) : (tk T i).t.size ≤ 16 := by
  by_cases h1 : i + 1 < T.length
  · exact (Lex.may_size (h.may i h1)).2
  · by_cases h2 : i < T.length
    · have := h.last.2
      rw [show T.length - 1 = i by omega] at this
      rw [this]; decide
    · rw [tk_out T i (by omega)]; decide
theorem isT_iff (x : Tok) (k : Int) (s : ByteArray) : isT x k s = true ↔ x.k = k ∧ x.t = s := by unfold isT; simp only [Bool.and_eq_true, decide_eq_true_eq]
theorem Gd.num {T : List Tok} (h : Gd T) {i : Nat} (hk : (tk T i).k = 2) : numB (tk T i).t = true := by
  have h1 := h.next (i := i) (by rw [hk]; decide)
  have := h.may i h1
  rw [hk] at this
  simpa [Lex.mayB] using this
structure St where
  i : Nat
  s : Bool
def passB (T : List Tok) (q : St) (k : Int) (s : ByteArray) : Bool := !q.s && isT (tk T q.i) k s
def passS (T : List Tok) (q : St) (k : Int) (s : ByteArray) : St := if passB T q k s = true then ⟨q.i + 1, q.s⟩ else q
def mustS (T : List Tok) (q : St) (k : Int) (s : ByteArray) : St := if passB T q k s = true then ⟨q.i + 1, q.s⟩ else ⟨q.i, true⟩
def takeB (T : List Tok) (q : St) (k : Int) : Bool := !q.s && decide ((tk T q.i).k = k)
def takeV (T : List Tok) (q : St) (k : Int) : ByteArray := if takeB T q k = true then (tk T q.i).t else ⟨#[]⟩
def takeS (T : List Tok) (q : St) (k : Int) : St := if takeB T q k = true then ⟨q.i + 1, q.s⟩ else ⟨q.i, true⟩
def numV (T : List Tok) (q : St) : Int := valE 2 (takeV T q 2)
def cntV (T : List Tok) (q : St) : Int := if 9 < (tk T q.i).t.size then -1 else numV T q
def optV (T : List Tok) (q : St) (wd : ByteArray) (n : Int) : Int := if passB T q 1 wd = true then cntV T (passS T q 1 wd) else n
def optS (T : List Tok) (q : St) (wd : ByteArray) : St := if passB T q 1 wd = true then takeS T (passS T q 1 wd) 2 else q
def kndV (T : List Tok) (q : St) : Int := kw (tk T q.i).t
def kndS (T : List Tok) (q : St) : St := takeS T (if kw (tk T q.i).t = 0 then ⟨q.i, true⟩ else q) 1
def stpV (T : List Tok) (q : St) : Stp :=
  if passB T q 1 wAsk = true then
    ⟨0, ⟨#[]⟩, 0, cntV T (passS T q 1 wAsk), takeV T (takeS T (passS T q 1 wAsk) 2) 1, 0, optV T (takeS T (takeS T (passS T q 1 wAsk) 2) 1) wWait 20⟩
  else
    ⟨kndV T q, takeV T (kndS T q) 1, numV T (takeS T (kndS T q) 1), 0, ⟨#[]⟩, optV T (takeS T (takeS T (kndS T q) 1) 2) wTries 1, 0⟩
def stpS (T : List Tok) (q : St) : St :=
  mustS T (if passB T q 1 wAsk = true then optS T (takeS T (takeS T (passS T q 1 wAsk) 2) 1) wWait else optS T (takeS T (takeS T (kndS T q) 1) 2) wTries) 3 gSemi
def lopS (T : List Tok) : Nat → St → List Stp → St × List Stp
  | 0, q, L => (q, L)
  | f + 1, q, L => if q.s = true then (q, L) else if passB T q 3 gShut = true then (passS T q 3 gShut, L) else lopS T f (stpS T q) (L ++ [stpV T q])
def defQ (T : List Tok) (i : Nat) : St := mustS T (takeS T (mustS T ⟨i, false⟩ 1 wSaga) 1) 3 gOpen
def defN (T : List Tok) (i : Nat) : ByteArray := takeV T (mustS T ⟨i, false⟩ 1 wSaga) 1
def defR (T : List Tok) (i : Nat) : St × List Stp := lopS T (T.length + 2) (defQ T i) []
theorem must_stuck (T : List Tok) (i : Nat) (k : Int) (s : ByteArray) : mustS T ⟨i, true⟩ k s = ⟨i, true⟩ := rfl
theorem pass_open (T : List Tok) (i : Nat) (k : Int) (s : ByteArray) : passB T ⟨i, false⟩ k s = isT (tk T i) k s := rfl
theorem take_yes {T : List Tok} {i : Nat} {k : Int} (h : (tk T i).k = k) : takeS T ⟨i, false⟩ k = ⟨i + 1, false⟩ ∧ takeV T ⟨i, false⟩ k = (tk T i).t := by
  have : takeB T ⟨i, false⟩ k = true := by unfold takeB; rw [decide_eq_true h]; rfl
  unfold takeS takeV
  rw [if_pos this, if_pos this]; exact ⟨rfl, rfl⟩
theorem take_no {T : List Tok} {i : Nat} {k : Int} (h : ¬ (tk T i).k = k) : takeS T ⟨i, false⟩ k = ⟨i, true⟩ := by
  have : takeB T ⟨i, false⟩ k = false := by unfold takeB; rw [decide_eq_false h]; rfl
  unfold takeS
  rw [this]; rfl
theorem opt_same (T : List Tok) (i : Nat) (wd : ByteArray) (n : Int) : (∀ m, (opt T i wd n).2 = some m → optS T ⟨i, false⟩ wd = ⟨(opt T i wd n).1, false⟩ ∧ optV T ⟨i, false⟩ wd n = m) ∧ ((opt T i wd n).2 = none → optS T ⟨i, false⟩ wd = ⟨(opt T i wd n).1, true⟩) := by
  unfold opt optS optV
  rw [pass_open]
  by_cases h1 : isT (tk T i) 1 wd = true
  · rw [if_pos h1, if_pos h1, if_pos h1]
    have e : passS T ⟨i, false⟩ 1 wd = ⟨i + 1, false⟩ := by unfold passS; rw [pass_open, if_pos h1]
    rw [e]
    by_cases h2 : (tk T (i + 1)).k = 2
    · rw [if_pos h2]
      obtain ⟨a, b⟩ := take_yes (T := T) h2
      refine ⟨fun m hm => ?_, fun hm => by cases hm⟩
      simp only [Option.some.injEq] at hm
      subst hm
      rw [a]
      refine ⟨rfl, ?_⟩
      unfold cntV numV sm
      rw [b]
    · rw [if_neg h2]
      exact ⟨fun m hm => (by cases hm), fun _ => take_no h2⟩
  · rw [if_neg h1, if_neg h1, if_neg h1]
    exact ⟨fun m hm => by simp only [Option.some.injEq] at hm; exact ⟨rfl, hm⟩, fun hm => by cases hm⟩
theorem must_yes {T : List Tok} {i : Nat} {k : Int} {s : ByteArray} (h : isT (tk T i) k s = true) : mustS T ⟨i, false⟩ k s = ⟨i + 1, false⟩ := by unfold mustS; rw [pass_open, if_pos h]
theorem must_no {T : List Tok} {i : Nat} {k : Int} {s : ByteArray} (h : ¬ isT (tk T i) k s = true) : mustS T ⟨i, false⟩ k s = ⟨i, true⟩ := by unfold mustS; rw [pass_open, if_neg h]
theorem pass_yes {T : List Tok} {i : Nat} {k : Int} {s : ByteArray} (h : isT (tk T i) k s = true) : passS T ⟨i, false⟩ k s = ⟨i + 1, false⟩ := by unfold passS; rw [pass_open, if_pos h]
theorem fin_same (T : List Tok) (i : Nat) (wd : ByteArray) (n : Int) (f : Int → Stp) : (∀ s, (fin T (opt T i wd n) f).2 = some s → mustS T (optS T ⟨i, false⟩ wd) 3 gSemi = ⟨(fin T (opt T i wd n) f).1, false⟩ ∧ f (optV T ⟨i, false⟩ wd n) = s) ∧
    ((fin T (opt T i wd n) f).2 = none → mustS T (optS T ⟨i, false⟩ wd) 3 gSemi = ⟨(fin T (opt T i wd n) f).1, true⟩) := by
  obtain ⟨h1, h2⟩ := opt_same T i wd n
  unfold fin
  cases ho : (opt T i wd n).2 with
  | none =>
    rw [h2 ho, must_stuck]
    exact ⟨fun s hs => (by cases hs), fun _ => rfl⟩
  | some m =>
    obtain ⟨a, b⟩ := h1 m ho
    rw [a, b]
    by_cases hs : isT (tk T (opt T i wd n).1) 3 gSemi = true
    · rw [must_yes hs]
      simp only [hs, if_true]
      exact ⟨fun s e => ⟨trivial, Option.some.inj e⟩, fun e => by cases e⟩
    · rw [must_no hs]
      simp only [hs]
      exact ⟨fun s e => (by cases e), fun _ => rfl⟩
theorem stp_same (T : List Tok) (i : Nat) : (∀ s, (one T i).2 = some s → stpS T ⟨i, false⟩ = ⟨(one T i).1, false⟩ ∧ stpV T ⟨i, false⟩ = s) ∧ ((one T i).2 = none → stpS T ⟨i, false⟩ = ⟨(one T i).1, true⟩) := by
  unfold one stpS stpV
  rw [pass_open]
  by_cases ha : isT (tk T i) 1 wAsk = true
  · simp only [if_pos ha]
    rw [pass_yes ha]
    by_cases h1 : (tk T (i + 1)).k = 2
    · obtain ⟨a, b⟩ := take_yes (T := T) h1
      simp only [if_pos h1]
      rw [a]
      by_cases h2 : (tk T (i + 2)).k = 1
      · obtain ⟨c, d⟩ := take_yes (T := T) h2
        simp only [if_pos h2]
        rw [show (i + 1 + 1) = i + 2 from rfl, c, d]
        have hv : cntV T ⟨i + 1, false⟩ = sm (tk T (i + 1)).t := by unfold cntV numV sm; rw [b]
        rw [hv]
        exact fin_same T (i + 3) wWait 20 (fun n => ⟨0, ⟨#[]⟩, 0, sm (tk T (i + 1)).t, (tk T (i + 2)).t, 0, n⟩)
      · simp only [if_neg h2]
        rw [show (i + 1 + 1) = i + 2 from rfl, take_no h2]
        exact ⟨fun s e => (by cases e), fun _ => rfl⟩
    · simp only [if_neg h1]
      rw [take_no h1]
      exact ⟨fun s e => (by cases e), fun _ => rfl⟩
  · simp only [if_neg ha]
    by_cases hk : (tk T i).k = 1 ∧ kw (tk T i).t ≠ 0
    · simp only [if_pos hk]
      have e0 : kndS T ⟨i, false⟩ = ⟨i + 1, false⟩ := by
        unfold kndS
        rw [if_neg hk.2]
        exact (take_yes hk.1).1
      rw [e0]
      by_cases h1 : (tk T (i + 1)).k = 1
      · obtain ⟨a, b⟩ := take_yes (T := T) h1
        simp only [if_pos h1]
        rw [a, b]
        by_cases h2 : (tk T (i + 2)).k = 2
        · obtain ⟨c, d⟩ := take_yes (T := T) h2
          simp only [if_pos h2]
          have hv : numV T ⟨i + 1 + 1, false⟩ = valE 2 (tk T (i + 2)).t := by unfold numV; rw [show (i + 1 + 1) = i + 2 from rfl, d]
          rw [hv, show (i + 1 + 1) = i + 2 from rfl, c]
          exact fin_same T (i + 3) wTries 1 (fun n => ⟨kw (tk T i).t, (tk T (i + 1)).t, valE 2 (tk T (i + 2)).t, 0, ⟨#[]⟩, n, 0⟩)
        · simp only [if_neg h2]
          rw [show (i + 1 + 1) = i + 2 from rfl, take_no h2]
          exact ⟨fun s e => (by cases e), fun _ => rfl⟩
      · simp only [if_neg h1]
        rw [take_no h1]
        exact ⟨fun s e => (by cases e), fun _ => rfl⟩
    · simp only [if_neg hk]
      have e0 : kndS T ⟨i, false⟩ = ⟨i, true⟩ := by
        unfold kndS
        by_cases hz : kw (tk T i).t = 0
        · rw [if_pos hz]; rfl
        · rw [if_neg hz]
          exact take_no (fun e => hk ⟨e, hz⟩)
      rw [e0]
      exact ⟨fun s e => (by cases e), fun _ => rfl⟩
theorem opt_le {T : List Tok} (hT : Gd T) (i : Nat) (wd : ByteArray) (n : Int) (h : i < T.length) : i ≤ (opt T i wd n).1 ∧ (opt T i wd n).1 < T.length := by
  unfold opt
  by_cases h1 : isT (tk T i) 1 wd = true
  · have hk := ((isT_iff _ _ _).1 h1).1
    have hn := hT.next (i := i) (by rw [hk]; decide)
    rw [if_pos h1]
    by_cases h2 : (tk T (i + 1)).k = 2
    · have hn2 := hT.next (i := i + 1) (by rw [h2]; decide)
      rw [if_pos h2]; exact ⟨by simp, by simpa using hn2⟩
    · rw [if_neg h2]; exact ⟨by simp, by simpa using hn⟩
  · rw [if_neg h1]; exact ⟨by simp, by simpa using h⟩
theorem fin_le {T : List Tok} (hT : Gd T) (x : Nat × Option Int) (f : Int → Stp) (h : x.1 < T.length) : x.1 ≤ (fin T x f).1 ∧ (fin T x f).1 < T.length := by
  unfold fin
  cases hx : x.2 with
  | none => exact ⟨Nat.le_refl _, h⟩
  | some m =>
    by_cases hs : isT (tk T x.1) 3 gSemi = true
    · have hk := ((isT_iff _ _ _).1 hs).1
      have hn := hT.next (i := x.1) (by rw [hk]; decide)
      simp only [if_pos hs]; exact ⟨by omega, hn⟩
    · simp only [if_neg hs]; exact ⟨Nat.le_refl _, h⟩
theorem one_le {T : List Tok} (hT : Gd T) (i : Nat) (h : i < T.length) : i ≤ (one T i).1 ∧ (one T i).1 < T.length ∧ ((one T i).2 ≠ none → i < (one T i).1) := by
  unfold one
  by_cases ha : isT (tk T i) 1 wAsk = true
  · have hn := hT.next (i := i) (by rw [((isT_iff _ _ _).1 ha).1]; decide)
    rw [if_pos ha]
    by_cases h1 : (tk T (i + 1)).k = 2
    · have hn1 := hT.next (i := i + 1) (by rw [h1]; decide)
      rw [if_pos h1]
      by_cases h2 : (tk T (i + 2)).k = 1
      · have hn2 := hT.next (i := i + 2) (by rw [h2]; decide)
        rw [if_pos h2]
        have q1 := opt_le hT (i + 3) wWait 20 hn2
        have q2 := fin_le hT (opt T (i + 3) wWait 20) (fun n => ⟨0, ⟨#[]⟩, 0, sm (tk T (i + 1)).t, (tk T (i + 2)).t, 0, n⟩) q1.2
        exact ⟨by omega, q2.2, fun _ => by omega⟩
      · rw [if_neg h2]; exact ⟨by simp, hn1, fun e => absurd rfl e⟩
    · rw [if_neg h1]; exact ⟨by simp, hn, fun e => absurd rfl e⟩
  · rw [if_neg ha]
    by_cases hk : (tk T i).k = 1 ∧ kw (tk T i).t ≠ 0
    · have hn := hT.next (i := i) (by rw [hk.1]; decide)
      rw [if_pos hk]
      by_cases h1 : (tk T (i + 1)).k = 1
      · have hn1 := hT.next (i := i + 1) (by rw [h1]; decide)
        rw [if_pos h1]
        by_cases h2 : (tk T (i + 2)).k = 2
        · have hn2 := hT.next (i := i + 2) (by rw [h2]; decide)
          rw [if_pos h2]
          have q1 := opt_le hT (i + 3) wTries 1 hn2
          have q2 := fin_le hT (opt T (i + 3) wTries 1) (fun n => ⟨kw (tk T i).t, (tk T (i + 1)).t, valE 2 (tk T (i + 2)).t, 0, ⟨#[]⟩, n, 0⟩) q1.2
          exact ⟨by omega, q2.2, fun _ => by omega⟩
        · rw [if_neg h2]; exact ⟨by simp, hn1, fun e => absurd rfl e⟩
      · rw [if_neg h1]; exact ⟨by simp, hn, fun e => absurd rfl e⟩
    · rw [if_neg hk]; exact ⟨by simp, h, fun e => absurd rfl e⟩
theorem stp_le {T : List Tok} (hT : Gd T) (i : Nat) (h : i < T.length) : (stpS T ⟨i, false⟩).i < T.length ∧ ((stpS T ⟨i, false⟩).s = true ∨ i < (stpS T ⟨i, false⟩).i) := by
  obtain ⟨h1, h2⟩ := stp_same T i
  obtain ⟨l1, l2, l3⟩ := one_le hT i h
  cases ho : (one T i).2 with
  | none => rw [h2 ho]; exact ⟨l2, Or.inl rfl⟩
  | some s => rw [(h1 s ho).1]; exact ⟨l2, Or.inr (l3 (by rw [ho]; simp))⟩
theorem lop_stuck (T : List Tok) (g i : Nat) (L : List Stp) : lopS T (g + 1) ⟨i, true⟩ L = (⟨i, true⟩, L) := by unfold lopS; rw [if_pos rfl]
theorem lop_open (T : List Tok) (g i : Nat) (L : List Stp) : lopS T (g + 1) ⟨i, false⟩ L = if isT (tk T i) 3 gShut = true then (⟨i + 1, false⟩, L) else lopS T g (stpS T ⟨i, false⟩) (L ++ [stpV T ⟨i, false⟩]) := by
  show (if (false = true) then _ else _) = _
  rw [if_neg (by decide), pass_open]
  by_cases hs : isT (tk T i) 3 gShut = true
  · rw [if_pos hs, if_pos hs, pass_yes hs]
  · rw [if_neg hs, if_neg hs]
theorem lop_same {T : List Tok} (hT : Gd T) : ∀ (f g : Nat) (i : Nat) (L : List Stp), i < T.length → T.length - i < f → T.length - i + 1 < g → (∀ M, (stps T f i L).2 = some M → lopS T g ⟨i, false⟩ L = (⟨(stps T f i L).1, false⟩, M)) ∧ ((stps T f i L).2 = none → ∃ M, lopS T g ⟨i, false⟩ L = (⟨(stps T f i L).1, true⟩, M)) ∧ (stps T f i L).1 < T.length := by
  intro f
  induction f with
  | zero => intro g i L hi hf; omega
  | succ f ih =>
    intro g i L hi hf hg
    cases g with
    | zero => omega
    | succ g =>
      rw [lop_open]
      unfold stps
      by_cases hs : isT (tk T i) 3 gShut = true
      · have hn := hT.next (i := i) (by rw [((isT_iff _ _ _).1 hs).1]; decide)
        simp only [if_pos hs]
        refine ⟨fun M e => ?_, fun e => (by cases e), hn⟩
        simp only [Option.some.injEq] at e
        rw [e]
      · simp only [if_neg hs]
        obtain ⟨h1, h2⟩ := stp_same T i
        obtain ⟨l1, l2, l3⟩ := one_le hT i hi
        rcases hx : one T i with ⟨j, o⟩
        rw [hx] at h1 h2 l1 l2 l3
        cases o with
        | none =>
          refine ⟨fun M e => (by cases e), fun _ => ?_, l2⟩
          rw [h2 rfl]
          cases g with
          | zero => omega
          | succ g => exact ⟨_, lop_stuck _ _ _ _⟩
        | some s =>
          obtain ⟨a, b⟩ := h1 s rfl
          have := l3 (by simp)
          simp only at this l2
          rw [a, b]
          exact ih g j (L ++ [s]) l2 (by omega) (by omega)
theorem def_same {T : List Tok} (hT : Gd T) (i : Nat) (h : i < T.length) : (∀ nm L, (prs T i).2 = some (nm, L) → defR T i = (⟨(prs T i).1, false⟩, L) ∧ defN T i = nm) ∧ ((prs T i).2 = none → ∃ M, defR T i = (⟨(prs T i).1, true⟩, M)) ∧ (prs T i).1 < T.length := by
  unfold prs defR defN defQ
  by_cases h0 : isT (tk T i) 1 wSaga = true
  · have hn := hT.next (i := i) (by rw [((isT_iff _ _ _).1 h0).1]; decide)
    rw [must_yes h0]
    simp only [if_pos h0]
    by_cases h1 : (tk T (i + 1)).k = 1
    · have hn1 := hT.next (i := i + 1) (by rw [h1]; decide)
      obtain ⟨a, b⟩ := take_yes (T := T) h1
      simp only [if_pos h1]
      rw [a, b]
      by_cases h2 : isT (tk T (i + 2)) 3 gOpen = true
      · have hn2 := hT.next (i := i + 2) (by rw [((isT_iff _ _ _).1 h2).1]; decide)
        simp only [if_pos h2]
        rw [show i + 1 + 1 = i + 2 from rfl, must_yes h2]
        obtain ⟨q1, q2, q3⟩ := lop_same hT (T.length + 1) (T.length + 2) (i + 3) [] hn2 (by omega) (by omega)
        rcases hx : stps T (T.length + 1) (i + 3) [] with ⟨j, o⟩
        rw [hx] at q1 q2 q3
        cases o with
        | none => exact ⟨fun nm L e => (by cases e), fun _ => q2 rfl, q3⟩
        | some M =>
          refine ⟨fun nm L e => ?_, fun e => (by cases e), q3⟩
          simp only [Option.some.injEq, Prod.mk.injEq] at e
          obtain ⟨e1, e2⟩ := e
          subst e1 e2
          exact ⟨q1 _ rfl, rfl⟩
      · simp only [if_neg h2]
        rw [show i + 1 + 1 = i + 2 from rfl, must_no h2]
        exact ⟨fun nm L e => (by cases e), fun _ => ⟨_, lop_stuck _ _ _ _⟩, hn1⟩
    · simp only [if_neg h1]
      rw [take_no h1]
      exact ⟨fun nm L e => (by cases e), fun _ => ⟨_, lop_stuck _ _ _ _⟩, hn⟩
  · rw [must_no h0]
    simp only [if_neg h0]
    exact ⟨fun nm L e => (by cases e), fun _ => ⟨_, lop_stuck _ _ _ _⟩, h⟩
def pE (T : List Tok) (at' : Int) : Int := if Lex.ckE T = 80 then 80 else if 0 ≤ at' ∧ at' < T.length then (match (prs T at'.toNat).2 with | none => 81 | some (nm, L) => chE nm L) else 2
def pA (T : List Tok) (at' : Int) : Int := if Lex.ckE T = 80 then 0 else if 0 ≤ at' ∧ at' < T.length then (match (prs T at'.toNat).2 with | none => (tk T (prs T at'.toNat).1).p | some (nm, L) => if defB nm L = true then 0 else (tk T at'.toNat).p) else 0
def pT (T : List Tok) (at' : Int) : Int := if pE T at' = 0 then ((prs T at'.toNat).1 : Int) else 0
def pN (T : List Tok) (at' : Int) : ByteArray := if pE T at' = 0 then (match (prs T at'.toNat).2 with | none => ⟨#[]⟩ | some (nm, _) => nm) else ⟨#[]⟩
def pL (T : List Tok) (at' : Int) : List Stp := if pE T at' = 0 then (match (prs T at'.toNat).2 with | none => [] | some (_, L) => L) else []
end Go.Proofs.YtfobfpigbfepoaaGreatDoor.Df
