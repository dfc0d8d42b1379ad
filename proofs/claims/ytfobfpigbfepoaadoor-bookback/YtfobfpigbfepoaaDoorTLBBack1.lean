/- What the proof is made of, part 1. -/
import Derived.Lib.ItoaNum
namespace Go.Proofs.YtfobfpigbfepoaaDoor.Csh
def okB (s : Int) : Bool := decide (-9223372036854775808 ≤ s) && decide (s ≤ 9223372036854775807)
def valE (s : Int) : Int := if okB s = true then s else 0
end Go.Proofs.YtfobfpigbfepoaaDoor.Csh
namespace Go.Proofs.YtfobfpigbfepoaaDoor.Pot
def mayB (h i o : Int) : Bool := decide (0 ≤ i) && decide (i ≤ h) && decide (0 ≤ o) && decide (h + o ≤ 1000000000000000)
def chkE (h i o : Int) : Int := if mayB h i o = true then 0 else 2
theorem may_iff (h i o : Int) : mayB h i o = true ↔ 0 ≤ i ∧ i ≤ h ∧ 0 ≤ o ∧ h + o ≤ 1000000000000000 := by
  unfold mayB; simp only [Bool.and_eq_true, decide_eq_true_eq]; omega
end Go.Proofs.YtfobfpigbfepoaaDoor.Pot
namespace Go.Proofs.YtfobfpigbfepoaaDoor.Act
def letB (b : UInt8) : Bool := decide ((97 : Int) ≤ (b.toNat : Int)) && decide ((b.toNat : Int) ≤ 122)
def digB (b : UInt8) : Bool := decide ((48 : Int) ≤ (b.toNat : Int)) && decide ((b.toNat : Int) ≤ 57)
def sgnB (b : UInt8) : Bool := letB b || digB b
def headB : List UInt8 → Bool
  | [] => false
  | b :: _ => letB b
def nameB (s : ByteArray) : Bool := decide (s.size ≤ 16) && headB s.data.toList && s.data.toList.all sgnB
theorem head_get (s : ByteArray) (h : 0 < s.size) : headB s.data.toList = letB (s[0]'h) := by
  have hl : s.data.toList.length = s.size := by simp
  have h0 : s.data.toList[0]'(by omega) = s[0]'h := rfl
  cases hc : s.data.toList with
  | nil => rw [hc] at hl; simp at hl; omega
  | cons b t => simp only [hc] at h0; rw [← h0]; rfl
theorem head_none (s : ByteArray) (h : s.size = 0) : headB s.data.toList = false := by
  have hl : s.data.toList.length = s.size := by simp
  cases hc : s.data.toList with
  | nil => rfl
  | cons b t => rw [hc] at hl; simp at hl; omega
theorem name_empty (s : ByteArray) (h : s.size = 0) : nameB s = false := by unfold nameB; rw [head_none s h]; simp
theorem name_long (s : ByteArray) (h : 16 < s.size) : nameB s = false := by unfold nameB; rw [decide_eq_false (by omega)]; rfl
theorem name_head (s : ByteArray) (h : 0 < s.size) (hb : letB (s[0]'h) = false) : nameB s = false := by unfold nameB; rw [head_get s h, hb]; simp
theorem name_sign (s : ByteArray) (k : Nat) (h : k < s.size) (hb : sgnB (s[k]'h) = false) : nameB s = false := by
  have hl : s.data.toList.length = s.size := by simp
  have hk : s.data.toList[k]'(by omega) = s[k]'h := rfl
  have : s.data.toList.all sgnB = false := by
    rw [List.all_eq_false]
    exact ⟨_, List.getElem_mem (by omega : k < s.data.toList.length), by rw [hk, hb]; simp⟩
  unfold nameB; rw [this]; simp
theorem name_yes (s : ByteArray) (h : 0 < s.size) (h16 : s.size ≤ 16) (hb : letB (s[0]'h) = true) (ha : ∀ j (hj : j < s.size), sgnB (s[j]'hj) = true) : nameB s = true := by
  have hl : s.data.toList.length = s.size := by simp
  have : s.data.toList.all sgnB = true := by
    rw [List.all_eq_true]
    intro b hm
    obtain ⟨j, hj, rfl⟩ := List.getElem_of_mem hm
    exact ha j (by omega)
  unfold nameB; rw [this, head_get s h, hb, decide_eq_true h16]; rfl
theorem sgn_let {b : UInt8} (h : letB b = true) : sgnB b = true := by unfold sgnB; rw [h]; rfl
theorem sgn_dig {b : UInt8} (h : digB b = true) : sgnB b = true := by unfold sgnB; rw [h]; simp
theorem sgn_no {b : UInt8} (h : letB b = false) (h2 : digB b = false) : sgnB b = false := by unfold sgnB; rw [h, h2]; rfl
theorem dig_let {b : UInt8} (h : digB b = true) : letB b = false := by
  unfold digB at h
  unfold letB
  simp only [Bool.and_eq_true, decide_eq_true_eq] at h
  rw [decide_eq_false (by omega)]; rfl
theorem name_pos {s : ByteArray} (h : nameB s = true) : 0 < s.size ∧ s.size ≤ 16 := by
  refine ⟨?_, ?_⟩
  · by_cases hz : s.size = 0
    · rw [name_empty s hz] at h; cases h
    · omega
  · by_cases hz : 16 < s.size
    · rw [name_long s hz] at h; cases h
    · omega
def actB (k : Int) (s : ByteArray) (n : Int) : Bool := decide (1 ≤ k) && decide (k ≤ 4) && nameB s && decide (1 ≤ n) && decide (n ≤ 1000000000000000)
def chkE (k : Int) (s : ByteArray) (n : Int) : Int := if actB k s n = true then 0 else 60
theorem act_iff (k : Int) (s : ByteArray) (n : Int) : actB k s n = true ↔ (1 ≤ k ∧ k ≤ 4) ∧ nameB s = true ∧ 1 ≤ n ∧ n ≤ 1000000000000000 := by
  unfold actB; simp only [Bool.and_eq_true, decide_eq_true_eq]; constructor
  · rintro ⟨⟨⟨⟨a, b⟩, c⟩, d⟩, e⟩; exact ⟨⟨a, b⟩, c, d, e⟩
  · rintro ⟨⟨a, b⟩, c, d, e⟩; exact ⟨⟨⟨⟨a, b⟩, c⟩, d⟩, e⟩
theorem chk_yes {k : Int} {s : ByteArray} {n : Int} (h : actB k s n = true) : chkE k s n = 0 := by unfold chkE; rw [if_pos h]
theorem chk_no {k : Int} {s : ByteArray} {n : Int} (h : actB k s n = false) : chkE k s n = 60 := by unfold chkE; rw [h]; rfl
def accB (s : ByteArray) (a b c x y z : Int) : Bool := nameB s && Pot.mayB a b c && Pot.mayB x y z
def mayE (s : ByteArray) (a b c x y z : Int) : Int := if accB s a b c x y z = true then 0 else 2
def wK (k : Int) : Int := if k = 3 then 1 else if k = 4 then -1 else 0
structure Ch where
  h : Bool → Int → Int → Int → Int → Int
  i : Bool → Int → Int → Int → Int → Int
  o : Bool → Int → Int → Int → Int → Int
  e : Bool → Int → Int → Int → Int → Int
def oK (k : Int) : Bool := decide (wK k < 0)
def hK (C : Ch) (k x y z n : Int) : Int := if wK k = 0 then x else C.h (oK k) x y z n
end Go.Proofs.YtfobfpigbfepoaaDoor.Act
namespace Go.Proofs.YtfobfpigbfepoaaDoor.Lex
open _root_.Go.Proofs.YtfobfpigbfepoaaDoor.Act (letB digB sgnB nameB headB)
structure Tok where
  k : Int
  t : ByteArray
  p : Int
def blkB (b : UInt8) : Bool := decide ((b.toNat : Int) = 32) || decide ((b.toNat : Int) = 9) || decide ((b.toNat : Int) = 10)
def remB (b : UInt8) : Bool := !decide ((b.toNat : Int) = 10)
def run (p : UInt8 → Bool) : List UInt8 → Nat
  | [] => 0
  | b :: t => if p b = true then run p t + 1 else 0
theorem run_le (p : UInt8 → Bool) (l : List UInt8) : run p l ≤ l.length := by
  induction l with
  | nil => simp [run]
  | cons b t ih =>
    rw [run]; split
    · simp; omega
    · simp
theorem run_yes {p : UInt8 → Bool} {b : UInt8} (t : List UInt8) (h : p b = true) : run p (b :: t) = run p t + 1 := by rw [run, if_pos h]
theorem run_no {p : UInt8 → Bool} {b : UInt8} (t : List UInt8) (h : p b = false) : run p (b :: t) = 0 := by rw [run, h]; rfl
theorem run_eq (p : UInt8 → Bool) : ∀ (l : List UInt8) (k : Nat), k ≤ l.length → (∀ j (hj : j < l.length), j < k → p l[j] = true) → (∀ h : k < l.length, p l[k] = false) → run p l = k := by
  intro l
  induction l with
  | nil => intro k hk _ _; simp at hk; rw [hk]; rfl
  | cons b t ih =>
    intro k hk ha he
    cases k with
    | zero => exact run_no t (he (by simp))
    | succ k =>
      have h0 : p b = true := ha 0 (by simp) (by omega)
      rw [run_yes t h0]
      rw [ih k (by simpa using hk) (fun j hj h => by have := ha (j + 1) (by simpa using hj) (by omega); simpa using this) (fun h => by have := he (by simpa using h); simpa using this)]
def zeroB : List UInt8 → Bool
  | [] => false
  | b :: _ => decide ((b.toNat : Int) = 48)
def numB (s : ByteArray) : Bool := decide (1 ≤ s.size) && decide (s.size ≤ 16) && s.data.toList.all digB && (decide (s.size = 1) || !zeroB s.data.toList)
def sigB (s : ByteArray) : Bool := decide (s = ⟨#[123]⟩) || decide (s = ⟨#[125]⟩) || decide (s = ⟨#[59]⟩)
def mayB (k : Int) (s : ByteArray) : Bool := if k = 1 then nameB s else if k = 2 then numB s else if k = 3 then sigB s else false
def kd (s : ByteArray) : Int := if sigB s = true then 3 else if numB s = true then 2 else if nameB s = true then 1 else 0
theorem all_get {p : UInt8 → Bool} (s : ByteArray) (h : s.data.toList.all p = true) (k : Nat) (hk : k < s.size) : p (s[k]'hk) = true := by
  rw [List.all_eq_true] at h
  exact h _ (List.getElem_mem (show k < s.data.toList.length by simpa using hk))
theorem zero_get (s : ByteArray) (h : 0 < s.size) : zeroB s.data.toList = decide (((s[0]'h).toNat : Int) = 48) := by
  have hl : s.data.toList.length = s.size := by simp
  have h0 : s.data.toList[0]'(by omega) = s[0]'h := rfl
  cases hc : s.data.toList with
  | nil => rw [hc] at hl; simp at hl; omega
  | cons b t => simp only [hc] at h0; rw [← h0]; rfl
theorem num_empty (s : ByteArray) (h : s.size = 0) : numB s = false := by unfold numB; rw [decide_eq_false (by omega)]; rfl
theorem num_long (s : ByteArray) (h : 16 < s.size) : numB s = false := by
  unfold numB
  rw [show decide (s.size ≤ 16) = false from decide_eq_false (by omega)]; simp
theorem num_parts {s : ByteArray} (h : numB s = true) : 1 ≤ s.size ∧ s.size ≤ 16 ∧ (∀ k (hk : k < s.size), digB (s[k]'hk) = true) := by
  unfold numB at h
  simp only [Bool.and_eq_true, decide_eq_true_eq] at h
  exact ⟨h.1.1.1, h.1.1.2, fun k hk => all_get s h.1.2 k hk⟩
theorem sig_parts {s : ByteArray} (h : sigB s = true) : s = ⟨#[123]⟩ ∨ s = ⟨#[125]⟩ ∨ s = ⟨#[59]⟩ := by
  unfold sigB at h
  simp only [Bool.or_eq_true, decide_eq_true_eq] at h
  rcases h with (h | h) | h
  · exact Or.inl h
  · exact Or.inr (Or.inl h)
  · exact Or.inr (Or.inr h)
def tl : List UInt8 → Nat
  | [] => 0
  | b :: t => if letB b = true then run sgnB t + 1 else if digB b = true then run digB t + 1 else 1
def pc (l : List UInt8) : ByteArray := ⟨(l.take (tl l)).toArray⟩
theorem tl_pos (b : UInt8) (t : List UInt8) : 1 ≤ tl (b :: t) := by
  rw [tl]
  split
  · omega
  · split <;> omega
theorem tl_le (l : List UInt8) : tl l ≤ l.length := by
  cases l with
  | nil => simp [tl]
  | cons b t =>
    unfold tl
    have h1 := run_le sgnB t
    have h2 := run_le digB t
    simp only [List.length_cons]
    split
    · omega
    · split <;> omega
theorem tl_let {b : UInt8} (t : List UInt8) (h : letB b = true) : tl (b :: t) = run sgnB (b :: t) := by rw [run_yes t (Act.sgn_let h), tl, if_pos h]
theorem tl_dig {b : UInt8} (t : List UInt8) (h0 : letB b = false) (h : digB b = true) : tl (b :: t) = run digB (b :: t) := by rw [run_yes t h, tl, h0, if_neg (by simp), if_pos h]
theorem tl_one {b : UInt8} (t : List UInt8) (h0 : letB b = false) (h : digB b = false) : tl (b :: t) = 1 := by rw [tl, h0, h, if_neg (by simp), if_neg (by simp)]
theorem pc_size (l : List UInt8) : (pc l).size = tl l := by
  have := tl_le l
  show (List.toArray _).size = _
  simp; omega
theorem pc_list (l : List UInt8) : (pc l).data.toList = l.take (tl l) := by simp [pc]
theorem head_let {b : UInt8} {t : List UInt8} (s : ByteArray) (h : s.data.toList = b :: t) (hb : letB b = true) : sigB s = false ∧ numB s = false := by
  have h2 : digB b = false := by
    cases hd : digB b with
    | false => rfl
    | true => rw [Act.dig_let hd] at hb; cases hb
  have hk : (97 : Int) ≤ (b.toNat : Int) ∧ (b.toNat : Int) ≤ 122 := by unfold letB at hb; simpa only [Bool.and_eq_true, decide_eq_true_eq] using hb
  constructor
  · cases hs : sigB s with
    | false => rfl
    | true =>
      rcases sig_parts hs with rfl | rfl | rfl <;> (simp at h; rw [← h.1] at hk; simp at hk)
  · unfold numB; rw [h, List.all_cons, h2]; simp
theorem head_dig {b : UInt8} {t : List UInt8} (s : ByteArray) (h : s.data.toList = b :: t) (hb : digB b = true) : sigB s = false ∧ nameB s = false := by
  have h2 := Act.dig_let hb
  have hk : (48 : Int) ≤ (b.toNat : Int) ∧ (b.toNat : Int) ≤ 57 := by unfold digB at hb; simpa only [Bool.and_eq_true, decide_eq_true_eq] using hb
  constructor
  · cases hs : sigB s with
    | false => rfl
    | true =>
      rcases sig_parts hs with rfl | rfl | rfl <;> (simp at h; rw [← h.1] at hk; simp at hk)
  · unfold nameB; rw [h, show headB (b :: t) = letB b from rfl, h2]; simp
theorem head_else {b : UInt8} {t : List UInt8} (s : ByteArray) (h : s.data.toList = b :: t) (h1 : letB b = false) (h2 : digB b = false) : numB s = false ∧ nameB s = false := by
  constructor
  · unfold numB; rw [h, List.all_cons, h2]; simp
  · unfold nameB; rw [h, show headB (b :: t) = letB b from rfl, h1]; simp
theorem pc_cons (b : UInt8) (t : List UInt8) : ∃ u, (pc (b :: t)).data.toList = b :: u := by
  rw [pc_list]
  have := tl_pos b t
  obtain ⟨n, hn⟩ : ∃ n, tl (b :: t) = n + 1 := ⟨tl (b :: t) - 1, by omega⟩
  rw [hn, List.take_succ_cons]
  exact ⟨_, rfl⟩
def fk (b : UInt8) : Int := if letB b = true then 1 else if digB b = true then 2 else 3
theorem kd_first (b : UInt8) (t : List UInt8) : kd (pc (b :: t)) = if mayB (fk b) (pc (b :: t)) = true then fk b else 0 := by
  obtain ⟨u, hu⟩ := pc_cons b t
  unfold fk
  cases h1 : letB b with
  | true =>
    obtain ⟨a1, a2⟩ := head_let _ hu h1
    unfold kd mayB
    rw [a1, a2]; simp
  | false =>
    cases h2 : digB b with
    | true =>
      obtain ⟨a1, a2⟩ := head_dig _ hu h2
      unfold kd mayB
      rw [a1, a2]; simp
    | false =>
      obtain ⟨a1, a2⟩ := head_else _ hu h1 h2
      unfold kd mayB
      rw [a1, a2]; simp
def scn : Nat → List UInt8 → Nat → List Tok × Option Nat
  | 0, _, _ => ([], none)
  | _ + 1, [], at' => ([⟨0, ⟨#[]⟩, at'⟩], none)
  | f + 1, b :: t, at' =>
    if blkB b = true then scn f t (at' + 1)
    else if (b.toNat : Int) = 35 then scn f ((b :: t).drop (run remB (b :: t))) (at' + run remB (b :: t))
    else if kd (pc (b :: t)) = 0 then ([], some at')
    else (⟨kd (pc (b :: t)), pc (b :: t), at'⟩ :: (scn f ((b :: t).drop (tl (b :: t))) (at' + tl (b :: t))).1, (scn f ((b :: t).drop (tl (b :: t))) (at' + tl (b :: t))).2)
theorem rem_pos {b : UInt8} (t : List UInt8) (h : (b.toNat : Int) = 35) : 1 ≤ run remB (b :: t) := by
  rw [run_yes t (by unfold remB; rw [decide_eq_false (by omega)]; rfl)]; omega
theorem scn_fuel : ∀ (f g : Nat) (l : List UInt8) (a : Nat), l.length < f → l.length < g → scn f l a = scn g l a := by
  intro f
  induction f with
  | zero => intro g l a h; omega
  | succ f ih =>
    intro g l a hf hg
    cases g with
    | zero => omega
    | succ g =>
      cases l with
      | nil => rfl
      | cons b t =>
        simp only [List.length_cons] at hf hg
        unfold scn
        split
        · exact ih g t _ (by omega) (by omega)
        · split
          · rename_i h35
            have := rem_pos t h35
            exact ih g _ _ (by simp; omega) (by simp; omega)
          · have := tl_pos b t
            rw [ih g ((b :: t).drop (tl (b :: t))) _ (by simp; omega) (by simp; omega)]
def S (l : List UInt8) (a : Nat) : List Tok × Option Nat := scn (l.length + 1) l a
theorem S_nil (a : Nat) : S [] a = ([⟨0, ⟨#[]⟩, a⟩], none) := rfl
theorem S_blank {b : UInt8} (t : List UInt8) (a : Nat) (h : blkB b = true) : S (b :: t) a = S t (a + 1) := by
  unfold S; rw [List.length_cons, scn, if_pos h]
theorem S_rem {b : UInt8} (t : List UInt8) (a : Nat) (h : blkB b = false) (h2 : (b.toNat : Int) = 35) : S (b :: t) a = S ((b :: t).drop (run remB (b :: t))) (a + run remB (b :: t)) := by
  have := rem_pos t h2
  unfold S; rw [List.length_cons, scn, h, if_neg (by simp), if_pos h2]
  exact scn_fuel _ _ _ _ (by simp; omega) (by simp)
theorem S_bad {b : UInt8} (t : List UInt8) (a : Nat) (h : blkB b = false) (h2 : ¬ (b.toNat : Int) = 35) (h3 : kd (pc (b :: t)) = 0) : S (b :: t) a = ([], some a) := by
  unfold S; rw [List.length_cons, scn, h, if_neg (by simp), if_neg h2, if_pos h3]
theorem S_tok {b : UInt8} (t : List UInt8) (a : Nat) (h : blkB b = false) (h2 : ¬ (b.toNat : Int) = 35) (h3 : ¬ kd (pc (b :: t)) = 0) :
    S (b :: t) a = (⟨kd (pc (b :: t)), pc (b :: t), a⟩ :: (S ((b :: t).drop (tl (b :: t))) (a + tl (b :: t))).1, (S ((b :: t).drop (tl (b :: t))) (a + tl (b :: t))).2) := by
  have := tl_pos b t
  unfold S; rw [List.length_cons, scn, h, if_neg (by simp), if_neg h2, if_neg h3]
  rw [scn_fuel (t.length + 1) (((b :: t).drop (tl (b :: t))).length + 1) _ _ (by simp; omega) (by simp)]
theorem S_blanks (l : List UInt8) : ∀ a, S l a = S (l.drop (run blkB l)) (a + run blkB l) := by
  induction l with
  | nil => intro a; rfl
  | cons b t ih =>
    intro a
    cases h : blkB b with
    | false => rw [run_no t h]; simp
    | true =>
      rw [run_yes t h, S_blank t a h, ih (a + 1), List.drop_succ_cons]
      rw [show a + 1 + run blkB t = a + (run blkB t + 1) by omega]
theorem drop_get (L : List UInt8) (k : Nat) (h : k < L.length) : L.drop k = L[k] :: L.drop (k + 1) := (List.getElem_cons_drop h).symm
def scF (L : List UInt8) : Int := if 2000 < L.length then 3 else if (S L 0).2 = none then 0 else 80
def scA (L : List UInt8) : Int := if 2000 < L.length then 0 else match (S L 0).2 with | none => 0 | some p => (p : Int)
def scT (L : List UInt8) : List Tok := if 2000 < L.length then [] else match (S L 0).2 with | none => (S L 0).1 | some _ => []
end Go.Proofs.YtfobfpigbfepoaaDoor.Lex
namespace Go.Proofs.YtfobfpigbfepoaaDoor.Lex
open _root_.Go.Proofs.YtfobfpigbfepoaaDoor.Act (letB digB sgnB nameB headB)
def endT (x : Tok) : Bool := decide (x.k = 0) && decide (x.t = ⟨#[]⟩)
def okT (x : Tok) : Bool := mayB x.k x.t
def szs (I : List Tok) : Nat := (I.map (fun x => x.t.size)).sum
def jz (I : List Tok) : Nat := szs I + (I.length - 1)
def ckE (T : List Tok) : Int := match T.getLast? with
  | none => 80
  | some x => if endT x = true then (if T.dropLast.all okT = true then (if 2000 < jz T.dropLast then 3 else 0) else 80) else 80
theorem szs_snoc (I : List Tok) (x : Tok) : szs (I ++ [x]) = szs I + x.t.size := by simp [szs]
theorem szs_take (I : List Tok) (i : Nat) (h : i < I.length) : szs (I.take (i + 1)) = szs (I.take i) + I[i].t.size := by
  rw [List.take_succ_eq_append_getElem h, szs_snoc]
theorem may_size {k : Int} {s : ByteArray} (h : mayB k s = true) : 1 ≤ s.size ∧ s.size ≤ 16 := by
  unfold mayB at h
  split at h
  · have := Act.name_pos h; omega
  · split at h
    · have := num_parts h; exact ⟨this.1, this.2.1⟩
    · split at h
      · rcases sig_parts h with rfl | rfl | rfl <;> decide
      · cases h
theorem szs_bound (I : List Tok) (h : ∀ x ∈ I, okT x = true) : szs I ≤ 16 * I.length := by
  induction I with
  | nil => simp [szs]
  | cons x t ih =>
    have h1 := ih (fun y hy => h y (by simp [hy]))
    have h2 := (may_size (h x (by simp))).2
    simp [szs] at h1 ⊢; omega
theorem ck_none : ckE [] = 80 := rfl
theorem ck_snoc (I : List Tok) (x : Tok) : ckE (I ++ [x]) = if endT x = true then (if I.all okT = true then (if 2000 < jz I then 3 else 0) else 80) else 80 := by
  unfold ckE; simp
theorem all_idx (I : List Tok) (p : Tok → Bool) (h : ∀ j (hj : j < I.length), p I[j] = true) : I.all p = true := by
  rw [List.all_eq_true]
  intro x hx
  obtain ⟨j, hj, rfl⟩ := List.getElem_of_mem hx
  exact h j hj
theorem all_nidx (I : List Tok) (p : Tok → Bool) (j : Nat) (hj : j < I.length) (h : p I[j] = false) : I.all p = false := by
  rw [List.all_eq_false]
  exact ⟨I[j], List.getElem_mem hj, by rw [h]; simp⟩
def vl : List UInt8 → Int → Int
  | [], n => n
  | b :: t, n => vl t (n * 10 + ((b.toNat : Int) - 48))
def valE (k : Int) (s : ByteArray) : Int := if k = 2 ∧ numB s = true then vl s.data.toList 0 else 0
def valB (k : Int) (s : ByteArray) : Bool := decide (k = 2) && numB s
theorem vl_snoc (l : List UInt8) (b : UInt8) : ∀ n, vl (l ++ [b]) n = vl l n * 10 + ((b.toNat : Int) - 48) := by
  induction l with
  | nil => intro n; rfl
  | cons c t ih => intro n; exact ih _
theorem vl_take (l : List UInt8) (k : Nat) (h : k < l.length) : vl (l.take (k + 1)) 0 = vl (l.take k) 0 * 10 + ((l[k].toNat : Int) - 48) := by
  rw [List.take_succ_eq_append_getElem h, vl_snoc]
theorem vl_bound : ∀ (l : List UInt8) (n : Int), 0 ≤ n → (∀ b ∈ l, digB b = true) → 0 ≤ vl l n ∧ vl l n < (n + 1) * 10 ^ l.length := by
  intro l
  induction l with
  | nil => intro n hn _; simp [vl]; omega
  | cons b t ih =>
    intro n hn hd
    have hb : digB b = true := hd b (by simp)
    have hk : (48 : Int) ≤ (b.toNat : Int) ∧ (b.toNat : Int) ≤ 57 := by unfold Act.digB at hb; simpa only [Bool.and_eq_true, decide_eq_true_eq] using hb
    obtain ⟨h1, h2⟩ := ih (n * 10 + ((b.toNat : Int) - 48)) (by omega) (fun c hc => hd c (by simp [hc]))
    refine ⟨h1, Int.lt_of_lt_of_le h2 ?_⟩
    rw [List.length_cons, Int.pow_succ]
    have : (n * 10 + ((b.toNat : Int) - 48) + 1) ≤ (n + 1) * 10 := by omega
    have h3 : (0 : Int) ≤ 10 ^ t.length := Int.pow_nonneg (by omega)
    calc (n * 10 + ((b.toNat : Int) - 48) + 1) * 10 ^ t.length ≤ ((n + 1) * 10) * 10 ^ t.length := Int.mul_le_mul_of_nonneg_right this h3
      _ = (n + 1) * (10 ^ t.length * 10) := by rw [Int.mul_assoc, Int.mul_comm 10]
theorem vl_rng (l : List UInt8) (hl : l.length ≤ 16) (hd : ∀ b ∈ l, digB b = true) : 0 ≤ vl l 0 ∧ vl l 0 < 10000000000000000 := by
  obtain ⟨h1, h2⟩ := vl_bound l 0 (by omega) hd
  refine ⟨h1, Int.lt_of_lt_of_le h2 ?_⟩
  have h := Nat.pow_le_pow_right (show 0 < 10 by omega) hl
  have e : ((10 : Int) ^ l.length) = ((10 ^ l.length : Nat) : Int) := by simp
  rw [e]
  omega
end Go.Proofs.YtfobfpigbfepoaaDoor.Lex
namespace Go.Proofs.YtfobfpigbfepoaaDoor.Lex
open _root_.Go.Proofs.YtfobfpigbfepoaaDoor.Act (letB digB sgnB nameB headB)
def gap : List UInt8 → Bool
  | [] => true
  | b :: _ => !sgnB b
theorem run_app (p : UInt8 → Bool) (x r : List UInt8) (hx : x.all p = true) (hr : ∀ b t, r = b :: t → p b = false) : run p (x ++ r) = x.length := by
  induction x with
  | nil =>
    cases r with
    | nil => rfl
    | cons b t => exact run_no t (hr b t rfl)
  | cons b t ih =>
    rw [List.all_cons, Bool.and_eq_true] at hx
    rw [List.cons_append, run_yes _ hx.1, ih hx.2]; rfl
theorem list_bytes {x y : ByteArray} (h : x.data.toList = y.data.toList) : x = y := by
  cases x with
  | mk a => cases y with
    | mk b => simp at h; rw [h]
theorem bytes_list (x : ByteArray) : (⟨x.data.toList.toArray⟩ : ByteArray) = x := list_bytes (by simp)
theorem not_blk {b : UInt8} (h : 33 ≤ b.toNat) : blkB b = false := by
  unfold blkB; rw [decide_eq_false (by omega), decide_eq_false (by omega), decide_eq_false (by omega)]; rfl
theorem may_cut (k : Int) (x : ByteArray) (r : List UInt8) (h : mayB k x = true) (hr : gap r = true) :
    ∃ b t, x.data.toList ++ r = b :: t ∧ blkB b = false ∧ ¬ (b.toNat : Int) = 35 ∧ tl (b :: t) = x.size ∧ pc (b :: t) = x ∧ kd x = k ∧ k ≠ 0 := by
  have hsz := may_size h
  have hl : x.data.toList.length = x.size := by simp
  obtain ⟨b, u, hxu⟩ : ∃ b u, x.data.toList = b :: u := by
    cases hc : x.data.toList with
    | nil => rw [hc] at hl; simp at hl; omega
    | cons b u => exact ⟨b, u, rfl⟩
  have hpc : ∀ t, tl (b :: t) = x.size → b :: t = x.data.toList ++ r → pc (b :: t) = x := by
    intro t ht he
    apply list_bytes
    rw [pc_list, ht, he, ← hl, List.take_left]
  have hrs : ∀ c t, r = c :: t → sgnB c = false := by
    intro c t e
    rw [e] at hr
    simpa [gap] using hr
  have hrd : ∀ c t, r = c :: t → digB c = false := by
    intro c t e
    have := hrs c t e
    unfold Act.sgnB at this
    rw [Bool.or_eq_false_iff] at this
    exact this.2
  unfold mayB at h
  split at h
  · rename_i hk
    have hall : x.data.toList.all sgnB = true := by unfold Act.nameB at h; simp only [Bool.and_eq_true] at h; exact h.2
    have hhd : letB b = true := by unfold Act.nameB at h; rw [hxu] at h; simp only [Bool.and_eq_true] at h; exact h.1.2
    have hr97 : 97 ≤ b.toNat ∧ b.toNat ≤ 122 := by unfold Act.letB at hhd; simp only [Bool.and_eq_true, decide_eq_true_eq] at hhd; omega
    have ht : tl (b :: (u ++ r)) = x.size := by
      rw [tl_let _ hhd, show b :: (u ++ r) = x.data.toList ++ r by rw [hxu]; rfl, run_app sgnB _ r hall hrs, hl]
    obtain ⟨q1, q2⟩ := head_let x hxu hhd
    refine ⟨b, u ++ r, by rw [hxu]; rfl, not_blk (by omega), by omega, ht, hpc _ ht (by rw [hxu]; rfl), ?_, by omega⟩
    unfold kd
    rw [q1, q2, h, hk]; rfl
  · split at h
    · rename_i hk
      have hall : x.data.toList.all digB = true := by unfold numB at h; simp only [Bool.and_eq_true] at h; exact h.1.2
      have hhd : digB b = true := by rw [hxu, List.all_cons, Bool.and_eq_true] at hall; exact hall.1
      have hr48 : 48 ≤ b.toNat ∧ b.toNat ≤ 57 := by have h5 := hhd; unfold Act.digB at h5; simp only [Bool.and_eq_true, decide_eq_true_eq] at h5; omega
      have ht : tl (b :: (u ++ r)) = x.size := by
        rw [tl_dig _ (Act.dig_let hhd) hhd, show b :: (u ++ r) = x.data.toList ++ r by rw [hxu]; rfl, run_app digB _ r hall hrd, hl]
      obtain ⟨q1, q2⟩ := head_dig x hxu hhd
      refine ⟨b, u ++ r, by rw [hxu]; rfl, not_blk (by omega), by omega, ht, hpc _ ht (by rw [hxu]; rfl), ?_, by omega⟩
      unfold kd
      rw [q1, h, hk]; rfl
    · split at h
      · rename_i hk
        have hcase : ∃ c : UInt8, x = ⟨#[c]⟩ ∧ letB c = false ∧ digB c = false ∧ blkB c = false ∧ ¬ (c.toNat : Int) = 35 := by
          rcases sig_parts h with e | e | e
          · exact ⟨123, e, by decide, by decide, by decide, by decide⟩
          · exact ⟨125, e, by decide, by decide, by decide, by decide⟩
          · exact ⟨59, e, by decide, by decide, by decide, by decide⟩
        obtain ⟨c, hx1, c1, c2, c3, c4⟩ := hcase
        have hx2 : x.data.toList = [c] := by rw [hx1]
        have hs1 : x.size = 1 := by rw [hx1]; rfl
        have ht : tl (c :: r) = x.size := by rw [tl_one r c1 c2, hs1]
        refine ⟨c, r, by rw [hx2]; rfl, c3, c4, ht, ?_, ?_, by omega⟩
        · apply list_bytes
          rw [pc_list, ht, hs1, hx2]; rfl
        · unfold kd
          rw [h, hk]; rfl
      · cases h
def but (x y : Tok) : Prop := x.k = y.k ∧ x.t = y.t
def butL : List Tok → List Tok → Prop
  | [], [] => True
  | x :: t, y :: u => but x y ∧ butL t u
  | _, _ => False
theorem butL_len : ∀ (L M : List Tok), butL L M → L.length = M.length := by
  intro L
  induction L with
  | nil => intro M h; cases M with
    | nil => rfl
    | cons y u => exact h.elim
  | cons x t ih => intro M h; cases M with
    | nil => exact h.elim
    | cons y u => rw [List.length_cons, List.length_cons, ih u h.2]
theorem butL_get : ∀ (L M : List Tok), butL L M → ∀ j (h1 : j < L.length) (h2 : j < M.length), L[j].k = M[j].k ∧ L[j].t = M[j].t := by
  intro L
  induction L with
  | nil => intro M _ j h1; simp at h1
  | cons x t ih => intro M h; cases M with
    | nil => exact h.elim
    | cons y u =>
      intro j h1 h2
      cases j with
      | zero => exact h.1
      | succ j => exact ih u h.2 j (by simpa using h1) (by simpa using h2)
theorem scn_len : ∀ (f : Nat) (l : List UInt8) (a : Nat), (scn f l a).1.length ≤ l.length + 1 := by
  intro f
  induction f with
  | zero => intro l a; simp [scn]
  | succ f ih =>
    intro l a
    cases l with
    | nil => simp [scn]
    | cons b t =>
      unfold scn
      split
      · have := ih t (a + 1); simp; omega
      · split
        · have := ih ((b :: t).drop (run remB (b :: t))) (a + run remB (b :: t))
          rw [List.length_drop] at this
          omega
        · split
          · simp
          · have h1 := ih ((b :: t).drop (tl (b :: t))) (a + tl (b :: t))
            have h2 := tl_pos b t
            have h3 := tl_le (b :: t)
            simp only [List.length_drop, List.length_cons] at h1 h3 ⊢
            omega
theorem scT_len (l : List UInt8) : (scT l).length ≤ 2001 := by
  unfold scT
  split
  · simp
  · split
    · have := scn_len (l.length + 1) l 0
      unfold S
      omega
    · simp
end Go.Proofs.YtfobfpigbfepoaaDoor.Lex
