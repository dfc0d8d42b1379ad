/- Plain mathematics of tokens: words, numbers, signs, and how a text is cut. -/
import Derived.Test.YtdliljijgokpjaaDoorActM
namespace Go.Proofs.YtdliljijgokpjaaDoor.Lex
open _root_.Go.Proofs.YtdliljijgokpjaaDoor.Act (letB digB sgnB nameB headB)

structure Tok where
  k : Int
  t : ByteArray
  p : Int

def blkB (b : UInt8) : Bool := decide ((b.toNat : Int) = 32) || decide ((b.toNat : Int) = 9) || decide ((b.toNat : Int) = 10)
def remB (b : UInt8) : Bool := !decide ((b.toNat : Int) = 10)

/- how many bytes of a kind stand ahead -/
def run (p : UInt8 → Bool) : List UInt8 → Nat
  | [] => 0
  | b :: t => if p b = true then run p t + 1 else 0
theorem run_le (p : UInt8 → Bool) (l : List UInt8) : run p l ≤ l.length := by
  induction l with
  | nil => simp [run]
  | cons b t ih =>
    rw [run]; split
    · simp; omega
    · simp
theorem run_yes {p : UInt8 → Bool} {b : UInt8} (t : List UInt8) (h : p b = true) : run p (b :: t) = run p t + 1 := by rw [run, if_pos h]
theorem run_no {p : UInt8 → Bool} {b : UInt8} (t : List UInt8) (h : p b = false) : run p (b :: t) = 0 := by rw [run, h]; rfl
theorem run_eq (p : UInt8 → Bool) : ∀ (l : List UInt8) (k : Nat), k ≤ l.length → (∀ j (hj : j < l.length), j < k → p l[j] = true) → (∀ h : k < l.length, p l[k] = false) → run p l = k := by
  intro l
  induction l with
  | nil => intro k hk _ _; simp at hk; rw [hk]; rfl
  | cons b t ih =>
    intro k hk ha he
    cases k with
    | zero => exact run_no t (he (by simp))
    | succ k =>
      have h0 : p b = true := ha 0 (by simp) (by omega)
      rw [run_yes t h0]
      rw [ih k (by simpa using hk) (fun j hj h => by have := ha (j + 1) (by simpa using hj) (by omega); simpa using this) (fun h => by have := he (by simpa using h); simpa using this)]
theorem run_get (p : UInt8 → Bool) : ∀ (l : List UInt8) (j : Nat) (hj : j < l.length), j < run p l → p l[j] = true := by
  intro l
  induction l with
  | nil => intro j hj; simp at hj
  | cons b t ih =>
    intro j hj h
    cases hb : p b with
    | false => rw [run_no t hb] at h; omega
    | true =>
      rw [run_yes t hb] at h
      cases j with
      | zero => simpa using hb
      | succ j => simpa using ih j (by simpa using hj) (by omega)
theorem run_end (p : UInt8 → Bool) : ∀ (l : List UInt8) (h : run p l < l.length), p l[run p l] = false := by
  intro l
  induction l with
  | nil => intro h; simp [run] at h
  | cons b t ih =>
    intro h
    cases hb : p b with
    | false =>
      have e : run p (b :: t) = 0 := run_no t hb
      simp only [e, List.getElem_cons_zero]; exact hb
    | true =>
      have e : run p (b :: t) = run p t + 1 := run_yes t hb
      simp only [e, List.getElem_cons_succ]
      exact ih (by rw [e] at h; simpa using h)

/- numbers, signs -/
def zeroB : List UInt8 → Bool
  | [] => false
  | b :: _ => decide ((b.toNat : Int) = 48)
def numB (s : ByteArray) : Bool := decide (1 ≤ s.size) && decide (s.size ≤ 16) && s.data.toList.all digB && (decide (s.size = 1) || !zeroB s.data.toList)
def sigB (s : ByteArray) : Bool := decide (s = ⟨#[123]⟩) || decide (s = ⟨#[125]⟩) || decide (s = ⟨#[59]⟩)
def mayB (k : Int) (s : ByteArray) : Bool := if k = 1 then nameB s else if k = 2 then numB s else if k = 3 then sigB s else false
def kd (s : ByteArray) : Int := if sigB s = true then 3 else if numB s = true then 2 else if nameB s = true then 1 else 0

theorem all_get {p : UInt8 → Bool} (s : ByteArray) (h : s.data.toList.all p = true) (k : Nat) (hk : k < s.size) : p (s[k]'hk) = true := by
  rw [List.all_eq_true] at h
  exact h _ (List.getElem_mem (show k < s.data.toList.length by simpa using hk))
theorem all_of {p : UInt8 → Bool} (s : ByteArray) (h : ∀ k (hk : k < s.size), p (s[k]'hk) = true) : s.data.toList.all p = true := by
  rw [List.all_eq_true]
  intro b hb
  obtain ⟨j, hj, rfl⟩ := List.getElem_of_mem hb
  exact h j (by simpa using hj)
theorem all_not {p : UInt8 → Bool} (s : ByteArray) (k : Nat) (hk : k < s.size) (h : p (s[k]'hk) = false) : s.data.toList.all p = false := by
  rw [List.all_eq_false]
  exact ⟨_, List.getElem_mem (show k < s.data.toList.length by simpa using hk), by show ¬ (p (s[k]'hk) = true); rw [h]; simp⟩
theorem zero_get (s : ByteArray) (h : 0 < s.size) : zeroB s.data.toList = decide (((s[0]'h).toNat : Int) = 48) := by
  have hl : s.data.toList.length = s.size := by simp
  have h0 : s.data.toList[0]'(by omega) = s[0]'h := rfl
  cases hc : s.data.toList with
  | nil => rw [hc] at hl; simp at hl; omega
  | cons b t => simp only [hc] at h0; rw [← h0]; rfl
theorem num_empty (s : ByteArray) (h : s.size = 0) : numB s = false := by unfold numB; rw [decide_eq_false (by omega)]; rfl
theorem num_long (s : ByteArray) (h : 16 < s.size) : numB s = false := by
  unfold numB
  rw [show decide (s.size ≤ 16) = false from decide_eq_false (by omega)]; simp
theorem num_sign (s : ByteArray) (k : Nat) (h : k < s.size) (hb : digB (s[k]'h) = false) : numB s = false := by
  unfold numB
  rw [all_not s k h hb]; simp
theorem num_all (s : ByteArray) (h0 : 1 ≤ s.size) (h1 : s.size ≤ 16) (ha : ∀ k (hk : k < s.size), digB (s[k]'hk) = true) : numB s = (decide (s.size = 1) || !decide (((s[0]'h0).toNat : Int) = 48)) := by
  unfold numB
  rw [all_of s ha, decide_eq_true h0, decide_eq_true h1, zero_get s h0]; rfl
theorem num_parts {s : ByteArray} (h : numB s = true) : 1 ≤ s.size ∧ s.size ≤ 16 ∧ (∀ k (hk : k < s.size), digB (s[k]'hk) = true) := by
  unfold numB at h
  simp only [Bool.and_eq_true, decide_eq_true_eq] at h
  exact ⟨h.1.1.1, h.1.1.2, fun k hk => all_get s h.1.2 k hk⟩
theorem sig_parts {s : ByteArray} (h : sigB s = true) : s = ⟨#[123]⟩ ∨ s = ⟨#[125]⟩ ∨ s = ⟨#[59]⟩ := by
  unfold sigB at h
  simp only [Bool.or_eq_true, decide_eq_true_eq] at h
  rcases h with (h | h) | h
  · exact Or.inl h
  · exact Or.inr (Or.inl h)
  · exact Or.inr (Or.inr h)

/- what stands at the beginning, taken for a token -/
def tl : List UInt8 → Nat
  | [] => 0
  | b :: t => if letB b = true then run sgnB t + 1 else if digB b = true then run digB t + 1 else 1
def pc (l : List UInt8) : ByteArray := ⟨(l.take (tl l)).toArray⟩
theorem tl_pos (b : UInt8) (t : List UInt8) : 1 ≤ tl (b :: t) := by
  rw [tl]
  split
  · omega
  · split <;> omega
theorem tl_le (l : List UInt8) : tl l ≤ l.length := by
  cases l with
  | nil => simp [tl]
  | cons b t =>
    unfold tl
    have h1 := run_le sgnB t
    have h2 := run_le digB t
    simp only [List.length_cons]
    split
    · omega
    · split <;> omega
theorem tl_let {b : UInt8} (t : List UInt8) (h : letB b = true) : tl (b :: t) = run sgnB (b :: t) := by rw [run_yes t (Act.sgn_let h), tl, if_pos h]
theorem tl_dig {b : UInt8} (t : List UInt8) (h0 : letB b = false) (h : digB b = true) : tl (b :: t) = run digB (b :: t) := by rw [run_yes t h, tl, h0, if_neg (by simp), if_pos h]
theorem tl_one {b : UInt8} (t : List UInt8) (h0 : letB b = false) (h : digB b = false) : tl (b :: t) = 1 := by rw [tl, h0, h, if_neg (by simp), if_neg (by simp)]
theorem pc_size (l : List UInt8) : (pc l).size = tl l := by
  have := tl_le l
  show (List.toArray _).size = _
  simp; omega
theorem pc_list (l : List UInt8) : (pc l).data.toList = l.take (tl l) := by simp [pc]

theorem head_let {b : UInt8} {t : List UInt8} (s : ByteArray) (h : s.data.toList = b :: t) (hb : letB b = true) : sigB s = false ∧ numB s = false := by
  have h2 : digB b = false := by
    cases hd : digB b with
    | false => rfl
    | true => rw [Act.dig_let hd] at hb; cases hb
  have hk : (97 : Int) ≤ (b.toNat : Int) ∧ (b.toNat : Int) ≤ 122 := by unfold letB at hb; simpa only [Bool.and_eq_true, decide_eq_true_eq] using hb
  constructor
  · cases hs : sigB s with
    | false => rfl
    | true =>
      rcases sig_parts hs with rfl | rfl | rfl <;> (simp at h; rw [← h.1] at hk; simp at hk)
  · unfold numB; rw [h, List.all_cons, h2]; simp
theorem head_dig {b : UInt8} {t : List UInt8} (s : ByteArray) (h : s.data.toList = b :: t) (hb : digB b = true) : sigB s = false ∧ nameB s = false := by
  have h2 := Act.dig_let hb
  have hk : (48 : Int) ≤ (b.toNat : Int) ∧ (b.toNat : Int) ≤ 57 := by unfold digB at hb; simpa only [Bool.and_eq_true, decide_eq_true_eq] using hb
  constructor
  · cases hs : sigB s with
    | false => rfl
    | true =>
      rcases sig_parts hs with rfl | rfl | rfl <;> (simp at h; rw [← h.1] at hk; simp at hk)
  · unfold nameB; rw [h, show headB (b :: t) = letB b from rfl, h2]; simp
theorem head_else {b : UInt8} {t : List UInt8} (s : ByteArray) (h : s.data.toList = b :: t) (h1 : letB b = false) (h2 : digB b = false) : numB s = false ∧ nameB s = false := by
  constructor
  · unfold numB; rw [h, List.all_cons, h2]; simp
  · unfold nameB; rw [h, show headB (b :: t) = letB b from rfl, h1]; simp
theorem pc_cons (b : UInt8) (t : List UInt8) : ∃ u, (pc (b :: t)).data.toList = b :: u := by
  rw [pc_list]
  have := tl_pos b t
  obtain ⟨n, hn⟩ : ∃ n, tl (b :: t) = n + 1 := ⟨tl (b :: t) - 1, by omega⟩
  rw [hn, List.take_succ_cons]
  exact ⟨_, rfl⟩
/- the kind by the first byte -/
def fk (b : UInt8) : Int := if letB b = true then 1 else if digB b = true then 2 else 3
theorem kd_first (b : UInt8) (t : List UInt8) : kd (pc (b :: t)) = if mayB (fk b) (pc (b :: t)) = true then fk b else 0 := by
  obtain ⟨u, hu⟩ := pc_cons b t
  unfold fk
  cases h1 : letB b with
  | true =>
    obtain ⟨a1, a2⟩ := head_let _ hu h1
    unfold kd mayB
    rw [a1, a2]; simp
  | false =>
    cases h2 : digB b with
    | true =>
      obtain ⟨a1, a2⟩ := head_dig _ hu h2
      unfold kd mayB
      rw [a1, a2]; simp
    | false =>
      obtain ⟨a1, a2⟩ := head_else _ hu h1 h2
      unfold kd mayB
      rw [a1, a2]; simp

/- a text, cut from its beginning on: the tokens, and where no token goes on -/
def scn : Nat → List UInt8 → Nat → List Tok × Option Nat
  | 0, _, _ => ([], none)
  | _ + 1, [], at' => ([⟨0, ⟨#[]⟩, at'⟩], none)
  | f + 1, b :: t, at' =>
    if blkB b = true then scn f t (at' + 1)
    else if (b.toNat : Int) = 35 then scn f ((b :: t).drop (run remB (b :: t))) (at' + run remB (b :: t))
    else if kd (pc (b :: t)) = 0 then ([], some at')
    else (⟨kd (pc (b :: t)), pc (b :: t), at'⟩ :: (scn f ((b :: t).drop (tl (b :: t))) (at' + tl (b :: t))).1, (scn f ((b :: t).drop (tl (b :: t))) (at' + tl (b :: t))).2)
theorem rem_pos {b : UInt8} (t : List UInt8) (h : (b.toNat : Int) = 35) : 1 ≤ run remB (b :: t) := by
  rw [run_yes t (by unfold remB; rw [decide_eq_false (by omega)]; rfl)]; omega
theorem scn_fuel : ∀ (f g : Nat) (l : List UInt8) (a : Nat), l.length < f → l.length < g → scn f l a = scn g l a := by
  intro f
  induction f with
  | zero => intro g l a h; omega
  | succ f ih =>
    intro g l a hf hg
    cases g with
    | zero => omega
    | succ g =>
      cases l with
      | nil => rfl
      | cons b t =>
        simp only [List.length_cons] at hf hg
        unfold scn
        split
        · exact ih g t _ (by omega) (by omega)
        · split
          · rename_i h35
            have := rem_pos t h35
            exact ih g _ _ (by simp; omega) (by simp; omega)
          · have := tl_pos b t
            rw [ih g ((b :: t).drop (tl (b :: t))) _ (by simp; omega) (by simp; omega)]
def S (l : List UInt8) (a : Nat) : List Tok × Option Nat := scn (l.length + 1) l a
theorem S_nil (a : Nat) : S [] a = ([⟨0, ⟨#[]⟩, a⟩], none) := rfl
theorem S_blank {b : UInt8} (t : List UInt8) (a : Nat) (h : blkB b = true) : S (b :: t) a = S t (a + 1) := by
  unfold S; rw [List.length_cons, scn, if_pos h]
theorem S_rem {b : UInt8} (t : List UInt8) (a : Nat) (h : blkB b = false) (h2 : (b.toNat : Int) = 35) : S (b :: t) a = S ((b :: t).drop (run remB (b :: t))) (a + run remB (b :: t)) := by
  have := rem_pos t h2
  unfold S; rw [List.length_cons, scn, h, if_neg (by simp), if_pos h2]
  exact scn_fuel _ _ _ _ (by simp; omega) (by simp)
theorem S_bad {b : UInt8} (t : List UInt8) (a : Nat) (h : blkB b = false) (h2 : ¬ (b.toNat : Int) = 35) (h3 : kd (pc (b :: t)) = 0) : S (b :: t) a = ([], some a) := by
  unfold S; rw [List.length_cons, scn, h, if_neg (by simp), if_neg h2, if_pos h3]
theorem S_tok {b : UInt8} (t : List UInt8) (a : Nat) (h : blkB b = false) (h2 : ¬ (b.toNat : Int) = 35) (h3 : ¬ kd (pc (b :: t)) = 0) :
    S (b :: t) a = (⟨kd (pc (b :: t)), pc (b :: t), a⟩ :: (S ((b :: t).drop (tl (b :: t))) (a + tl (b :: t))).1, (S ((b :: t).drop (tl (b :: t))) (a + tl (b :: t))).2) := by
  have := tl_pos b t
  unfold S; rw [List.length_cons, scn, h, if_neg (by simp), if_neg h2, if_neg h3]
  rw [scn_fuel (t.length + 1) (((b :: t).drop (tl (b :: t))).length + 1) _ _ (by simp; omega) (by simp)]
theorem S_blanks (l : List UInt8) : ∀ a, S l a = S (l.drop (run blkB l)) (a + run blkB l) := by
  induction l with
  | nil => intro a; rfl
  | cons b t ih =>
    intro a
    cases h : blkB b with
    | false => rw [run_no t h]; simp
    | true =>
      rw [run_yes t h, S_blank t a h, ih (a + 1), List.drop_succ_cons]
      rw [show a + 1 + run blkB t = a + (run blkB t + 1) by omega]

/- one step from a place of a text -/
theorem drop_get (L : List UInt8) (k : Nat) (h : k < L.length) : L.drop k = L[k] :: L.drop (k + 1) := (List.getElem_cons_drop h).symm
/- the answer of Scan -/
def scF (L : List UInt8) : Int := if 2000 < L.length then 3 else if (S L 0).2 = none then 0 else 80
def scA (L : List UInt8) : Int := if 2000 < L.length then 0 else match (S L 0).2 with | none => 0 | some p => (p : Int)
def scT (L : List UInt8) : List Tok := if 2000 < L.length then [] else match (S L 0).2 with | none => (S L 0).1 | some _ => []
end Go.Proofs.YtdliljijgokpjaaDoor.Lex
