
/- Plain mathematics of outboxes, over notes of any kind: which rows of items may be; what Push, Answered, Anew and Due answer; nothing of the program. -/
namespace Go.Proofs.Ytilkfgpcibdikaa.Ox
variable {α : Type}

/- an item: its number, when it is due, how often it was sent, its note -/
structure It (α : Type) where
  q : Int
  d : Int
  s : Int
  n : α
/- an item by itself -/
def one (ok : α → Bool) (x : It α) : Bool := decide (1 ≤ x.q ∧ x.q ≤ 1000000000) && ok x.n && decide (0 ≤ x.d ∧ x.d ≤ 1000000016) && decide (0 ≤ x.s ∧ x.s ≤ 1000000)
theorem one_iff (ok : α → Bool) (x : It α) : one ok x = true ↔ (1 ≤ x.q ∧ x.q ≤ 1000000000) ∧ ok x.n = true ∧ (0 ≤ x.d ∧ x.d ≤ 1000000016) ∧ (0 ≤ x.s ∧ x.s ≤ 1000000) := by
  simp only [one, Bool.and_eq_true, decide_eq_true_eq]
  constructor
  · rintro ⟨⟨⟨h1, h2⟩, h3⟩, h4⟩; exact ⟨h1, h2, h3, h4⟩
  · rintro ⟨h1, h2, h3, h4⟩; exact ⟨⟨⟨h1, h2⟩, h3⟩, h4⟩
/- is a note among items? -/
def among [DecidableEq α] (l : List (It α)) (n : α) : Bool := l.any (fun x => decide (x.n = n))
theorem among_iff [DecidableEq α] (l : List (It α)) (n : α) : among l n = true ↔ ∃ x ∈ l, x.n = n := by simp [among]
theorem among_not [DecidableEq α] {l : List (It α)} {n : α} (h : among l n = false) : ∀ x ∈ l, x.n ≠ n := by
  intro x hx e
  have := (among_iff l n).2 ⟨x, hx, e⟩
  rw [h] at this; cases this
/- the rows that may be: each above the one ahead, no note twice -/
def Apart (l : List (It α)) : Prop := l.Pairwise (fun a b => a.q < b.q ∧ a.n ≠ b.n)
structure May (ok : α → Bool) (l : List (It α)) : Prop where
  len : l.length ≤ 12
  ap : Apart l
  all : ∀ x ∈ l, one ok x = true
/- the same, place by place: item i against the ones ahead -/
def at_ [DecidableEq α] (ok : α → Bool) (l : List (It α)) (i : Nat) : Bool :=
  match l[i]? with
  | none => true
  | some x => one ok x && (decide (i = 0) || (match l[i - 1]? with | none => true | some y => decide (y.q < x.q))) && !among (l.take i) x.n
theorem may_at [DecidableEq α] {ok : α → Bool} {l : List (It α)} (hl : l.length ≤ 12) (h : ∀ i, i < l.length → at_ ok l i = true) : May ok l := by
  have hi : ∀ (i : Nat) (hi : i < l.length), one ok l[i] = true ∧ (∀ k, k + 1 = i → ∀ hk : k < l.length, l[k].q < l[i].q) ∧ among (l.take i) l[i].n = false := by
    intro i hi
    have := h i hi
    unfold at_ at this
    rw [List.getElem?_eq_getElem hi] at this
    simp only [Bool.and_eq_true, Bool.or_eq_true, decide_eq_true_eq, Bool.not_eq_true'] at this
    obtain ⟨⟨h1, h2⟩, h3⟩ := this
    refine ⟨h1, fun k hk hkl => ?_, h3⟩
    subst hk
    rcases h2 with h2 | h2
    · omega
    · rw [show k + 1 - 1 = k from rfl, List.getElem?_eq_getElem hkl] at h2
      simpa using h2
  have rise : ∀ (j i : Nat) (hj : j < l.length) (hij : i < j), (l[i]'(by omega)).q < l[j].q := by
    intro j
    induction j with
    | zero => intro i _ h; omega
    | succ j ih =>
      intro i hj hij
      have h1 := (hi (j + 1) hj).2.1 j rfl (by omega)
      by_cases e : i = j
      · subst e; exact h1
      · have := ih i (by omega) (by omega); omega
  refine ⟨hl, ?_, fun x hx => ?_⟩
  · rw [Apart, List.pairwise_iff_getElem]
    intro i j hi' hj hij
    refine ⟨rise j i hj hij, fun e => ?_⟩
    have := (hi j hj).2.2
    exact among_not this l[i] (List.mem_take_iff_getElem.2 ⟨i, by omega, rfl⟩) e
  · obtain ⟨i, hi', rfl⟩ := List.getElem_of_mem hx
    exact (hi i hi').1
theorem May.at_ [DecidableEq α] {ok : α → Bool} {l : List (It α)} (h : May ok l) (i : Nat) (hi : i < l.length) : Ox.at_ ok l i = true := by
  have hp := List.pairwise_iff_getElem.1 h.ap
  unfold Ox.at_
  rw [List.getElem?_eq_getElem hi]
  simp only [Bool.and_eq_true, Bool.or_eq_true, decide_eq_true_eq, Bool.not_eq_true']
  refine ⟨⟨h.all _ (List.getElem_mem hi), ?_⟩, ?_⟩
  · by_cases e : i = 0
    · exact Or.inl e
    · right
      rw [List.getElem?_eq_getElem (show i - 1 < l.length by omega)]
      exact decide_eq_true (hp (i - 1) i (by omega) hi (by omega)).1
  · cases e : among (l.take i) l[i].n with
    | false => rfl
    | true =>
      obtain ⟨x, hx, hn⟩ := (among_iff _ _).1 e
      obtain ⟨k, hk, rfl⟩ := List.mem_take_iff_getElem.1 hx
      exact absurd hn (hp k i (by omega) hi (by omega)).2
def mayB [DecidableEq α] (ok : α → Bool) (l : List (It α)) : Bool := decide (l.length ≤ 12) && (List.range l.length).all (fun i => Ox.at_ ok l i)
theorem mayB_iff [DecidableEq α] (ok : α → Bool) (l : List (It α)) : mayB ok l = true ↔ May ok l := by
  simp only [mayB, Bool.and_eq_true, decide_eq_true_eq, List.all_eq_true, List.mem_range]
  exact ⟨fun ⟨h1, h2⟩ => may_at h1 h2, fun h => ⟨h.len, fun i hi => h.at_ i hi⟩⟩
/- where it is not, there is a first place -/
theorem mayB_no [DecidableEq α] {ok : α → Bool} {l : List (It α)} {i : Nat} (hi : i < l.length) (h : Ox.at_ ok l i = false) : mayB ok l = false := by
  cases e : mayB ok l with
  | false => rfl
  | true => have := ((mayB_iff ok l).1 e).at_ i hi; rw [h] at this; cases this
/- the next number -/
def next (l : List (It α)) (from_ : Int) : Int :=
  match l.getLast? with
  | none => from_
  | some x => if from_ ≤ x.q then x.q + 1 else from_
/- Push: note by note -/
def pushF [DecidableEq α] (ok : α → Bool) (from_ now : Int) : List (It α) → List α → List (It α) × Int
  | l, [] => (l, 0)
  | l, n :: r =>
    if ok n = true then
      (if among l n = true then pushF ok from_ now l r
      else if l.length = 12 then ([], 190)
      else if 1000000000 < next l from_ then ([], 180)
      else pushF ok from_ now (l ++ [⟨next l from_, now, 0, n⟩]) r)
    else ([], 130)
def tmB (n : Int) : Bool := decide (0 ≤ n ∧ n ≤ 1000000000)
def push [DecidableEq α] (ok : α → Bool) (l : List (It α)) (from_ now : Int) (ns : List α) : List (It α) × Int :=
  if mayB ok l = true ∧ tmB now = true ∧ 1 ≤ from_ ∧ from_ ≤ 1000000001 then pushF ok from_ now l ns else ([], 2)
theorem next_above {l : List (It α)} (h : Apart l) (from_ : Int) : ∀ x ∈ l, x.q < next l from_ := by
  intro x hx
  unfold next
  cases e : l.getLast? with
  | none => rw [List.getLast?_eq_none_iff.1 e] at hx; cases hx
  | some y =>
    have hle : x.q ≤ y.q := by
      obtain ⟨i, hi, rfl⟩ := List.getElem_of_mem hx
      have hy : y = l[l.length - 1]'(by omega) := by
        rw [List.getLast?_eq_getElem?, List.getElem?_eq_getElem (by omega)] at e
        cases e; rfl
      by_cases c : i = l.length - 1
      · rw [hy]; simp [c]
      · have := (List.pairwise_iff_getElem.1 h i (l.length - 1) hi (by omega) (by omega)).1
        rw [hy]; omega
    simp only
    split <;> omega
theorem next_ge {l : List (It α)} (from_ : Int) : from_ ≤ next l from_ := by
  unfold next
  split
  · omega
  · split <;> omega
theorem may_snoc [DecidableEq α] {ok : α → Bool} {l : List (It α)} (h : May ok l) {n : α} {from_ now : Int} (hn : ok n = true) (ha : among l n = false) (hl : l.length ≠ 12) (hx : next l from_ ≤ 1000000000) (hf : 1 ≤ from_) (ht : tmB now = true) : May ok (l ++ [⟨next l from_, now, 0, n⟩]) := by
  have h12 := h.len
  have ht' := of_decide_eq_true ht
  have hg := next_ge (l := l) from_
  refine ⟨by simp; omega, List.pairwise_append.2 ⟨h.ap, by simp, fun a ha' b hb => ?_⟩, fun x hx' => ?_⟩
  · rw [List.mem_singleton] at hb
    subst hb
    exact ⟨next_above h.ap from_ a ha', among_not ha a ha'⟩
  · rcases List.mem_append.1 hx' with hx' | hx'
    · exact h.all x hx'
    · rw [List.mem_singleton] at hx'
      subst hx'
      exact (one_iff ok _).2 ⟨⟨by show 1 ≤ next l from_; omega, hx⟩, hn, ⟨ht'.1, by show now ≤ 1000000016; omega⟩, by simp⟩
theorem pushF_may [DecidableEq α] {ok : α → Bool} {from_ now : Int} (hf : 1 ≤ from_) (ht : tmB now = true) : ∀ (ns : List α) (l : List (It α)), May ok l → May ok (pushF ok from_ now l ns).1
  | [], _, h => h
  | n :: r, l, h => by
    have hno : May ok ([] : List (It α)) := ⟨by simp, List.Pairwise.nil, by simp⟩
    unfold pushF
    split
    · rename_i hn
      split
      · exact pushF_may hf ht r l h
      · rename_i ha
        split
        · exact hno
        · rename_i hl
          split
          · exact hno
          · rename_i hx
            exact pushF_may hf ht r _ (may_snoc h hn (by simpa using ha) hl (by omega) hf ht)
    · exact hno
def hasB [DecidableEq α] (ok : α → Bool) (l : List (It α)) (n : α) : Bool := mayB ok l && among l n
/- Answered, Anew, Due -/
def ans [DecidableEq α] (ok : α → Bool) (l : List (It α)) (low : Int) : List (It α) := if mayB ok l = true then l.filter (fun x => decide (low < x.q)) else []
def num (now : Int) : Int → List (It α) → List (It α)
  | _, [] => []
  | k, x :: r => ⟨k, now, 0, x.n⟩ :: num now (k + 1) r
def anew [DecidableEq α] (ok : α → Bool) (l : List (It α)) (now : Int) : List (It α) := if mayB ok l = true ∧ tmB now = true then num now 1 l else []
def del (n : Int) : Int := if n < 1 then 1 else if n = 1 then 2 else if n = 2 then 4 else 8
def more (s : Int) : Int := if s < 1000000 then s + 1 else s
def tick (now : Int) (x : It α) : It α := if x.d ≤ now then ⟨x.q, now + del (more x.s), more x.s, x.n⟩ else x
def dueL [DecidableEq α] (ok : α → Bool) (l : List (It α)) (now : Int) : List (It α) := if mayB ok l = true ∧ tmB now = true then l.map (tick now) else []
def dueD [DecidableEq α] (ok : α → Bool) (l : List (It α)) (now : Int) : List (It α) := if mayB ok l = true ∧ tmB now = true then (l.filter (fun x => decide (x.d ≤ now))).map (tick now) else []
theorem tick_q (now : Int) (x : It α) : (tick now x).q = x.q := by unfold tick; split <;> rfl
theorem tick_n (now : Int) (x : It α) : (tick now x).n = x.n := by unfold tick; split <;> rfl
theorem del_le (n : Int) : 1 ≤ del n ∧ del n ≤ 8 := by unfold del; repeat' split <;> omega
theorem tick_one {ok : α → Bool} {now : Int} (ht : tmB now = true) {x : It α} (h : one ok x = true) : one ok (tick now x) = true := by
  obtain ⟨h1, h2, h3, h4⟩ := (one_iff ok x).1 h
  have ht' := of_decide_eq_true ht
  unfold tick
  split
  · refine (one_iff ok _).2 ⟨h1, h2, ?_, ?_⟩
    · have := del_le (more x.s)
      show 0 ≤ now + del (more x.s) ∧ now + del (more x.s) ≤ 1000000016
      omega
    · show 0 ≤ more x.s ∧ more x.s ≤ 1000000
      unfold more; split <;> omega
  · exact h
theorem due_may {ok : α → Bool} {l : List (It α)} {now : Int} (h : May ok l) (ht : tmB now = true) : May ok (l.map (tick now)) := by
  refine ⟨by simpa using h.len, ?_, fun x hx => ?_⟩
  · rw [Apart, List.pairwise_map]
    exact List.Pairwise.imp (fun {a b} hab => by rw [tick_q, tick_q, tick_n, tick_n]; exact hab) h.ap
  · obtain ⟨y, hy, rfl⟩ := List.mem_map.1 hx
    exact tick_one ht (h.all y hy)
theorem ans_may {ok : α → Bool} {l : List (It α)} (h : May ok l) (low : Int) : May ok (l.filter (fun x => decide (low < x.q))) :=
  ⟨Nat.le_trans (List.length_filter_le _ _) h.len, List.Pairwise.filter _ h.ap, fun x hx => h.all x (List.mem_filter.1 hx).1⟩
theorem num_len (now : Int) : ∀ (l : List (It α)) (k : Int), (num now k l).length = l.length
  | [], _ => rfl
  | _ :: r, k => by simp [num, num_len now r]
theorem num_mem (now : Int) : ∀ (l : List (It α)) (k : Int) (y : It α), y ∈ num now k l → k ≤ y.q ∧ y.q < k + l.length ∧ y.d = now ∧ y.s = 0 ∧ ∃ x ∈ l, x.n = y.n
  | [], _, y, h => by cases h
  | x :: r, k, y, h => by
    rcases List.mem_cons.1 h with rfl | h
    · exact ⟨Int.le_refl _, by simp; omega, rfl, rfl, x, by simp, rfl⟩
    · obtain ⟨h1, h2, h3, h4, z, h5, h6⟩ := num_mem now r (k + 1) y h
      exact ⟨by omega, by simp; omega, h3, h4, z, by simp [h5], h6⟩
theorem num_at (now : Int) : ∀ (l : List (It α)) (k : Int) (i : Nat) (hi : i < l.length), (num now k l)[i]'(by rw [num_len]; exact hi) = ⟨k + i, now, 0, l[i].n⟩
  | x :: r, k, 0, _ => by simp [num]
  | x :: r, k, i + 1, hi => by
    have h1 : i < r.length := by simpa using hi
    have := num_at now r (k + 1) i h1
    simp only [num, List.getElem_cons_succ]
    rw [this, show k + 1 + (i : Int) = k + ((i + 1 : Nat) : Int) by omega]
theorem num_ap (now : Int) : ∀ (l : List (It α)) (k : Int), Apart l → Apart (num now k l)
  | [], _, _ => List.Pairwise.nil
  | x :: r, k, h => by
    obtain ⟨h1, h2⟩ := List.pairwise_cons.1 h
    refine List.pairwise_cons.2 ⟨fun y hy => ?_, num_ap now r (k + 1) h2⟩
    obtain ⟨q1, _, _, _, z, hz, hn⟩ := num_mem now r (k + 1) y hy
    exact ⟨by show k < y.q; omega, fun e => (h1 z hz).2 (e.trans hn.symm)⟩
theorem anew_may {ok : α → Bool} {l : List (It α)} {now : Int} (h : May ok l) (ht : tmB now = true) : May ok (num now 1 l) := by
  have h12 := h.len
  have ht' := of_decide_eq_true ht
  refine ⟨by rw [num_len]; exact h12, num_ap now l 1 h.ap, fun y hy => ?_⟩
  obtain ⟨q1, q2, q3, q4, z, hz, hn⟩ := num_mem now l 1 y hy
  refine (one_iff ok y).2 ⟨⟨q1, by omega⟩, ?_, ⟨by omega, by omega⟩, ⟨by omega, by omega⟩⟩
  rw [← hn]
  exact ((one_iff ok z).1 (h.all z hz)).2.1
end Go.Proofs.Ytilkfgpcibdikaa.Ox
