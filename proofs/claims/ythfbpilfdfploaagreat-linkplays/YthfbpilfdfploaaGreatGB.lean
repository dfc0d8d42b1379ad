/- Parts of these proofs, laid together. -/
import Derived.Test.YthfbpilfdfploaaGreatGA
import Derived.WalkSmall
import Derived.BigQuiet
import Derived.Lib.Hide
namespace Go.Proofs.YthfbpilfdfploaaGreat.Ox
variable {α : Type}

/- an item: its number, when it is due, how often it was sent, its note -/
structure It (α : Type) where
  q : Int
  d : Int
  s : Int
  n : α
/- an item by itself -/
def one (ok : α → Bool) (x : It α) : Bool := decide (1 ≤ x.q ∧ x.q ≤ 1000000000) && ok x.n && decide (0 ≤ x.d ∧ x.d ≤ 1000000016) && decide (0 ≤ x.s ∧ x.s ≤ 1000000)
theorem one_iff (ok : α → Bool) (x : It α) : one ok x = true ↔ (1 ≤ x.q ∧ x.q ≤ 1000000000) ∧ ok x.n = true ∧ (0 ≤ x.d ∧ x.d ≤ 1000000016) ∧ (0 ≤ x.s ∧ x.s ≤ 1000000) := by
  simp only [one, Bool.and_eq_true, decide_eq_true_eq]
  constructor
  · rintro ⟨⟨⟨h1, h2⟩, h3⟩, h4⟩; exact ⟨h1, h2, h3, h4⟩
  · rintro ⟨h1, h2, h3, h4⟩; exact ⟨⟨⟨h1, h2⟩, h3⟩, h4⟩
/- is a note among items? -/
def among [DecidableEq α] (l : List (It α)) (n : α) : Bool := l.any (fun x => decide (x.n = n))
theorem among_iff [DecidableEq α] (l : List (It α)) (n : α) : among l n = true ↔ ∃ x ∈ l, x.n = n := by simp [among]
theorem among_not [DecidableEq α] {l : List (It α)} {n : α} (h : among l n = false) : ∀ x ∈ l, x.n ≠ n := by
  intro x hx e
  have := (among_iff l n).2 ⟨x, hx, e⟩
  rw [h] at this; cases this
/- the rows that may be: each above the one ahead, no note twice -/
def Apart (l : List (It α)) : Prop := l.Pairwise (fun a b => a.q < b.q ∧ a.n ≠ b.n)
structure May (ok : α → Bool) (l : List (It α)) : Prop where
  len : l.length ≤ 12
  ap : Apart l
  all : ∀ x ∈ l, one ok x = true
/- the same, place by place: item i against the ones ahead -/
def at_ [DecidableEq α] (ok : α → Bool) (l : List (It α)) (i : Nat) : Bool :=
  match l[i]? with
  | none => true
  | some x => one ok x && (decide (i = 0) || (match l[i - 1]? with | none => true | some y => decide (y.q < x.q))) && !among (l.take i) x.n
theorem may_at [DecidableEq α] {ok : α → Bool} {l : List (It α)} (hl : l.length ≤ 12) (h : ∀ i, i < l.length → at_ ok l i = true) : May ok l := by
  have hi : ∀ (i : Nat) (hi : i < l.length), one ok l[i] = true ∧ (∀ k, k + 1 = i → ∀ hk : k < l.length, l[k].q < l[i].q) ∧ among (l.take i) l[i].n = false := by
    intro i hi
    have := h i hi
    unfold at_ at this
    rw [List.getElem?_eq_getElem hi] at this
    simp only [Bool.and_eq_true, Bool.or_eq_true, decide_eq_true_eq, Bool.not_eq_true'] at this
    obtain ⟨⟨h1, h2⟩, h3⟩ := this
    refine ⟨h1, fun k hk hkl => ?_, h3⟩
    subst hk
    rcases h2 with h2 | h2
    · omega
    · rw [show k + 1 - 1 = k from rfl, List.getElem?_eq_getElem hkl] at h2
      simpa using h2
  have rise : ∀ (j i : Nat) (hj : j < l.length) (hij : i < j), (l[i]'(by omega)).q < l[j].q := by
    intro j
    induction j with
    | zero => intro i _ h; omega
    | succ j ih =>
      intro i hj hij
      have h1 := (hi (j + 1) hj).2.1 j rfl (by omega)
      by_cases e : i = j
      · subst e; exact h1
      · have := ih i (by omega) (by omega); omega
  refine ⟨hl, ?_, fun x hx => ?_⟩
  · rw [Apart, List.pairwise_iff_getElem]
    intro i j hi' hj hij
    refine ⟨rise j i hj hij, fun e => ?_⟩
    have := (hi j hj).2.2
    exact among_not this l[i] (List.mem_take_iff_getElem.2 ⟨i, by omega, rfl⟩) e
  · obtain ⟨i, hi', rfl⟩ := List.getElem_of_mem hx
    exact (hi i hi').1
theorem May.at_ [DecidableEq α] {ok : α → Bool} {l : List (It α)} (h : May ok l) (i : Nat) (hi : i < l.length) : Ox.at_ ok l i = true := by
  have hp := List.pairwise_iff_getElem.1 h.ap
  unfold Ox.at_
  rw [List.getElem?_eq_getElem hi]
  simp only [Bool.and_eq_true, Bool.or_eq_true, decide_eq_true_eq, Bool.not_eq_true']
  refine ⟨⟨h.all _ (List.getElem_mem hi), ?_⟩, ?_⟩
  · by_cases e : i = 0
    · exact Or.inl e
    · right
      rw [List.getElem?_eq_getElem (show i - 1 < l.length by omega)]
      exact decide_eq_true (hp (i - 1) i (by omega) hi (by omega)).1
  · cases e : among (l.take i) l[i].n with
    | false => rfl
    | true =>
      obtain ⟨x, hx, hn⟩ := (among_iff _ _).1 e
      obtain ⟨k, hk, rfl⟩ := List.mem_take_iff_getElem.1 hx
      exact absurd hn (hp k i (by omega) hi (by omega)).2
def mayB [DecidableEq α] (ok : α → Bool) (l : List (It α)) : Bool := decide (l.length ≤ 12) && (List.range l.length).all (fun i => Ox.at_ ok l i)
theorem mayB_iff [DecidableEq α] (ok : α → Bool) (l : List (It α)) : mayB ok l = true ↔ May ok l := by
  simp only [mayB, Bool.and_eq_true, decide_eq_true_eq, List.all_eq_true, List.mem_range]
  exact ⟨fun ⟨h1, h2⟩ => may_at h1 h2, fun h => ⟨h.len, fun i hi => h.at_ i hi⟩⟩
/- where it is not, there is a first place -/
theorem mayB_no [DecidableEq α] {ok : α → Bool} {l : List (It α)} {i : Nat} (hi : i < l.length) (h : Ox.at_ ok l i = false) : mayB ok l = false := by
  cases e : mayB ok l with
  | false => rfl
  | true => have := ((mayB_iff ok l).1 e).at_ i hi; rw [h] at this; cases this
/- the next number -/
def next (l : List (It α)) (from_ : Int) : Int :=
  match l.getLast? with
  | none => from_
  | some x => if from_ ≤ x.q then x.q + 1 else from_
/- Push: note by note -/
def pushF [DecidableEq α] (ok : α → Bool) (from_ now : Int) : List (It α) → List α → List (It α) × Int
  | l, [] => (l, 0)
  | l, n :: r =>
    if ok n = true then
      (if among l n = true then pushF ok from_ now l r
      else if l.length = 12 then ([], 190)
      else if 1000000000 < next l from_ then ([], 180)
      else pushF ok from_ now (l ++ [⟨next l from_, now, 0, n⟩]) r)
    else ([], 130)
def tmB (n : Int) : Bool := decide (0 ≤ n ∧ n ≤ 1000000000)
def push [DecidableEq α] (ok : α → Bool) (l : List (It α)) (from_ now : Int) (ns : List α) : List (It α) × Int :=
  if mayB ok l = true ∧ tmB now = true ∧ 1 ≤ from_ ∧ from_ ≤ 1000000001 then pushF ok from_ now l ns else ([], 2)
theorem next_above {l : List (It α)} (h : Apart l) (from_ : Int) : ∀ x ∈ l, x.q < next l from_ := by
  intro x hx
  unfold next
  cases e : l.getLast? with
  | none => rw [List.getLast?_eq_none_iff.1 e] at hx; cases hx
  | some y =>
    have hle : x.q ≤ y.q := by
      obtain ⟨i, hi, rfl⟩ := List.getElem_of_mem hx
      have hy : y = l[l.length - 1]'(by omega) := by
        rw [List.getLast?_eq_getElem?, List.getElem?_eq_getElem (by omega)] at e
        cases e; rfl
      by_cases c : i = l.length - 1
      · rw [hy]; simp [c]
      · have := (List.pairwise_iff_getElem.1 h i (l.length - 1) hi (by omega) (by omega)).1
        rw [hy]; omega
    simp only
    split <;> omega
theorem next_ge {l : List (It α)} (from_ : Int) : from_ ≤ next l from_ := by
  unfold next
  split
  · omega
  · split <;> omega
theorem may_snoc [DecidableEq α] {ok : α → Bool} {l : List (It α)} (h : May ok l) {n : α} {from_ now : Int} (hn : ok n = true) (ha : among l n = false) (hl : l.length ≠ 12) (hx : next l from_ ≤ 1000000000) (hf : 1 ≤ from_) (ht : tmB now = true) : May ok (l ++ [⟨next l from_, now, 0, n⟩]) := by
  have h12 := h.len
  have ht' := of_decide_eq_true ht
  have hg := next_ge (l := l) from_
  refine ⟨by simp; omega, List.pairwise_append.2 ⟨h.ap, by simp, fun a ha' b hb => ?_⟩, fun x hx' => ?_⟩
  · rw [List.mem_singleton] at hb
    subst hb
    exact ⟨next_above h.ap from_ a ha', among_not ha a ha'⟩
  · rcases List.mem_append.1 hx' with hx' | hx'
    · exact h.all x hx'
    · rw [List.mem_singleton] at hx'
      subst hx'
      exact (one_iff ok _).2 ⟨⟨by show 1 ≤ next l from_; omega, hx⟩, hn, ⟨ht'.1, by show now ≤ 1000000016; omega⟩, by simp⟩
theorem pushF_may [DecidableEq α] {ok : α → Bool} {from_ now : Int} (hf : 1 ≤ from_) (ht : tmB now = true) : ∀ (ns : List α) (l : List (It α)), May ok l → May ok (pushF ok from_ now l ns).1
  | [], _, h => h
  | n :: r, l, h => by
    have hno : May ok ([] : List (It α)) := ⟨by simp, List.Pairwise.nil, by simp⟩
    unfold pushF
    split
    · rename_i hn
      split
      · exact pushF_may hf ht r l h
      · rename_i ha
        split
        · exact hno
        · rename_i hl
          split
          · exact hno
          · rename_i hx
            exact pushF_may hf ht r _ (may_snoc h hn (by simpa using ha) hl (by omega) hf ht)
    · exact hno
def hasB [DecidableEq α] (ok : α → Bool) (l : List (It α)) (n : α) : Bool := mayB ok l && among l n
/- Answered, Anew, Due -/
def ans [DecidableEq α] (ok : α → Bool) (l : List (It α)) (low : Int) : List (It α) := if mayB ok l = true then l.filter (fun x => decide (low < x.q)) else []
def num (now : Int) : Int → List (It α) → List (It α)
  | _, [] => []
  | k, x :: r => ⟨k, now, 0, x.n⟩ :: num now (k + 1) r
def anew [DecidableEq α] (ok : α → Bool) (l : List (It α)) (now : Int) : List (It α) := if mayB ok l = true ∧ tmB now = true then num now 1 l else []
def del (n : Int) : Int := if n < 1 then 1 else if n = 1 then 2 else if n = 2 then 4 else 8
def more (s : Int) : Int := if s < 1000000 then s + 1 else s
def tick (now : Int) (x : It α) : It α := if x.d ≤ now then ⟨x.q, now + del (more x.s), more x.s, x.n⟩ else x
def dueL [DecidableEq α] (ok : α → Bool) (l : List (It α)) (now : Int) : List (It α) := if mayB ok l = true ∧ tmB now = true then l.map (tick now) else []
def dueD [DecidableEq α] (ok : α → Bool) (l : List (It α)) (now : Int) : List (It α) := if mayB ok l = true ∧ tmB now = true then (l.filter (fun x => decide (x.d ≤ now))).map (tick now) else []
theorem del_le (n : Int) : 1 ≤ del n ∧ del n ≤ 8 := by unfold del; repeat' split <;> omega
theorem num_len (now : Int) : ∀ (l : List (It α)) (k : Int), (num now k l).length = l.length
  | [], _ => rfl
  | _ :: r, k => by simp [num, num_len now r]
end Go.Proofs.YthfbpilfdfploaaGreat.Ox
namespace Go.Proofs.YthfbpilfdfploaaGreat
open Go.RowKit

variable {Z : Nat → Prop}
/- a note as plain data that can be compared -/
abbrev Nx := (Int × Int × Int) × List (Int × Int) × ByteArray × Int
def pk (x : Nt) : Nx := ((x.k, x.r, x.n), x.L, x.d, x.y)
def okN (p : Nx) : Bool := Nt.ntB ⟨p.1.1, p.1.2.1, p.1.2.2, p.2.1, p.2.2.1, p.2.2.2⟩
theorem okN_pk (x : Nt) : okN (pk x) = Nt.ntB x := rfl
theorem pk_inj {x y : Nt} (h : pk x = pk y) : x = y := by
  obtain ⟨a, b, c, d, e, f⟩ := x
  obtain ⟨a2, b2, c2, d2, e2, f2⟩ := y
  simp only [pk, Prod.mk.injEq] at h
  obtain ⟨⟨rfl, rfl, rfl⟩, rfl, rfl, rfl⟩ := h
  rfl
theorem nt_small {x : Nt} (h : Nt.ntB x = true) : x.L.length ≤ 4 ∧ x.d.size ≤ 16 := by
  obtain ⟨_, h2, _, h4, _⟩ := Nt.may_note h
  rw [Idn.may_hops] at h2
  simp only [Bool.and_eq_true, decide_eq_true_eq] at h2
  exact ⟨h2.1.1.1.2, Nt.may_def h4⟩

/- a note in memory: what it is, where its hops lie -/
structure Mn where
  x : Nt
  ad : Option Addr
  cap : Nat
abbrev Mn.v (m : Mn) : Value := .agg #[.int .i64 m.x.k, .int .i64 m.x.r, .int .i64 m.x.n, .slice m.ad m.x.L.length m.cap, .string m.x.d, .int .i64 m.x.y]
def nC (m : Mn) : List Value := [.int .i64 m.x.k, .int .i64 m.x.r, .int .i64 m.x.n, .slice m.ad m.x.L.length m.cap, .string m.x.d, .int .i64 m.x.y]
theorem nC_len (m : Mn) : (nC m).length = 6 := rfl
structure MnAt (Z : Nat → Prop) (w : World) (m : Mn) : Prop where
  hp : HopsAt w m.ad m.x.L
  hl : m.x.L.length ≤ 9223372036854775807
  hc : m.x.L.length ≤ m.cap
  hd : m.x.d.size ≤ 9223372036854775807
  hz : m.x.L ≠ [] → ∀ a, m.ad = some a → Z a.block
/- what holds of each new block -/
def Frs (Z : Nat → Prop) (w : World) : Prop := ∀ b, w.heap.size ≤ b → Z b
theorem Frs.gr {w w' : World} (h : Frs Z w) (g : Gr w w') : Frs Z w' := fun b hb => h b (Nat.le_trans g.size hb)
/- nothing is asked of blocks -/
abbrev Any : Nat → Prop := fun _ => True
theorem Frs.any (w : World) : Frs Any w := fun _ _ => trivial
theorem MnAt.gr {w w' : World} {m : Mn} (h : MnAt Z w m) (g : Gr w w') : MnAt Z w' m := ⟨h.hp.gr g, h.hl, h.hc, h.hd, h.hz⟩
abbrev NtsRow := RowAt nC
structure NtsAt (Z : Nat → Prop) (w : World) (ad : Option Addr) (Q : List Mn) : Prop where
  row : NtsRow w ad Q
  nt : ∀ m ∈ Q, MnAt Z w m
theorem NtsAt.gr {w w' : World} {ad : Option Addr} {Q : List Mn} (h : NtsAt Z w ad Q) (g : Gr w w') : NtsAt Z w' ad Q := ⟨h.row.gr g, fun m hm => (h.nt m hm).gr g⟩
theorem NtsAt.nil {w : World} {ad : Option Addr} : NtsAt Z w ad [] := ⟨RowAt.nil, by simp⟩
theorem NtsRow.at {w : World} {ad : Option Addr} {D : List Mn} (h : NtsRow w ad D) (k : Nat) (hk : k < D.length) : ∃ b off, ad = some ⟨b, off, none⟩ ∧ b < w.heap.size ∧
    w.cell? ⟨b, off + k * 6, none⟩ = some (.int .i64 D[k].x.k) ∧ w.cell? ⟨b, off + k * 6 + 1, none⟩ = some (.int .i64 D[k].x.r) ∧ w.cell? ⟨b, off + k * 6 + 2, none⟩ = some (.int .i64 D[k].x.n) ∧
    w.cell? ⟨b, off + k * 6 + 3, none⟩ = some (.slice D[k].ad D[k].x.L.length D[k].cap) ∧ w.cell? ⟨b, off + k * 6 + 4, none⟩ = some (.string D[k].x.d) ∧ w.cell? ⟨b, off + k * 6 + 5, none⟩ = some (.int .i64 D[k].x.y) := by
  have g := fun i hi => flat_get nC_len D k hk i hi
  obtain ⟨b, off, rfl, hb, c0⟩ := h _ _ (g 0 (by omega))
  obtain ⟨_, _, e, _, c1⟩ := h _ _ (g 1 (by omega)); cases e
  obtain ⟨_, _, e, _, c2⟩ := h _ _ (g 2 (by omega)); cases e
  obtain ⟨_, _, e, _, c3⟩ := h _ _ (g 3 (by omega)); cases e
  obtain ⟨_, _, e, _, c4⟩ := h _ _ (g 4 (by omega)); cases e
  obtain ⟨_, _, e, _, c5⟩ := h _ _ (g 5 (by omega)); cases e
  rw [← Nat.add_assoc] at c1 c2 c3 c4 c5
  exact ⟨b, off, rfl, hb, c0, c1, c2, c3, c4, c5⟩

/- an item in memory -/
structure Mi where
  q : Int
  d : Int
  s : Int
  m : Mn
abbrev Mi.v (x : Mi) : Value := .agg #[.int .i64 x.q, .int .i64 x.d, .int .i64 x.s, .int .i64 x.m.x.k, .int .i64 x.m.x.r, .int .i64 x.m.x.n, .slice x.m.ad x.m.x.L.length x.m.cap, .string x.m.x.d, .int .i64 x.m.x.y]
def iC (x : Mi) : List Value := [.int .i64 x.q, .int .i64 x.d, .int .i64 x.s, .int .i64 x.m.x.k, .int .i64 x.m.x.r, .int .i64 x.m.x.n, .slice x.m.ad x.m.x.L.length x.m.cap, .string x.m.x.d, .int .i64 x.m.x.y]
theorem iC_len (x : Mi) : (iC x).length = 9 := rfl
def Mi.it (x : Mi) : Ox.It Nx := ⟨x.q, x.d, x.s, pk x.m.x⟩
def its (D : List Mi) : List (Ox.It Nx) := D.map Mi.it
theorem its_len (D : List Mi) : (its D).length = D.length := by simp [its]
theorem its_get (D : List Mi) (j : Nat) (h : j < D.length) : (its D)[j]'(by rw [its_len]; exact h) = D[j].it := by simp [its]
theorem its_get? (D : List Mi) (j : Nat) (h : j < D.length) : (its D)[j]? = some D[j].it := by simp [its, h]
theorem its_take (D : List Mi) (j : Nat) : its (D.take j) = (its D).take j := by simp [its, List.map_take]
theorem its_app (D E : List Mi) : its (D ++ E) = its D ++ its E := by simp [its]
def pks (Q : List Mn) : List Nx := Q.map fun m => pk m.x
theorem pks_len (Q : List Mn) : (pks Q).length = Q.length := by simp [pks]
abbrev ItsRow := RowAt iC
structure ItsAt (Z : Nat → Prop) (w : World) (ad : Option Addr) (D : List Mi) : Prop where
  row : ItsRow w ad D
  nt : ∀ x ∈ D, MnAt Z w x.m
theorem ItsAt.gr {w w' : World} {ad : Option Addr} {D : List Mi} (h : ItsAt Z w ad D) (g : Gr w w') : ItsAt Z w' ad D := ⟨h.row.gr g, fun m hm => (h.nt m hm).gr g⟩
theorem ItsAt.nil {w : World} {ad : Option Addr} : ItsAt Z w ad [] := ⟨RowAt.nil, by simp⟩
theorem ItsRow.at {w : World} {ad : Option Addr} {D : List Mi} (h : ItsRow w ad D) (k : Nat) (hk : k < D.length) : ∃ b off, ad = some ⟨b, off, none⟩ ∧ b < w.heap.size ∧
    w.cell? ⟨b, off + k * 9, none⟩ = some (.int .i64 D[k].q) ∧ w.cell? ⟨b, off + k * 9 + 1, none⟩ = some (.int .i64 D[k].d) ∧ w.cell? ⟨b, off + k * 9 + 2, none⟩ = some (.int .i64 D[k].s) ∧
    w.cell? ⟨b, off + k * 9 + 3, none⟩ = some (.int .i64 D[k].m.x.k) ∧ w.cell? ⟨b, off + k * 9 + 4, none⟩ = some (.int .i64 D[k].m.x.r) ∧ w.cell? ⟨b, off + k * 9 + 5, none⟩ = some (.int .i64 D[k].m.x.n) ∧
    w.cell? ⟨b, off + k * 9 + 6, none⟩ = some (.slice D[k].m.ad D[k].m.x.L.length D[k].m.cap) ∧ w.cell? ⟨b, off + k * 9 + 7, none⟩ = some (.string D[k].m.x.d) ∧ w.cell? ⟨b, off + k * 9 + 8, none⟩ = some (.int .i64 D[k].m.x.y) := by
  have g := fun i hi => flat_get iC_len D k hk i hi
  obtain ⟨b, off, rfl, hb, c0⟩ := h _ _ (g 0 (by omega))
  obtain ⟨_, _, e, _, c1⟩ := h _ _ (g 1 (by omega)); cases e
  obtain ⟨_, _, e, _, c2⟩ := h _ _ (g 2 (by omega)); cases e
  obtain ⟨_, _, e, _, c3⟩ := h _ _ (g 3 (by omega)); cases e
  obtain ⟨_, _, e, _, c4⟩ := h _ _ (g 4 (by omega)); cases e
  obtain ⟨_, _, e, _, c5⟩ := h _ _ (g 5 (by omega)); cases e
  obtain ⟨_, _, e, _, c6⟩ := h _ _ (g 6 (by omega)); cases e
  obtain ⟨_, _, e, _, c7⟩ := h _ _ (g 7 (by omega)); cases e
  obtain ⟨_, _, e, _, c8⟩ := h _ _ (g 8 (by omega)); cases e
  rw [← Nat.add_assoc] at c1 c2 c3 c4 c5 c6 c7 c8
  exact ⟨b, off, rfl, hb, c0, c1, c2, c3, c4, c5, c6, c7, c8⟩
theorem i_one (D : List Mi) : ∀ u ∈ D.flatMap iC, u.oneCell' = true := by
  intro u hu
  rw [List.mem_flatMap] at hu
  obtain ⟨h, _, hu⟩ := hu
  simp [iC] at hu
  rcases hu with rfl | rfl | rfl | rfl | rfl | rfl | rfl | rfl | rfl <;> rfl
theorem infoItem : (Tryz.prog.info? 73).map (fun i => (i.zero, i.size, i.bytes)) = some (some (.agg #[.int .i64 0, .int .i64 0, .int .i64 0, .int .i64 0, .int .i64 0, .int .i64 0, .slice none 0 0, .string ⟨#[]⟩, .int .i64 0]), 9, 96) := by kernel_rfl
/- an item's cells in a block of their own -/
theorem i_new (w : World) (x : Mi) (t : TypeId) : ∀ j u, ([x].flatMap iC)[j]? = some u → (w.alloc (.cells (iC x).toArray t)).cell? ((⟨w.heap.size, 0, none⟩ : Addr).add j) = some u := by
  intro j u h
  rw [Addr.add_lit, Nat.zero_add, cell_of_row _ w.heap.size j _ _ _ (heap_alloc_new w _)]
  simpa using h
theorem RowAt.cut {α : Type} {f : α → List Value} {w : World} {ad : Option Addr} {L : List α} (h : RowAt f w ad L) (k : Nat) : RowAt f w ad (L.take k) := by
  intro j u hu
  refine h j u ?_
  have e : L.flatMap f = (L.take k).flatMap f ++ (L.drop k).flatMap f := by rw [← List.flatMap_append, List.take_append_drop]
  have hj : j < ((L.take k).flatMap f).length := (List.getElem?_eq_some_iff.1 hu).1
  rw [e, List.getElem?_append_left hj]; exact hu
theorem ItsAt.cut {w : World} {ad : Option Addr} {D : List Mi} (h : ItsAt Z w ad D) (k : Nat) : ItsAt Z w ad (D.take k) := ⟨h.row.cut k, fun x hx => h.nt x (List.mem_of_mem_take hx)⟩

/- a row that may be turned: hops lie in no turned block -/
theorem hops_kept {w w' : World} {ad : Option Addr} {L : List (Int × Int)} {r : Option Nat} (h : HopsAt w ad L) (g : w.grownBy w' r) (hr : L ≠ [] → ∀ a, ad = some a → r ≠ some a.block) : HopsAt w' ad L := by
  intro j hj
  obtain ⟨b, off, e, hb, h1, h2⟩ := h j hj
  have hk : some b ≠ r := fun k => hr (fun hn => by rw [hn] at hj; simp at hj) _ e k.symm
  exact ⟨b, off, e, Nat.lt_of_lt_of_le hb g.size, (World.cell?_of_block (w := w) (g.block b hb hk)).trans h1, (World.cell?_of_block (w := w) (g.block b hb hk)).trans h2⟩
theorem hops_lt {w : World} {ad : Option Addr} {L : List (Int × Int)} (h : HopsAt w ad L) (hn : L ≠ []) {a : Addr} (e : ad = some a) : a.block < w.heap.size := by
  cases L with
  | nil => exact absurd rfl hn
  | cons s t =>
    obtain ⟨b, off, e', hb, _⟩ := h 0 (by simp)
    rw [e] at e'; cases e'
    exact hb
/- a row of items that the call owns -/
structure Bxs (Z : Nat → Prop) (w : World) (base : Nat) (v : Value) (D : List Mi) : Prop where
  own : w.ownsRow base 73 9 v D.length (D.flatMap iC)
  nt : ∀ x ∈ D, MnAt Z w x.m
  ap : ∀ x ∈ D, x.m.x.L ≠ [] → ∀ a, x.m.ad = some a → v.ownBlock ≠ some a.block
theorem own_gr3 {w w' : World} {base : Nat} {e : TypeId} {size n : Nat} {v : Value} {xs : List Value} (h : w.ownsRow base e size v n xs) (g : Gr w w') : w'.ownsRow base e size v n xs := h.kept g.grownBy (own_or v)
theorem Bxs.nil (w : World) (base : Nat) : Bxs Z w base (.slice none 0 0) [] := ⟨World.ownsRow_nil _ _ _ _, by simp, by simp⟩
theorem Bxs.gr {w w' : World} {base : Nat} {v : Value} {D : List Mi} (h : Bxs Z w base v D) (g : Gr w w') : Bxs Z w' base v D := ⟨own_gr3 h.own g, fun x hx => (h.nt x hx).gr g, h.ap⟩
theorem Bxs.low {w : World} {base base' : Nat} {v : Value} {D : List Mi} (h : Bxs Z w base v D) (hb : base' ≤ base) : Bxs Z w base' v D := ⟨own_low h.own hb, h.nt, h.ap⟩
theorem Bxs.at {w : World} {base : Nat} {v : Value} {D : List Mi} (h : Bxs Z w base v D) : ∃ ad cap, v = .slice ad D.length cap ∧ D.length ≤ cap ∧ cap ≤ 9223372036854775807 ∧ ItsAt Z w ad D ∧ (∀ a, ad = some a → base ≤ a.block) := by
  obtain ⟨ad, cap, e, h1, h2, h3, h4, _⟩ := own_row h.own
  exact ⟨ad, cap, e, h1, h2, ⟨h3, h.nt⟩, h4⟩
/- one more -/
theorem Bxs.more {w w' : World} {base : Nat} {v v' : Value} {D : List Mi} {x : Mi} (h : Bxs Z w base v D) (hx : MnAt Z w x.m) (hxa : x.m.x.L ≠ [] → ∀ a, x.m.ad = some a → v.ownBlock ≠ some a.block)
    (ho : w'.ownsRow base 73 9 v' (D.length + 1) (D.flatMap iC ++ [x].flatMap iC)) (g : w.grownBy w' v.ownBlock) (hat : v'.ownBlock = v.ownBlock ∨ v'.ownBlock = some w.heap.size) : Bxs Z w' base v' (D ++ [x]) := by
  have key : ∀ y : Mi, MnAt Z w y.m → (y.m.x.L ≠ [] → ∀ a, y.m.ad = some a → v.ownBlock ≠ some a.block) → MnAt Z w' y.m ∧ (y.m.x.L ≠ [] → ∀ a, y.m.ad = some a → v'.ownBlock ≠ some a.block) := by
    intro y hy ha
    refine ⟨⟨hops_kept hy.hp g ha, hy.hl, hy.hc, hy.hd, hy.hz⟩, fun hn a e => ?_⟩
    rcases hat with e1 | e1
    · rw [e1]; exact ha hn a e
    · rw [e1]
      have := hops_lt hy.hp hn e
      intro k; have := Option.some.inj k; omega
  refine ⟨?_, fun y hy => ?_, fun y hy => ?_⟩
  · rw [List.flatMap_append, List.length_append]; exact ho
  · rcases List.mem_append.1 hy with hy | hy
    · exact (key y (h.nt y hy) (h.ap y hy)).1
    · rw [List.mem_singleton] at hy; subst hy; exact (key y hx hxa).1
  · rcases List.mem_append.1 hy with hy | hy
    · exact (key y (h.nt y hy) (h.ap y hy)).2
    · rw [List.mem_singleton] at hy; subst hy; exact (key y hx hxa).2
theorem Bxs.grown {a w w' : World} {base : Nat} {v : Value} {D : List Mi} (h : Bxs Z w base v D) (g : Gr a w) (k : w.grownBy w' v.ownBlock) (hb : a.heap.size ≤ base) : Gr a w' :=
  g.grown k (fun b e => by have := (h.own.lt b e).1; omega)
theorem own_far3 {w : World} {base : Nat} {e : TypeId} {size n : Nat} {v : Value} {xs : List Value} (h : w.ownsRow base e size v n xs) (p : Addr) (u : Value) (hp : v.ownBlock ≠ some p.block) : (w.setCell p u).ownsRow base e size v n xs :=
  h.kept (row := some p.block) ⟨rfl, rfl, rfl, by simp [World.setCell], fun k _ hk => Below.heap_setCell _ _ _ _ (fun e => hk (by rw [e]))⟩ (Or.inr hp)
/- of blocks that were there something else is asked -/
theorem MnAt.other {Y : Nat → Prop} {w : World} {m : Mn} (h : MnAt Z w m) (hy : ∀ b, b < w.heap.size → Y b) : MnAt Y w m := ⟨h.hp, h.hl, h.hc, h.hd, fun hn _ e => hy _ (hops_lt h.hp hn e)⟩
theorem ItsAt.other {Y : Nat → Prop} {w : World} {ad : Option Addr} {D : List Mi} (h : ItsAt Z w ad D) (hy : ∀ b, b < w.heap.size → Y b) : ItsAt Y w ad D := ⟨h.row, fun x hx => (h.nt x hx).other hy⟩
theorem NtsAt.other {Y : Nat → Prop} {w : World} {ad : Option Addr} {Q : List Mn} (h : NtsAt Z w ad Q) (hy : ∀ b, b < w.heap.size → Y b) : NtsAt Y w ad Q := ⟨h.row, fun x hx => (h.nt x hx).other hy⟩
end Go.Proofs.YthfbpilfdfploaaGreat
namespace Go.Proofs.YthfbpilfdfploaaGreat.Wn

structure Wd where
  low : Int
  seen : List Int
/- rising, above p, at most hi -/
def rise (p hi : Int) : List Int → Bool
  | [] => true
  | n :: r => decide (p < n) && decide (n ≤ hi) && rise n hi r
def may (w : Wd) : Bool := decide (0 ≤ w.low ∧ w.low ≤ 1000000000) && rise (w.low + 1) (w.low + 16) w.seen
def has (w : Wd) (n : Int) : Bool := decide (n ∈ w.seen) || decide (1 ≤ n ∧ n ≤ w.low)
def Up (l : List Int) : Prop := l.Pairwise (· < ·)
theorem rise_iff : ∀ (l : List Int) (p hi : Int), rise p hi l = true ↔ Up l ∧ ∀ n ∈ l, p < n ∧ n ≤ hi
  | [], p, hi => by simp [rise, Up]
  | x :: r, p, hi => by
    have ih := rise_iff r x hi
    simp only [rise, Bool.and_eq_true, decide_eq_true_eq, ih, Up, List.pairwise_cons, List.mem_cons]
    constructor
    · rintro ⟨⟨h1, h2⟩, h3, h4⟩
      refine ⟨⟨fun y hy => (h4 y hy).1, h3⟩, ?_⟩
      rintro n (rfl | hn)
      · exact ⟨h1, h2⟩
      · have := h4 n hn; exact ⟨by omega, this.2⟩
    · rintro ⟨⟨h1, h2⟩, h3⟩
      have hx := h3 x (Or.inl rfl)
      exact ⟨hx, h2, fun n hn => ⟨h1 n hn, (h3 n (Or.inr hn)).2⟩⟩
theorem may_iff (w : Wd) : may w = true ↔ (0 ≤ w.low ∧ w.low ≤ 1000000000) ∧ Up w.seen ∧ ∀ n ∈ w.seen, w.low + 1 < n ∧ n ≤ w.low + 16 := by
  unfold may
  rw [Bool.and_eq_true, decide_eq_true_eq, rise_iff]
theorem has_iff (w : Wd) (n : Int) : has w n = true ↔ n ∈ w.seen ∨ (1 ≤ n ∧ n ≤ w.low) := by
  simp [has]
/- two rising rows of the same numbers are one -/
theorem up_ext : ∀ (a b : List Int), Up a → Up b → (∀ n, n ∈ a ↔ n ∈ b) → a = b
  | [], [], _, _, _ => rfl
  | [], y :: s, _, _, h => by have := (h y).2 (by simp); cases this
  | x :: r, [], _, _, h => by have := (h x).1 (by simp); cases this
  | x :: r, y :: s, ha, hb, h => by
    obtain ⟨ha1, ha2⟩ := List.pairwise_cons.1 ha
    obtain ⟨hb1, hb2⟩ := List.pairwise_cons.1 hb
    have hxy : x = y := by
      have h1 := (h x).1 (by simp)
      have h2 := (h y).2 (by simp)
      rcases List.mem_cons.1 h1 with e | e
      · exact e
      · rcases List.mem_cons.1 h2 with e2 | e2
        · exact e2.symm
        · have := hb1 x e; have := ha1 y e2; omega
    subst hxy
    rw [up_ext r s ha2 hb2 (fun n => ?_)]
    constructor
    · intro hn
      rcases List.mem_cons.1 ((h n).1 (List.mem_cons_of_mem _ hn)) with e | e
      · have := ha1 n hn; omega
      · exact e
    · intro hn
      rcases List.mem_cons.1 ((h n).2 (List.mem_cons_of_mem _ hn)) with e | e
      · have := hb1 n hn; omega
      · exact e
/- a number is laid into a rising row -/
def ins (q : Int) : List Int → List Int
  | [] => [q]
  | x :: r => if q < x then q :: x :: r else if q = x then x :: r else x :: ins q r
theorem mem_ins (q n : Int) : ∀ l : List Int, n ∈ ins q l ↔ n = q ∨ n ∈ l
  | [] => by simp [ins]
  | x :: r => by
    unfold ins
    split
    · simp
    · split
      · rename_i h1 h2; subst h2; simp
      · simp only [List.mem_cons, mem_ins q n r]
        constructor
        · rintro (h | h | h)
          · exact Or.inr (Or.inl h)
          · exact Or.inl h
          · exact Or.inr (Or.inr h)
        · rintro (h | h | h)
          · exact Or.inr (Or.inl h)
          · exact Or.inl h
          · exact Or.inr (Or.inr h)
theorem up_ins (q : Int) : ∀ l : List Int, Up l → Up (ins q l)
  | [], _ => by simp [ins, Up]
  | x :: r, h => by
    obtain ⟨h1, h2⟩ := List.pairwise_cons.1 h
    unfold ins
    split
    · rename_i hq
      refine List.pairwise_cons.2 ⟨fun y hy => ?_, h⟩
      rcases List.mem_cons.1 hy with rfl | hy
      · exact hq
      · have := h1 y hy; omega
    · split
      · exact h
      · rename_i n1 n2
        refine List.pairwise_cons.2 ⟨fun y hy => ?_, up_ins q r h2⟩
        rcases (mem_ins q y r).1 hy with rfl | hy
        · omega
        · exact h1 y hy
theorem ins_len (q : Int) : ∀ l : List Int, q ∉ l → (ins q l).length = l.length + 1
  | [], _ => rfl
  | x :: r, h => by
    have h1 : q ≠ x := fun e => h (by simp [e])
    have h2 : q ∉ r := fun e => h (by simp [e])
    unfold ins
    split
    · rfl
    · simp [ins_len q r h2]
/- the numbers from a to b -/
def rng (a b : Int) : List Int := (List.range (b + 1 - a).toNat).map (fun i : Nat => a + (i : Int))
theorem mem_rng (a b n : Int) : n ∈ rng a b ↔ a ≤ n ∧ n ≤ b := by
  unfold rng
  simp only [List.mem_map, List.mem_range]
  constructor
  · rintro ⟨i, hi, rfl⟩; omega
  · rintro ⟨h1, h2⟩; exact ⟨(n - a).toNat, by omega, by omega⟩
theorem up_rng (a b : Int) : Up (rng a b) := by
  unfold rng Up
  rw [List.pairwise_map]
  exact List.pairwise_lt_range.imp (fun h => by omega)
theorem len_rng (a b : Int) : (rng a b).length = (b + 1 - a).toNat := by simp [rng]
/- w' has taken just what w has, and q -/
structure Took (w : Wd) (q : Int) (w' : Wd) : Prop where
  low0 : 0 ≤ w'.low
  up : Up w'.seen
  ab : ∀ n ∈ w'.seen, w'.low + 1 < n
  has : ∀ n, has w' n = true ↔ (has w n = true ∨ n = q)
theorem low_le {a b : Wd} (hb : ∀ n ∈ b.seen, b.low + 1 < n) (hb0 : 0 ≤ b.low) (h : ∀ n, has a n = true → has b n = true) : a.low ≤ b.low := by
  by_cases c : a.low ≤ b.low
  · exact c
  · have h1 := h (b.low + 1) ((has_iff _ _).2 (Or.inr ⟨by omega, by omega⟩))
    rcases (has_iff _ _).1 h1 with h2 | h2
    · have := hb _ h2; omega
    · omega
theorem seen_iff {a : Wd} (ha : ∀ n ∈ a.seen, a.low + 1 < n) (n : Int) : n ∈ a.seen ↔ has a n = true ∧ a.low < n := by
  rw [has_iff]
  constructor
  · intro h; exact ⟨Or.inl h, by have := ha n h; omega⟩
  · rintro ⟨h | h, h2⟩
    · exact h
    · omega
theorem took_one {w : Wd} {q : Int} {a b : Wd} (ha : Took w q a) (hb : Took w q b) : a = b := by
  have hab : ∀ n, has a n = true ↔ has b n = true := fun n => (ha.has n).trans (hb.has n).symm
  have h1 := low_le hb.ab hb.low0 (fun n => (hab n).1)
  have h2 := low_le ha.ab ha.low0 (fun n => (hab n).2)
  have e : a.low = b.low := by omega
  have e2 : a.seen = b.seen := up_ext _ _ ha.up hb.up (fun n => by rw [seen_iff ha.ab, seen_iff hb.ab, hab n, e])
  cases a; cases b
  simp only at e e2
  rw [e, e2]
/- Low goes up as long as the next one was taken -/
def up (h : Int → Bool) : Nat → Int → Int
  | 0, l => l
  | f + 1, l => if h (l + 1) = true then up h f (l + 1) else l
theorem up_spec (h : Int → Bool) : ∀ (f : Nat) (l : Int), l ≤ up h f l ∧ up h f l ≤ l + f ∧ (∀ n, l < n → n ≤ up h f l → h n = true) ∧ (up h f l < l + f → h (up h f l + 1) = false)
  | 0, l => ⟨Int.le_refl _, by simp [up], fun n h1 h2 => by simp only [up] at h2; omega, fun h1 => by simp only [up] at h1; omega⟩
  | f + 1, l => by
    have ih := up_spec h f (l + 1)
    unfold up
    by_cases c : h (l + 1) = true
    · rw [if_pos c]
      refine ⟨by omega, by omega, fun n h1 h2 => ?_, fun h1 => ih.2.2.2 (by omega)⟩
      by_cases e : n = l + 1
      · rw [e]; exact c
      · exact ih.2.2.1 n (by omega) h2
    · rw [if_neg c]
      exact ⟨Int.le_refl _, by omega, fun n h1 h2 => by omega, fun _ => by simpa using c⟩
/- the window behind a fresh number, as the document makes it -/
def more (w : Wd) (q : Int) : Wd :=
  ⟨up (fun n => has w n || decide (n = q)) 17 w.low, (rng (up (fun n => has w n || decide (n = q)) 17 w.low + 1) (w.low + 16)).filter (fun n => has w n || decide (n = q))⟩
theorem has_le {w : Wd} (hw : may w = true) {n : Int} (h : has w n = true) : 1 ≤ n ∧ n ≤ w.low + 16 := by
  obtain ⟨h1, _, h3⟩ := (may_iff w).1 hw
  rcases (has_iff _ _).1 h with h | h
  · have := h3 n h; omega
  · omega
theorem more_took {w : Wd} {q : Int} (hw : may w = true) (h1 : 1 ≤ q) (h2 : q ≤ w.low + 16) : Took w q (more w q) := by
  obtain ⟨h0, _, _⟩ := (may_iff w).1 hw
  obtain ⟨s1, s2, s3, s4⟩ := up_spec (fun n => has w n || decide (n = q)) 17 w.low
  have hb : ∀ n, (has w n || decide (n = q)) = true → 1 ≤ n ∧ n ≤ w.low + 16 := by
    intro n hn
    rcases Bool.or_eq_true _ _ ▸ hn with h | h
    · exact has_le hw h
    · have := of_decide_eq_true h; omega
  have hlt : up (fun n => has w n || decide (n = q)) 17 w.low ≤ w.low + 16 := by
    by_cases c : w.low < up (fun n => has w n || decide (n = q)) 17 w.low
    · exact (hb _ (s3 _ c (Int.le_refl _))).2
    · omega
  have hstop := s4 (by omega)
  generalize hL : up (fun n => has w n || decide (n = q)) 17 w.low = L at *
  have hm : more w q = ⟨L, (rng (L + 1) (w.low + 16)).filter (fun n => has w n || decide (n = q))⟩ := by unfold more; rw [hL]
  rw [hm]
  refine ⟨by show 0 ≤ L; omega, (up_rng _ _).filter _, ?_, ?_⟩
  · intro n hn
    obtain ⟨hn1, hn2⟩ := List.mem_filter.1 hn
    have hn3 := (mem_rng _ _ _).1 hn1
    show L + 1 < n
    by_cases e : n = L + 1
    · rw [e] at hn2; have h9 := hstop; rw [show (has w (L + 1) || decide (L + 1 = q)) = true from hn2] at h9; cases h9
    · omega
  · intro n
    rw [has_iff]
    simp only [List.mem_filter, mem_rng, Bool.or_eq_true, decide_eq_true_eq]
    constructor
    · rintro (⟨_, h⟩ | ⟨h3, h4⟩)
      · exact h
      · by_cases c : n ≤ w.low
        · exact Or.inl ((has_iff _ _).2 (Or.inr ⟨h3, c⟩))
        · have := s3 n (by omega) h4
          simpa using this
    · intro h
      have hr := hb n (by simpa using h)
      by_cases c : n ≤ L
      · exact Or.inr ⟨hr.1, c⟩
      · exact Or.inl ⟨⟨by omega, hr.2⟩, h⟩
/- how many were taken -/
/- it may be, where Low does not pass its bound -/
theorem took_low {w : Wd} {q : Int} {a : Wd} (ha : Took w q a) : w.low ≤ a.low :=
  low_le ha.ab ha.low0 (fun n hn => (ha.has n).2 (Or.inl hn))
/- Take: the window, whether the number was fresh, the error -/
def take (w : Wd) (q : Int) : Wd × Bool × Int :=
  if may w = true ∧ 1 ≤ q ∧ q ≤ 1000000000 then
    (if w.low + 16 < q then (⟨0, []⟩, false, 180) else if has w q = true then (w, false, 0) else (more w q, true, 0))
  else (⟨0, []⟩, false, 2)
/- All -/
def allF : Wd → Int → List Int → Wd × Int × Int
  | w, n, [] => (w, n, 0)
  | w, n, q :: r => if (take w q).2.2 = 0 then allF (take w q).1 (if (take w q).2.1 = true then n + 1 else n) r else (⟨0, []⟩, 0, (take w q).2.2)
def all (w : Wd) (l : List Int) : Wd × Int × Int := if may w = true then allF w 0 l else (⟨0, []⟩, 0, 2)
/- Missing -/
end Go.Proofs.YthfbpilfdfploaaGreat.Wn
namespace Go.Proofs.YthfbpilfdfploaaGreat
open Go.RowKit
open Wn (Wd)

/- a window as a value, and its row in memory -/
abbrev wdV (l : Int) (ad : Option Addr) (n cap : Nat) : Value := .agg #[.int .i64 l, .slice ad n cap]
structure WdAt (w : World) (ad : Option Addr) (cap : Nat) (W : Wd) : Prop where
  row : IntsAt w ad W.seen
  fits : W.seen.length ≤ cap
  len : W.seen.length ≤ 9223372036854775807
  non : ad = none → cap = 0
  lo0 : -9223372036854775808 ≤ W.low
  lo1 : W.low ≤ 9223372036854775807
theorem WdAt.gr {w w' : World} {ad : Option Addr} {cap : Nat} {W : Wd} (h : WdAt w ad cap W) (g : Gr w w') : WdAt w' ad cap W := ⟨h.row.gr g, h.fits, h.len, h.non, h.lo0, h.lo1⟩
def mayE (W : Wd) : Int := if Wn.may W = true then 0 else 2
theorem rise_at {l : List Int} {k : Nat} (hk : k < l.length) (b hi : Int) : Wn.rise b hi (l.drop k) = (decide (b < l[k]) && decide (l[k] ≤ hi) && Wn.rise l[k] hi (l.drop (k + 1))) := by
  rw [List.drop_eq_getElem_cons hk]; rfl
theorem Gr.dn {a b : World} (h : Gr a b) (q : Nat) : Gr a (b.drewN q) := by
  induction q with
  | zero => exact h
  | succ q ih => exact ih.drew
set_option maxHeartbeats 4000000 in
set_option maxRecDepth 100000 in
theorem may_any (W : Wd) (ad : Option Addr) (cap : Nat) (w : World) (h : WdAt w ad cap W) :
    Calls Tryz.prog 78 #[wdV W.low ad W.seen.length cap] w fun e w' => e = .returned (.int .i64 (mayE W)) ∧ Gr w w' := by
  obtain ⟨low, l⟩ := W
  obtain ⟨hr, hcap, hcm, hnon, h0, h1⟩ := h
  simp only at *
  have HL := Lib.hid (hr.gr (Gr.refl w).alloc (w' := w.alloc (.cells #[.int .i64 low, .slice ad l.length cap] 56)))
  clear hr
  by_cases c1 : low < 0
  · have HE : Hid (mayE ⟨low, l⟩ = 2) := by show _ = _; unfold mayE Wn.may; rw [if_neg]; simp; omega
    go_enter Tryz.func78, Tryz.ntmps78
    go_wp2
    go_ret
    exact ⟨by rw [HE.out]; rfl, (by repeat(first|exact Gr.r _|refine Gr.a ?_|refine Gr.d ?_|refine Gr.t ?_ (by assumption)))⟩
  · by_cases c2 : 1000000000 < low
    · have HE : Hid (mayE ⟨low, l⟩ = 2) := by show _ = _; unfold mayE Wn.may; rw [if_neg]; simp; omega
      go_enter Tryz.func78, Tryz.ntmps78
      go_wp2
      go_ret
      exact ⟨by rw [HE.out]; rfl, (by repeat(first|exact Gr.r _|refine Gr.a ?_|refine Gr.d ?_|refine Gr.t ?_ (by assumption)))⟩
    · have HE : Hid (mayE ⟨low, l⟩ = if Wn.rise (low + 1) (low + 16) l = true then 0 else 2) := by
        show _ = _
        unfold mayE Wn.may
        rw [decide_eq_true (show 0 ≤ (⟨low, l⟩ : Wd).low ∧ (⟨low, l⟩ : Wd).low ≤ 1000000000 from ⟨by show 0 ≤ low; omega, by show low ≤ _; omega⟩), Bool.true_and]
      go_enter Tryz.func78, Tryz.ntmps78
      go_wp2
      go_loop [3, 20] (fun t i => ∃ (k : Nat) (b : Int), k ≤ l.length ∧ i = .int .i64 k ∧ t = .int .i64 b ∧ Wn.rise (low + 1) (low + 16) l = Wn.rise b (low + 16) (l.drop k)) (fun _ i => l.length - (intOf i).toNat)
      case atStart => exact ⟨0, low + 1, by omega, rfl, by go_num, rfl⟩
      case round =>
        obtain ⟨k, b, hk, rfl, rfl, he⟩ := hrel
        by_cases hlt : k < l.length
        · obtain ⟨x, off, rfl, hbl, hc⟩ := HL.out k hlt
          rw [rise_at hlt] at he
          have HR := Lib.hid he
          clear he
          generalize l[k] = n at *
          by_cases c3 : n ≤ b
          · have HF : Hid (mayE ⟨low, l⟩ = 2) := by
              show _ = _
              rw [HE.out, HR.out, decide_eq_false (by omega)]; rfl
            go_wp2
            go_ret
            exact ⟨by rw [HF.out]; rfl, (by repeat(first|exact Gr.r _|refine Gr.a ?_|refine Gr.d ?_|refine Gr.t ?_ (by assumption)))⟩
          · by_cases c4 : low + 16 < n
            · have HF : Hid (mayE ⟨low, l⟩ = 2) := by
                show _ = _
                rw [HE.out, HR.out, decide_eq_false (show ¬ (n ≤ low + 16) by omega), Bool.and_false]; rfl
              go_wp2
              go_ret
              exact ⟨by rw [HF.out]; rfl, (by repeat(first|exact Gr.r _|refine Gr.a ?_|refine Gr.d ?_|refine Gr.t ?_ (by assumption)))⟩
            · go_wp2
              go_round
              case rel => exact ⟨k + 1, n, by omega, by go_num, rfl, by rw [HR.out, decide_eq_true (by omega), decide_eq_true (by omega)]; rfl⟩
              case measure => simp [intOf]; omega
        · have HF : Hid (mayE ⟨low, l⟩ = 0) := by
            show _ = _
            rw [HE.out, he, List.drop_eq_nil_of_le (by omega)]; rfl
          clear he
          go_wp2
          go_ret
          exact ⟨by rw [HF.out]; rfl, (by repeat(first|exact Gr.r _|refine Gr.a ?_|refine Gr.d ?_|refine Gr.t ?_ (by assumption)))⟩
set_option maxHeartbeats 4000000 in
set_option maxRecDepth 100000 in
theorem rmay_any (W : Wd) (ad : Option Addr) (cap : Nat) (w : World) (h : WdAt w ad cap W) :
    Calls Tryz.prog 56 #[wdV W.low ad W.seen.length cap] w fun e w' => e = .returned (.int .i64 (mayE W)) ∧ Gr w w' := by
  obtain ⟨low, l⟩ := W
  obtain ⟨hr, hcap, hcm, hnon, h0, h1⟩ := h
  simp only at *
  have HL := Lib.hid (hr.gr (Gr.refl w).alloc (w' := w.alloc (.cells #[.int .i64 low, .slice ad l.length cap] 56)))
  clear hr
  by_cases c1 : low < 0
  · have HE : Hid (mayE ⟨low, l⟩ = 2) := by show _ = _; unfold mayE Wn.may; rw [if_neg]; simp; omega
    go_enter Tryz.func56, Tryz.ntmps56
    go_wp2
    go_ret
    exact ⟨by rw [HE.out]; rfl, (by repeat(first|exact Gr.r _|refine Gr.a ?_|refine Gr.d ?_|refine Gr.t ?_ (by assumption)))⟩
  · by_cases c2 : 1000000000 < low
    · have HE : Hid (mayE ⟨low, l⟩ = 2) := by show _ = _; unfold mayE Wn.may; rw [if_neg]; simp; omega
      go_enter Tryz.func56, Tryz.ntmps56
      go_wp2
      go_ret
      exact ⟨by rw [HE.out]; rfl, (by repeat(first|exact Gr.r _|refine Gr.a ?_|refine Gr.d ?_|refine Gr.t ?_ (by assumption)))⟩
    · have HE : Hid (mayE ⟨low, l⟩ = if Wn.rise (low + 1) (low + 16) l = true then 0 else 2) := by
        show _ = _
        unfold mayE Wn.may
        rw [decide_eq_true (show 0 ≤ (⟨low, l⟩ : Wd).low ∧ (⟨low, l⟩ : Wd).low ≤ 1000000000 from ⟨by show 0 ≤ low; omega, by show low ≤ _; omega⟩), Bool.true_and]
      go_enter Tryz.func56, Tryz.ntmps56
      go_wp2
      go_loop [3] (fun i => ∃ (k : Nat) (b : Int), k ≤ l.length ∧ i = .int .i64 k ∧ low + 1 ≤ b ∧ (k = 0 → b = low + 1) ∧ (∀ j (hj : j < l.length), k = j + 1 → b = l[j]) ∧ Wn.rise (low + 1) (low + 16) l = Wn.rise b (low + 16) (l.drop k)) (fun i => l.length - (intOf i).toNat)
      case atStart => exact ⟨0, low + 1, by omega, rfl, by omega, fun _ => rfl, fun _ _ e => by omega, rfl⟩
      case round =>
        obtain ⟨k, b, hk, rfl, hb, hb0, hb1, he⟩ := hrel
        by_cases hlt : k < l.length
        · obtain ⟨x, off, rfl, hbl, hc⟩ := HL.out k hlt
          rw [rise_at hlt] at he
          have HR := Lib.hid he
          have HN : Hid (∀ n, n = l[k] → ∀ j (hj : j < l.length), k + 1 = j + 1 → n = l[j]) := fun n hn j hj e => by
            obtain rfl : k = j := by omega
            exact hn
          have HX : Hid (l[k] = l[k]) := rfl
          clear he
          generalize hn : l[k] = n at *
          have HN' := Lib.hid (HN.out n rfl)
          clear HN HX
          by_cases c3 : n ≤ low + 1
          · have HF : Hid (mayE ⟨low, l⟩ = 2) := by
              show _ = _
              rw [HE.out, HR.out, decide_eq_false (by omega)]; rfl
            clear hb0 hb1 hn
            go_wp2
            go_ret
            exact ⟨by rw [HF.out]; rfl, (by repeat(first|exact Gr.r _|refine Gr.a ?_|refine Gr.d ?_|refine Gr.t ?_ (by assumption)))⟩
          · by_cases c4 : low + 16 < n
            · have HF : Hid (mayE ⟨low, l⟩ = 2) := by
                show _ = _
                rw [HE.out, HR.out, decide_eq_false (show ¬ (n ≤ low + 16) by omega), Bool.and_false]; rfl
              clear hb0 hb1 hn
              go_wp2
              go_ret
              exact ⟨by rw [HF.out]; rfl, (by repeat(first|exact Gr.r _|refine Gr.a ?_|refine Gr.d ?_|refine Gr.t ?_ (by assumption)))⟩
            · cases k with
              | zero =>
                have hbb := hb0 rfl
                rw [Nat.add_zero] at hc
                clear hb0 hb1 hn
                go_wp2
                go_round
                case rel => exact ⟨1, n, by omega, by go_num, by omega, fun e => by omega, fun j hj e => HN'.out j hj e, by rw [HR.out, decide_eq_true (by omega), decide_eq_true (by omega)]; rfl⟩
                case measure => simp [intOf]; omega
              | succ k =>
                have hbb := hb1 k (by omega) rfl
                obtain ⟨x2, off2, e2, hbl2, hc2⟩ := HL.out k (by omega)
                cases e2
                rw [← hbb] at hc2
                have hk1 : (0 : Int) < ((k + 1 : Nat) : Int) := by omega
                have hk2 : ((k + 1 : Nat) : Int) - 1 = (k : Int) := by omega
                have hk3 : (k : Int) < (l.length : Int) := by omega
                clear hb0 hb1 hn hbb
                by_cases c5 : n ≤ b
                · have HF : Hid (mayE ⟨low, l⟩ = 2) := by
                    show _ = _
                    rw [HE.out, HR.out, decide_eq_false (by omega)]; rfl
                  go_wp2
                  go_ret
                  exact ⟨by rw [HF.out]; rfl, (by repeat(first|exact Gr.r _|refine Gr.a ?_|refine Gr.d ?_|refine Gr.t ?_ (by assumption)))⟩
                · go_wp2
                  go_round
                  case rel => exact ⟨k + 1 + 1, n, by omega, by go_num, by omega, fun e => by omega, fun j hj e => HN'.out j hj e, by rw [HR.out, decide_eq_true (by omega), decide_eq_true (by omega)]; rfl⟩
                  case measure => simp [intOf]; omega
        · have HF : Hid (mayE ⟨low, l⟩ = 0) := by
            show _ = _
            rw [HE.out, he, List.drop_eq_nil_of_le (by omega)]; rfl
          clear he hb0 hb1
          go_wp2
          go_ret
          exact ⟨by rw [HF.out]; rfl, (by repeat(first|exact Gr.r _|refine Gr.a ?_|refine Gr.d ?_|refine Gr.t ?_ (by assumption)))⟩
set_option maxHeartbeats 4000000 in
set_option maxRecDepth 100000 in
theorem rhas_any (W : Wd) (n : Int) (ad : Option Addr) (cap : Nat) (w : World) (h : WdAt w ad cap W) :
    Calls Tryz.prog 57 #[wdV W.low ad W.seen.length cap, .int .i64 n] w fun e w' => e = .returned (.bool (Wn.has W n)) ∧ Gr w w' := by
  obtain ⟨low, l⟩ := W
  obtain ⟨hr, hcap, hcm, hnon, h0, h1⟩ := h
  simp only at *
  have HL := Lib.hid (hr.gr (Gr.refl w).alloc (w' := w.alloc (.cells #[.int .i64 low, .slice ad l.length cap] 56)))
  clear hr
  go_enter Tryz.func57, Tryz.ntmps57
  go_wp2
  go_loop [5] (fun i => ∃ (k : Nat), k ≤ l.length ∧ i = .int .i64 k ∧ ∀ j (hj : j < l.length), j < k → l[j] ≠ n) (fun i => l.length - (intOf i).toNat)
  case atStart => exact ⟨0, by omega, rfl, fun j _ h => by omega⟩
  case round =>
    obtain ⟨k, hk, rfl, hno⟩ := hrel
    by_cases hlt : k < l.length
    · obtain ⟨x, off, rfl, hbl, hc⟩ := HL.out k hlt
      by_cases c : l[k] = n
      · have HF : Hid (Wn.has ⟨low, l⟩ n = true) := (Wn.has_iff _ _).2 (Or.inl (by rw [← c]; exact List.getElem_mem hlt))
        rw [c] at hc
        clear c hno
        go_wp2
        go_ret
        exact ⟨by rw [HF.out]; rfl, (by repeat(first|exact Gr.r _|refine Gr.a ?_|refine Gr.d ?_|refine Gr.t ?_ (by assumption)))⟩
      · have HN : Hid (∀ j (hj : j < l.length), j < k + 1 → l[j] ≠ n) := fun j hj h => by
          by_cases e : j = k
          · subst e; exact c
          · exact hno j hj (by omega)
        generalize l[k] = y at *
        clear hno
        go_wp2
        go_round
        case rel => exact ⟨k + 1, by omega, by go_num, HN.out⟩
        case measure => simp [intOf]; omega
    · have hnot : n ∉ l := fun hm => by
        obtain ⟨j, hj, e⟩ := List.getElem_of_mem hm
        exact hno j hj (by omega) e
      by_cases c1 : 1 ≤ n
      · by_cases c2 : n ≤ low
        · have HF : Hid (Wn.has ⟨low, l⟩ n = true) := (Wn.has_iff _ _).2 (Or.inr ⟨c1, c2⟩)
          clear hno hnot
          go_wp2
          go_ret
          exact ⟨by rw [HF.out]; rfl, (by repeat(first|exact Gr.r _|refine Gr.a ?_|refine Gr.d ?_|refine Gr.t ?_ (by assumption)))⟩
        · have HF : Hid (Wn.has ⟨low, l⟩ n = false) := by
            show _ = _
            unfold Wn.has
            rw [decide_eq_false hnot, decide_eq_false (by show ¬ (1 ≤ n ∧ n ≤ low); omega)]; rfl
          clear hno hnot
          go_wp2
          go_ret
          exact ⟨by rw [HF.out]; rfl, (by repeat(first|exact Gr.r _|refine Gr.a ?_|refine Gr.d ?_|refine Gr.t ?_ (by assumption)))⟩
      · have HF : Hid (Wn.has ⟨low, l⟩ n = false) := by
          show _ = _
          unfold Wn.has
          rw [decide_eq_false hnot, decide_eq_false (by show ¬ (1 ≤ n ∧ n ≤ low); omega)]; rfl
        clear hno hnot
        go_wp2
        go_ret
        exact ⟨by rw [HF.out]; rfl, (by repeat(first|exact Gr.r _|refine Gr.a ?_|refine Gr.d ?_|refine Gr.t ?_ (by assumption)))⟩
end Go.Proofs.YthfbpilfdfploaaGreat
namespace Go.Proofs.YthfbpilfdfploaaGreat.Wn

/- how many of a row are below a number -/
def pos (x : Int) (l : List Int) : Nat := l.countP (· < x)
theorem pos_le (x : Int) (l : List Int) : pos x l ≤ l.length := List.countP_le_length
theorem pos_ins (x : Int) : ∀ l : List Int, Up l → x ∉ l → l.take (pos x l) ++ x :: l.drop (pos x l) = ins x l
  | [], _, _ => rfl
  | y :: r, hu, hx => by
    obtain ⟨h1, h2⟩ := List.pairwise_cons.1 hu
    have hxy : x ≠ y := fun e => hx (by simp [e])
    have hxr : x ∉ r := fun e => hx (by simp [e])
    have ih := pos_ins x r h2 hxr
    unfold ins
    by_cases c : y < x
    · have e : pos x (y :: r) = pos x r + 1 := by unfold pos; rw [List.countP_cons_of_pos (by simpa using c)]
      rw [e, if_neg (by omega), if_neg hxy, ← ih]; rfl
    · have e : pos x (y :: r) = 0 := by
        unfold pos
        rw [List.countP_eq_zero]
        intro z hz
        simp only [decide_eq_true_eq]
        rcases List.mem_cons.1 hz with rfl | hz
        · exact c
        · have := h1 z hz; omega
      rw [e, if_pos (by omega)]; rfl
/- Low goes on to the first gap -/
def gon : Int → List Int → Wd
  | low, [] => ⟨low, []⟩
  | low, n :: r => if n = low + 1 then gon n r else ⟨low, n :: r⟩
theorem gon_spec : ∀ (l : List Int) (low : Int), 0 ≤ low → Up l → (∀ n ∈ l, low < n) →
    low ≤ (gon low l).low ∧ Up (gon low l).seen ∧ (∀ n ∈ (gon low l).seen, (gon low l).low + 1 < n) ∧ ∀ n, has (gon low l) n = true ↔ (n ∈ l ∨ (1 ≤ n ∧ n ≤ low))
  | [], low, h0, hu, hl => ⟨Int.le_refl _, hu, fun n hn => by simp [gon] at hn, fun n => by rw [has_iff]; rfl⟩
  | x :: r, low, h0, hu, hl => by
    obtain ⟨h1, h2⟩ := List.pairwise_cons.1 hu
    have hx := hl x (by simp)
    unfold gon
    by_cases c : x = low + 1
    · rw [if_pos c]
      obtain ⟨i1, i2, i3, i4⟩ := gon_spec r x (by omega) h2 h1
      refine ⟨by omega, i2, i3, fun n => ?_⟩
      rw [i4, List.mem_cons]
      constructor
      · rintro (h | h)
        · exact Or.inl (Or.inr h)
        · by_cases e : n = x
          · exact Or.inl (Or.inl e)
          · exact Or.inr ⟨h.1, by omega⟩
      · rintro ((h | h) | h)
        · exact Or.inr ⟨by omega, by omega⟩
        · exact Or.inl h
        · exact Or.inr ⟨h.1, by omega⟩
    · rw [if_neg c]
      refine ⟨Int.le_refl _, hu, fun n hn => ?_, fun n => by rw [has_iff]⟩
      show low + 1 < n
      rcases List.mem_cons.1 hn with rfl | hn
      · omega
      · have := h1 n hn; omega
theorem gon_more {w : Wd} {q : Int} (hw : may w = true) (h1 : 1 ≤ q) (h2 : q ≤ w.low + 16) (hn : has w q = false) : gon w.low (ins q w.seen) = more w q := by
  obtain ⟨⟨h0, _⟩, hu, hs⟩ := (may_iff w).1 hw
  have hq : ¬ (has w q = true) := by rw [hn]; simp
  rw [has_iff] at hq
  obtain ⟨i1, i2, i3, i4⟩ := gon_spec (ins q w.seen) w.low h0 (up_ins q _ hu) (fun n hm => by
    rcases (mem_ins q n w.seen).1 hm with rfl | hm
    · omega
    · have := hs n hm; omega)
  refine took_one (w := w) (q := q) ⟨by omega, i2, i3, fun n => ?_⟩ (more_took hw h1 h2)
  rw [i4, mem_ins, has_iff]
  constructor
  · rintro ((h | h) | h)
    · exact Or.inr h
    · exact Or.inl (Or.inl h)
    · exact Or.inl (Or.inr h)
  · rintro ((h | h) | h)
    · exact Or.inl (Or.inr h)
    · exact Or.inr h
    · exact Or.inl (Or.inl h)
/- how many a window that may be has seen -/
theorem up_len : ∀ (l : List Int) (a b : Int), Up l → (∀ n ∈ l, a < n ∧ n ≤ b) → l.length ≤ (b - a).toNat
  | [], _, _, _, _ => by simp
  | x :: r, a, b, hu, hl => by
    obtain ⟨h1, h2⟩ := List.pairwise_cons.1 hu
    have hx := hl x (by simp)
    have := up_len r x b h2 (fun n hn => ⟨h1 n hn, (hl n (List.mem_cons_of_mem _ hn)).2⟩)
    rw [List.length_cons]; omega
theorem may_len {w : Wd} (hw : may w = true) : w.seen.length ≤ 15 := by
  obtain ⟨_, hu, hs⟩ := (may_iff w).1 hw
  have := up_len w.seen (w.low + 1) (w.low + 16) hu hs
  omega
/- ranges -/
theorem rng_none {a b : Int} (h : b < a) : rng a b = [] := by unfold rng; rw [show (b + 1 - a).toNat = 0 by omega]; rfl
theorem rng_snoc {a b : Int} (h : a ≤ b) : rng a b = rng a (b - 1) ++ [b] := by
  refine up_ext _ _ (up_rng _ _) ?_ (fun n => ?_)
  · refine List.pairwise_append.2 ⟨up_rng _ _, by simp, fun x hx y hy => ?_⟩
    have := (mem_rng _ _ _).1 hx
    simp at hy; omega
  · rw [List.mem_append, mem_rng, mem_rng, List.mem_singleton]; omega
/- what is missing, as the program goes -/
end Go.Proofs.YthfbpilfdfploaaGreat.Wn
namespace Go.Proofs.YthfbpilfdfploaaGreat.Lk
open Wn (Wd)
open Ox (It)

/- a frame: from, to, life, number, the other's life as it is known, what is answered, the note -/
structure Fr (α : Type) where
  f : Int
  t : Int
  e : Int
  s : Int
  a : Int
  c : Int
  n : α
/- a link: who it is, its peer, its life, the peer's life, what is on its way, the next number, the window, whether it owes -/
structure St (α : Type) where
  me : Int
  wi : Int
  ep : Int
  kn : Int
  it : List (It α)
  nx : Int
  wn : Wd
  ow : Bool
/- notes: which may be, their ends, the one that is none; which frames may be -/
structure Ctx (α : Type) where
  ok : α → Bool
  fo : α → Int
  un : α → Int
  z : α
  fm : Fr α → Bool
def newB (me pe ep : Int) : Bool := decide (0 ≤ me ∧ me ≤ 15 ∧ 0 ≤ pe ∧ pe ≤ 15 ∧ me ≠ pe ∧ 1 ≤ ep ∧ ep ≤ 1000000000)
section
variable {α : Type}
def new (me pe ep : Int) : St α := ⟨me, pe, ep, 0, [], 1, ⟨0, []⟩, false⟩
def ends (C : Ctx α) (l : St α) (n : α) : Bool := decide (C.fo n = l.me) && decide (C.un n = l.wi)
def sendE [DecidableEq α] (C : Ctx α) (l : St α) (now : Int) (ns : List α) : Int :=
  if ns.all (ends C l) = true then (Ox.push C.ok l.it l.nx now ns).2 else 130
def sendS [DecidableEq α] (C : Ctx α) (l : St α) (now : Int) (ns : List α) : St α :=
  if sendE C l now ns = 0 then { l with it := (Ox.push C.ok l.it l.nx now ns).1, nx := Ox.next (Ox.push C.ok l.it l.nx now ns).1 l.nx } else l
def frm (l : St α) (q : Int) (n : α) : Fr α := ⟨l.me, l.wi, l.ep, q, l.kn, l.wn.low, n⟩
def tickF [DecidableEq α] (C : Ctx α) (l : St α) (now : Int) : List (Fr α) :=
  if Ox.tmB now = true then
    (if (Ox.dueD C.ok l.it now).isEmpty then (if l.ow then [frm l 0 C.z] else []) else (Ox.dueD C.ok l.it now).map (fun x => frm l x.q x.n))
  else []
def tickS [DecidableEq α] (C : Ctx α) (l : St α) (now : Int) : St α := if Ox.tmB now = true then { l with it := Ox.dueL C.ok l.it now, ow := false } else l
def learn [DecidableEq α] (C : Ctx α) (l : St α) (e now : Int) : St α :=
  if l.kn < e then { l with kn := e, wn := ⟨0, []⟩, it := Ox.anew C.ok l.it now, nx := ((Ox.anew C.ok l.it now).length : Int) + 1 } else l
def hit [DecidableEq α] (C : Ctx α) (l : St α) (c : Int) : St α := { l with it := Ox.ans C.ok l.it c }
def lay (l : St α) (q : Int) : Int × Bool × St α :=
  if (Wn.take l.wn q).2.2 = 0 then (0, (Wn.take l.wn q).2.1, { l with wn := (Wn.take l.wn q).1, ow := true }) else ((Wn.take l.wn q).2.2, false, { l with ow := true })
/- Take: the error, whether a note is handed out, the link -/
def takeR [DecidableEq α] (C : Ctx α) (l : St α) (f : Fr α) (now : Int) : Int × Bool × St α :=
  if C.fm f = true ∧ f.f = l.wi ∧ f.t = l.me then
    (if Ox.tmB now = true then
      (if f.e < l.kn then (200, false, l)
      else if f.a = l.ep then (if f.s = 0 then (0, false, hit C (learn C l f.e now) f.c) else lay (hit C (learn C l f.e now) f.c) f.s)
      else (200, false, { learn C l f.e now with ow := true }))
    else (2, false, l))
  else (130, false, l)
/- what Take does to a link that looks at the frame: three ways -/
theorem take_cases [DecidableEq α] (C : Ctx α) (l : St α) (f : Fr α) (now : Int) :
    ((takeR C l f now).2.1 = false ∧ (takeR C l f now).2.2 = l) ∨
    ((C.fm f = true ∧ f.f = l.wi ∧ f.t = l.me) ∧ Ox.tmB now = true ∧ l.kn ≤ f.e ∧
      ((f.a ≠ l.ep ∧ (takeR C l f now).2.1 = false ∧ (takeR C l f now).2.2 = { learn C l f.e now with ow := true }) ∨
       (f.a = l.ep ∧ f.s = 0 ∧ (takeR C l f now).2.1 = false ∧ (takeR C l f now).2.2 = hit C (learn C l f.e now) f.c) ∨
       (f.a = l.ep ∧ f.s ≠ 0 ∧ takeR C l f now = lay (hit C (learn C l f.e now) f.c) f.s))) := by
  unfold takeR
  by_cases h1 : C.fm f = true ∧ f.f = l.wi ∧ f.t = l.me
  · rw [if_pos h1]
    by_cases h2 : Ox.tmB now = true
    · rw [if_pos h2]
      by_cases h3 : f.e < l.kn
      · rw [if_pos h3]; exact Or.inl ⟨rfl, rfl⟩
      · rw [if_neg h3]
        refine Or.inr ⟨h1, h2, by omega, ?_⟩
        by_cases h4 : f.a = l.ep
        · rw [if_pos h4]
          by_cases h5 : f.s = 0
          · rw [if_pos h5]; exact Or.inr (Or.inl ⟨h4, h5, rfl, rfl⟩)
          · rw [if_neg h5]; exact Or.inr (Or.inr ⟨h4, h5, rfl⟩)
        · rw [if_neg h4]; exact Or.inl ⟨h4, rfl, rfl⟩
    · rw [if_neg h2]; exact Or.inl ⟨rfl, rfl⟩
  · rw [if_neg h1]; exact Or.inl ⟨rfl, rfl⟩
theorem take_looks [DecidableEq α] (C : Ctx α) (l : St α) (f : Fr α) (now : Int) (h1 : C.fm f = true ∧ f.f = l.wi ∧ f.t = l.me) (h2 : Ox.tmB now = true) (h3 : l.kn ≤ f.e) :
    takeR C l f now = if f.a = l.ep then (if f.s = 0 then (0, false, hit C (learn C l f.e now) f.c) else lay (hit C (learn C l f.e now) f.c) f.s) else (200, false, { learn C l f.e now with ow := true }) := by
  unfold takeR
  rw [if_pos h1, if_pos h2, if_neg (by omega)]
theorem take_zero [DecidableEq α] (C : Ctx α) (l : St α) (f : Fr α) (now : Int) (h : (takeR C l f now).2.1 = true) : (takeR C l f now).1 = 0 := by
  rcases take_cases C l f now with ⟨h1, _⟩ | ⟨_, _, _, ⟨_, h1, _⟩ | ⟨_, _, h1, _⟩ | ⟨_, _, h1⟩⟩
  · rw [h1] at h; cases h
  · rw [h1] at h; cases h
  · rw [h1] at h; cases h
  · rw [h1] at h ⊢
    unfold lay at h ⊢
    split
    · rfl
    · rename_i c
      rw [if_neg c] at h; cases h
/- the frames of a tick -/
end
end Go.Proofs.YthfbpilfdfploaaGreat.Lk
namespace Go.Proofs.YthfbpilfdfploaaGreat.Idn

def cmpI (a b : Int) : Int := if a < b then -1 else if b < a then 1 else 0
def orI (a b : Int) : Int := if a = 0 then b else a
def cmpP (x y : Int × Int) : Int := orI (cmpI x.1 y.1) (cmpI x.2 y.2)
def cmpH : List (Int × Int) → List (Int × Int) → Int
  | [], [] => 0
  | [], _ :: _ => -1
  | _ :: _, [] => 1
  | x :: s, y :: t => orI (cmpP x y) (cmpH s t)
def cmpE (r n : Int) (L : List (Int × Int)) (r' n' : Int) (L' : List (Int × Int)) : Int := orI (cmpI r r') (orI (cmpI n n') (cmpH L L'))

theorem cmpI_zero (a b : Int) : cmpI a b = 0 ↔ a = b := by unfold cmpI; split <;> (try split) <;> omega
theorem orI_zero (a b : Int) : orI a b = 0 ↔ a = 0 ∧ b = 0 := by unfold orI; split <;> omega
theorem orI_self_zero (a : Int) : orI 0 a = a := rfl
theorem cmpP_zero (x y : Int × Int) : cmpP x y = 0 ↔ x = y := by
  unfold cmpP; rw [orI_zero, cmpI_zero, cmpI_zero, Prod.ext_iff]
theorem cmpH_zero (s : List (Int × Int)) : ∀ t, cmpH s t = 0 ↔ s = t := by
  induction s with
  | nil => intro t; cases t <;> simp [cmpH]
  | cons x s ih =>
    intro t
    cases t with
    | nil => simp [cmpH]
    | cons y t => rw [cmpH, orI_zero, cmpP_zero, ih, List.cons.injEq]
theorem cmpE_zero (r n : Int) (L : List (Int × Int)) (r' n' : Int) (L' : List (Int × Int)) : cmpE r n L r' n' L' = 0 ↔ r = r' ∧ n = n' ∧ L = L' := by
  unfold cmpE; rw [orI_zero, orI_zero, cmpI_zero, cmpI_zero, cmpH_zero]
end Go.Proofs.YthfbpilfdfploaaGreat.Idn
