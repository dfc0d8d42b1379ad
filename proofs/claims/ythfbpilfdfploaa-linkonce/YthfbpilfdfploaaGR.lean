/- Parts of these proofs, laid together. -/
import Derived.Test.YthfbpilfdfploaaGC
namespace Go.Proofs.Ythfbpilfdfploaa.Lk
open Wn (Wd)
open Ox (It)

/- how many of the numbers from i on, that A gives a note, are in the window, with the note k -/
def cnt (W : Wd) : Int → List Nat → Nat → Nat
  | _, [], _ => 0
  | i, a :: r, k => (if Wn.has W i = true ∧ a = k then 1 else 0) + cnt W (i + 1) r k
theorem cnt_le (W : Wd) (k : Nat) : ∀ (A : List Nat) (i : Int), cnt W i A k ≤ A.count k
  | [], _ => by simp [cnt]
  | a :: r, i => by
    have := cnt_le W k r (i + 1)
    unfold cnt
    rw [List.count_cons]
    by_cases e : a = k
    · have : (a == k) = true := by simpa using e
      rw [if_pos this]
      split <;> omega
    · rw [if_neg (fun h => e h.2)]; omega
theorem cnt_same {V W : Wd} (k : Nat) : ∀ (A : List Nat) (i : Int), (∀ n, i ≤ n → Wn.has V n = Wn.has W n) → cnt V i A k = cnt W i A k
  | [], _, _ => rfl
  | a :: r, i, h => by
    unfold cnt
    rw [h i (Int.le_refl _), cnt_same k r (i + 1) (fun n hn => h n (by omega))]
theorem cnt_none {W : Wd} (k : Nat) : ∀ (A : List Nat) (i : Int), (∀ n, i ≤ n → Wn.has W n = false) → cnt W i A k = 0
  | [], _, _ => rfl
  | a :: r, i, h => by
    unfold cnt
    rw [h i (Int.le_refl _), cnt_none k r (i + 1) (fun n hn => h n (by omega))]
    simp
theorem cnt_snoc {W : Wd} (k a : Nat) : ∀ (A : List Nat) (i : Int), (∀ n, i + A.length ≤ n → Wn.has W n = false) → cnt W i (A ++ [a]) k = cnt W i A k
  | [], i, h => by
    show (if Wn.has W i = true ∧ a = k then 1 else 0) + 0 = 0
    rw [h i (by simp)]; simp
  | b :: r, i, h => by
    show (if Wn.has W i = true ∧ b = k then 1 else 0) + cnt W (i + 1) (r ++ [a]) k = _
    rw [cnt_snoc k a r (i + 1) (fun n hn => h n (by simp; omega))]; rfl
theorem cnt_fresh {V W : Wd} {q : Int} (k b : Nat) (hn : Wn.has W q = false) (hv : ∀ n, Wn.has V n = true ↔ (Wn.has W n = true ∨ n = q)) :
    ∀ (A : List Nat) (i : Int), i ≤ q → A[(q - i).toNat]? = some b → cnt V i A k = cnt W i A k + (if b = k then 1 else 0)
  | [], i, _, h => by simp at h
  | a :: r, i, hi, h => by
    have hsame : ∀ n, n ≠ q → Wn.has V n = Wn.has W n := fun n hq => by
      cases e : Wn.has W n with
      | true => exact (hv n).2 (Or.inl e)
      | false =>
        cases e2 : Wn.has V n with
        | false => rfl
        | true =>
          rcases (hv n).1 e2 with h | h
          · rw [h] at e; cases e
          · exact absurd h hq
    show (if Wn.has V i = true ∧ a = k then 1 else 0) + cnt V (i + 1) r k = (if Wn.has W i = true ∧ a = k then 1 else 0) + cnt W (i + 1) r k + _
    by_cases e : i = q
    · subst e
      rw [show (i - i).toNat = 0 by omega] at h
      simp at h
      subst h
      rw [cnt_same k r (i + 1) (fun n hn => hsame n (by omega)), hn, (hv i).2 (Or.inr rfl)]
      simp; omega
    · rw [hsame i e]
      have h2 : r[(q - (i + 1)).toNat]? = some b := by
        rw [show (q - i).toNat = (q - (i + 1)).toNat + 1 by omega] at h
        simpa using h
      rw [cnt_fresh k b hn hv r (i + 1) (by omega) h2]
      omega

/- the note's number k that A gives to the number q -/
def At (A : List Nat) (q : Int) (k : Nat) : Prop := 1 ≤ q ∧ A[(q - 1).toNat]? = some k
theorem At.le {A : List Nat} {q : Int} {k : Nat} (h : At A q k) : q ≤ A.length := by
  obtain ⟨h1, h2⟩ := h
  have := (List.getElem?_eq_some_iff.1 h2).1
  omega
theorem At.snoc {A : List Nat} {q : Int} {k : Nat} (h : At A q k) (b : Nat) : At (A ++ [b]) q k := by
  have h2 := (List.getElem?_eq_some_iff.1 h.2).1
  exact ⟨h.1, by rw [List.getElem?_append_left h2]; exact h.2⟩
theorem At.last (A : List Nat) (b : Nat) : At (A ++ [b]) ((A.length : Int) + 1) b := by
  refine ⟨by omega, ?_⟩
  rw [show ((A.length : Int) + 1 - 1).toNat = A.length by omega]
  simp

section
variable {α : Type}
def win (y : St α) : Wd := if y.kn = 1 then y.wn else ⟨0, []⟩
theorem has_nil (n : Int) : Wn.has ⟨0, []⟩ n = false := by
  unfold Wn.has
  rw [decide_eq_false (by simp), decide_eq_false (by show ¬ (1 ≤ n ∧ n ≤ 0); omega)]; rfl
/- what is said of one direction: x sends, y takes -/
structure Asg (nt : Int → Nat → α) (s : Int) (x y : St α) (F : List (Fr α)) (p h : Nat → Int) (A : List Nat) : Prop where
  no : x.kn = 0 → A = [] ∧ ∀ i ∈ x.it, ∃ k, k < 8 ∧ i.n = nt s k ∧ 1 ≤ p k
  yes : x.kn = 1 → x.nx = (A.length : Int) + 1 ∧ ∀ i ∈ x.it, ∃ k, At A i.q k ∧ i.n = nt s k
  fr : ∀ f ∈ F, f.f = s → f.a = 1 → f.s ≠ 0 → ∃ k, At A f.s k ∧ f.n = nt s k
  cp : ∀ k, (A.count k : Int) ≤ p k
  len : A.length ≤ 1000000000
  sm : ∀ k ∈ A, k < 8
  wm : Wn.may (win y) = true
  wh : ∀ n, Wn.has (win y) n = true → n ≤ A.length
  ha : ∀ k, h k = (cnt (win y) 1 A k : Int)
structure Dir (C : Ctx α) (nt : Int → Nat → α) (s : Int) (x y : St α) (F : List (Fr α)) (p h : Nat → Int) : Prop where
  me : x.me = s
  wi : x.wi = 1 - s
  ep : x.ep = 1
  kn : x.kn = 0 ∨ x.kn = 1
  may : Ox.May C.ok x.it
  fr : ∀ f ∈ F, f.f = s → f.t = 1 - s ∧ f.e = 1 ∧ (f.s ≠ 0 → ∃ k, k < 8 ∧ f.n = nt s k)
  ex : ∃ A, Asg nt s x y F p h A
theorem Asg.le {nt : Int → Nat → α} {s : Int} {x y : St α} {F : List (Fr α)} {p h : Nat → Int} {A : List Nat} (d : Asg nt s x y F p h A) (k : Nat) : h k ≤ p k := by
  have h1 := d.ha k
  have h2 := cnt_le (win y) k A 1
  have h3 := d.cp k
  omega
theorem Dir.le {C : Ctx α} {nt : Int → Nat → α} {s : Int} {x y : St α} {F : List (Fr α)} {p h : Nat → Int} (d : Dir C nt s x y F p h) (k : Nat) : h k ≤ p k := by
  obtain ⟨A, hA⟩ := d.ex
  exact hA.le k
/- it begins -/
theorem dir_new (C : Ctx α) (nt : Int → Nat → α) (s : Int) (p h : Nat → Int) (hp : ∀ k, p k = 0) (hh : ∀ k, h k = 0) : Dir C nt s (new s (1 - s) 1) (new (1 - s) s 1) [] p h := by
  refine ⟨rfl, rfl, rfl, Or.inl rfl, ⟨by simp [new], List.Pairwise.nil, by simp [new]⟩, by simp, [], ⟨fun _ => ⟨rfl, by simp [new]⟩, fun e => ?_, by simp, fun k => by rw [hp]; simp, by simp, by simp, ?_, fun n hn => ?_, fun k => by rw [hh]; rfl⟩⟩
  · exact absurd (show (0 : Int) = 1 from e) (by omega)
  · show Wn.may (win (new (1 - s) s 1)) = true
    show Wn.may (if (0 : Int) = 1 then _ else ⟨0, []⟩) = true
    rw [if_neg (by decide)]; decide
  · have e : win (new (1 - s) s 1 : St α) = ⟨0, []⟩ := by unfold win new; simp
    rw [e, has_nil] at hn; cases hn
/- what is done to y alone, but for its window -/
theorem Dir.recv {C : Ctx α} {nt : Int → Nat → α} {s : Int} {x y y2 : St α} {F : List (Fr α)} {p h : Nat → Int} (d : Dir C nt s x y F p h) (e : win y2 = win y) : Dir C nt s x y2 F p h := by
  obtain ⟨d1, d2, d3, d4, d5, d6, A, a1, a2, a3, a4, a5, a6, a7, a8, a9⟩ := d
  exact ⟨d1, d2, d3, d4, d5, d6, A, a1, a2, a3, a4, a5, a6, by rw [e]; exact a7, by rw [e]; exact a8, by rw [e]; exact a9⟩
/- frames of the other side come in, frames are lost -/
theorem Dir.frames {C : Ctx α} {nt : Int → Nat → α} {s : Int} {x y : St α} {F G : List (Fr α)} {p h : Nat → Int} (d : Dir C nt s x y F p h) (hG : ∀ f ∈ G, f.f = s → f ∈ F) : Dir C nt s x y G p h := by
  obtain ⟨d1, d2, d3, d4, d5, d6, A, a1, a2, a3, a4, a5, a6, a7, a8, a9⟩ := d
  exact ⟨d1, d2, d3, d4, d5, fun f hf hs => d6 f (hG f hf hs) hs, A, a1, a2, fun f hf hs => a3 f (hG f hf hs) hs, a4, a5, a6, a7, a8, a9⟩
theorem next_snoc {l : List (It α)} {x : It α} {nx : Int} (h : nx ≤ x.q) : Ox.next (l ++ [x]) nx = x.q + 1 := by
  unfold Ox.next
  rw [List.getLast?_append]
  simp [h]
theorem ks_of {nt : Int → Nat → α} {s : Int} {p : Nat → Int} : ∀ (l : List (It α)), (∀ i ∈ l, ∃ k, k < 8 ∧ i.n = nt s k ∧ 1 ≤ p k) → Ox.Apart l → (∀ j, 0 ≤ p j) →
    ∃ A : List Nat, A.length = l.length ∧ (∀ i (h : i < l.length) k, A[i]? = some k → l[i].n = nt s k) ∧ (∀ k ∈ A, k < 8) ∧ ∀ k, (A.count k : Int) ≤ p k ∧ (k ∈ A → ∃ i ∈ l, i.n = nt s k)
  | [], _, _, hp => ⟨[], rfl, fun i h => absurd h (by simp), by simp, fun k => ⟨by simpa using hp k, by simp⟩⟩
  | x :: r, hk, hap, hp => by
    obtain ⟨p1, p2⟩ := List.pairwise_cons.1 hap
    obtain ⟨A, e1, e2, e3, e4⟩ := ks_of r (fun i hi => hk i (List.mem_cons_of_mem _ hi)) p2 hp
    obtain ⟨k, k1, k2, k3⟩ := hk x (by simp)
    have hnot : k ∉ A := fun h => by
      obtain ⟨i, hi, e⟩ := (e4 k).2 h
      exact (p1 i hi).2 (k2.trans e.symm)
    refine ⟨k :: A, by simp [e1], fun i h j hj => ?_, fun j hj => ?_, fun j => ⟨?_, fun hj => ?_⟩⟩
    · cases i with
      | zero => simp at hj; subst hj; exact k2
      | succ i => exact e2 i (by simpa using h) j (by simpa using hj)
    · rcases List.mem_cons.1 hj with rfl | hj
      · exact k1
      · exact e3 j hj
    · rw [List.count_cons]
      by_cases e : k = j
      · subst e
        rw [List.count_eq_zero_of_not_mem hnot]; simp; exact k3
      · have e5 : (k == j) = false := by rw [beq_eq_false_iff_ne]; exact e
        have := (e4 j).1
        rw [e5]; simpa using this
    · rcases List.mem_cons.1 hj with rfl | hj
      · exact ⟨x, by simp, k2⟩
      · obtain ⟨i, hi, e⟩ := (e4 j).2 hj
        exact ⟨i, List.mem_cons_of_mem _ hi, e⟩
theorem Dir.more {C : Ctx α} {nt : Int → Nat → α} {s : Int} {x x2 y : St α} {F : List (Fr α)} {p h : Nat → Int} (d : Dir C nt s x y F p h) (e1 : x2.me = x.me) (e2 : x2.wi = x.wi) (e3 : x2.ep = x.ep) (e4 : x2.kn = x.kn) (e5 : x2.it = x.it) (e6 : x2.nx = x.nx) : Dir C nt s x2 y F p h := by
  obtain ⟨d1, d2, d3, d4, d5, d6, A, a1, a2, a3, a4, a5, a6, a7, a8, a9⟩ := d
  exact ⟨e1.trans d1, e2.trans d2, e3.trans d3, by rw [e4]; exact d4, by rw [e5]; exact d5, d6, A, by rw [e4, e5]; exact a1, by rw [e4, e5, e6]; exact a2, a3, a4, a5, a6, a7, a8, a9⟩
variable [DecidableEq α]
/- one note is sent that does not wait -/
theorem push_one {ok : α → Bool} {l : List (It α)} {nx now : Int} {n : α} (hm : Ox.May ok l) (hw : Ox.hasB ok l n = false) (he : (Ox.push ok l nx now [n]).2 = 0) :
    Ox.tmB now = true ∧ 1 ≤ nx ∧ Ox.next l nx ≤ 1000000000 ∧ (Ox.push ok l nx now [n]).1 = l ++ [⟨Ox.next l nx, now, 0, n⟩] ∧ Ox.May ok (l ++ [⟨Ox.next l nx, now, 0, n⟩]) := by
  have hb := (Ox.mayB_iff ok l).2 hm
  have ha : Ox.among l n = false := by unfold Ox.hasB at hw; rw [hb, Bool.true_and] at hw; exact hw
  unfold Ox.push at he ⊢
  split at he
  · rename_i c
    rw [if_pos c]
    unfold Ox.pushF at he ⊢
    split at he
    · rename_i hn
      rw [if_neg (by rw [ha]; simp)] at he
      split at he
      · exact absurd (show (190 : Int) = 0 from he) (by decide)
      · rename_i hl
        split at he
        · exact absurd (show (180 : Int) = 0 from he) (by decide)
        · rename_i hx
          rw [if_pos hn, if_neg (by rw [ha]; simp), if_neg hl, if_neg hx]
          exact ⟨c.2.1, c.2.2.1, by omega, rfl, Ox.may_snoc hm hn ha hl (by omega) c.2.2.1 c.2.1⟩
    · exact absurd (show (130 : Int) = 0 from he) (by decide)
  · exact absurd (show (2 : Int) = 0 from he) (by decide)
theorem Dir.send {C : Ctx α} {nt : Int → Nat → α} {s : Int} {x y : St α} {F : List (Fr α)} {p h : Nat → Int} (d : Dir C nt s x y F p h) {k : Nat} (hk : k < 8) {now : Int}
    (hw : Ox.hasB C.ok x.it (nt s k) = false) (he : sendE C x now [nt s k] = 0) : Dir C nt s (sendS C x now [nt s k]) y F (fun j => if j = k then p j + 1 else p j) h := by
  unfold sendS
  rw [if_pos he]
  unfold sendE at he
  split at he
  · obtain ⟨d1, d2, d3, d4, d5, d6, A, a1, a2, a3, a4, a5, a6, a7, a8, a9⟩ := d
    obtain ⟨q1, q2, q3, q4, q5⟩ := push_one d5 hw he
    rw [q4]
    have hge := Ox.next_ge (l := x.it) x.nx
    have hpp : ∀ j, p j ≤ (if j = k then p j + 1 else p j) := fun j => by split <;> omega
    rcases d4 with h0 | h1
    · obtain ⟨hA, hi⟩ := a1 h0
      subst hA
      refine ⟨d1, d2, d3, Or.inl h0, q5, d6, [], ⟨fun _ => ⟨rfl, fun i hm => ?_⟩, fun e => absurd (show x.kn = 1 from e) (by omega), a3, fun j => Int.le_trans (a4 j) (hpp j), a5, a6, a7, a8, a9⟩⟩
      rcases List.mem_append.1 hm with hm | hm
      · obtain ⟨j, j1, j2, j3⟩ := hi i hm
        exact ⟨j, j1, j2, Int.le_trans j3 (hpp j)⟩
      · rw [List.mem_singleton] at hm
        subst hm
        have hp0 := a4 k
        exact ⟨k, hk, rfl, by show 1 ≤ (if k = k then p k + 1 else p k); rw [if_pos rfl]; simp at hp0; omega⟩
    · obtain ⟨hx, hi⟩ := a2 h1
      have hnx : Ox.next x.it x.nx = x.nx := by
        unfold Ox.next
        cases e : x.it.getLast? with
        | none => rfl
        | some z =>
          obtain ⟨j, j1, _⟩ := hi z (List.mem_of_getLast? e)
          have := j1.le
          simp only
          rw [if_neg (by omega)]
      rw [hnx] at q3 q5 ⊢
      refine ⟨d1, d2, d3, Or.inr h1, q5, d6, A ++ [k], ⟨fun e => absurd (show x.kn = 0 from e) (by omega), fun _ => ⟨?_, fun i hm => ?_⟩, fun f hf hs ha hn => ?_, fun j => ?_, ?_, fun j hj => ?_, a7, fun n hn => ?_, fun j => ?_⟩⟩
      · show Ox.next (x.it ++ [⟨x.nx, now, 0, nt s k⟩]) x.nx = ((A ++ [k]).length : Int) + 1
        rw [next_snoc (by show x.nx ≤ x.nx; omega), List.length_append]
        show x.nx + 1 = _
        simp; omega
      · rcases List.mem_append.1 hm with hm | hm
        · obtain ⟨j, j1, j2⟩ := hi i hm
          exact ⟨j, j1.snoc k, j2⟩
        · rw [List.mem_singleton] at hm
          subst hm
          exact ⟨k, by show At (A ++ [k]) x.nx k; rw [hx]; exact At.last A k, rfl⟩
      · obtain ⟨j, j1, j2⟩ := a3 f hf hs ha hn
        exact ⟨j, j1.snoc k, j2⟩
      · have h4 := a4 j
        rw [List.count_append, List.count_singleton]
        by_cases e : j = k
        · subst e; simp; omega
        · have e2 : (k == j) = false := by rw [beq_eq_false_iff_ne]; exact fun h => e h.symm
          rw [e2, if_neg e]; simp; omega
      · rw [List.length_append]; simp; omega
      · rcases List.mem_append.1 hj with hj | hj
        · exact a6 j hj
        · rw [List.mem_singleton] at hj; omega
      · have := a8 n hn
        rw [List.length_append]; simp; omega
      · rw [a9 j, cnt_snoc j k A 1 (fun n hn => ?_)]
        cases e : Wn.has (win y) n with
        | false => rfl
        | true => have := a8 n e; omega
  · exact absurd he (by decide)
/- a tick -/
theorem Dir.tick {C : Ctx α} {nt : Int → Nat → α} {s : Int} {x y : St α} {F : List (Fr α)} {p h : Nat → Int} (d : Dir C nt s x y F p h) (now : Int) :
    Dir C nt s (tickS C x now) y (F ++ tickF C x now) p h := by
  obtain ⟨d1, d2, d3, d4, d5, d6, A, a1, a2, a3, a4, a5, a6, a7, a8, a9⟩ := d
  have hb := (Ox.mayB_iff C.ok x.it).2 d5
  have hns : ∀ i ∈ x.it, ∃ k, k < 8 ∧ i.n = nt s k := fun i hi => by
    rcases d4 with e | e
    · obtain ⟨k, k1, k2, _⟩ := (a1 e).2 i hi
      exact ⟨k, k1, k2⟩
    · obtain ⟨k, k1, k2⟩ := (a2 e).2 i hi
      exact ⟨k, a6 k (List.mem_of_getElem? k1.2), k2⟩
  by_cases ht : Ox.tmB now = true
  · have hL : Ox.dueL C.ok x.it now = x.it.map (Ox.tick now) := by unfold Ox.dueL; rw [if_pos ⟨hb, ht⟩]
    have hS : tickS C x now = { x with it := x.it.map (Ox.tick now), ow := false } := by unfold tickS; rw [if_pos ht, hL]
    have hF : ∀ g ∈ tickF C x now, g.f = s ∧ g.t = 1 - s ∧ g.e = 1 ∧ g.a = x.kn ∧ (g.s ≠ 0 → ∃ i ∈ x.it, g.s = i.q ∧ g.n = i.n) := fun g hg => by
      obtain ⟨_, ⟨rfl, _⟩ | ⟨z, hz, rfl⟩⟩ := tick_mem hg
      · exact ⟨d1, d2, d3, rfl, fun h => absurd rfl h⟩
      · obtain ⟨i, hi, _, rfl⟩ := due_mem hz
        exact ⟨d1, d2, d3, rfl, fun _ => ⟨i, hi, Ox.tick_q now i, Ox.tick_n now i⟩⟩
    rw [hS]
    refine ⟨d1, d2, d3, d4, Ox.due_may d5 ht, fun f hf hs => ?_, A, ⟨fun e => ⟨(a1 e).1, fun i hi => ?_⟩, fun e => ⟨(a2 e).1, fun i hi => ?_⟩, fun f hf hs ha hn => ?_, a4, a5, a6, a7, a8, a9⟩⟩
    · rcases List.mem_append.1 hf with hf | hf
      · exact d6 f hf hs
      · obtain ⟨_, g2, g3, _, g5⟩ := hF f hf
        exact ⟨g2, g3, fun hn => by obtain ⟨i, hi, _, e⟩ := g5 hn; obtain ⟨k, k1, k2⟩ := hns i hi; exact ⟨k, k1, e.trans k2⟩⟩
    · obtain ⟨j, hj, rfl⟩ := List.mem_map.1 hi
      obtain ⟨k, k1, k2, k3⟩ := (a1 e).2 j hj
      exact ⟨k, k1, (Ox.tick_n now j).trans k2, k3⟩
    · obtain ⟨j, hj, rfl⟩ := List.mem_map.1 hi
      obtain ⟨k, k1, k2⟩ := (a2 e).2 j hj
      exact ⟨k, by rw [Ox.tick_q]; exact k1, (Ox.tick_n now j).trans k2⟩
    · rcases List.mem_append.1 hf with hf | hf
      · exact a3 f hf hs ha hn
      · obtain ⟨_, _, _, g4, g5⟩ := hF f hf
        obtain ⟨i, hi, e1, e2⟩ := g5 hn
        obtain ⟨k, k1, k2⟩ := (a2 (by rw [← g4]; exact ha)).2 i hi
        exact ⟨k, by rw [e1]; exact k1, e2.trans k2⟩
  · have hS : tickS C x now = x := by unfold tickS; rw [if_neg ht]
    have hF : tickF C x now = [] := by unfold tickF; rw [if_neg ht]
    rw [hS, hF, List.append_nil]
    exact ⟨d1, d2, d3, d4, d5, d6, A, a1, a2, a3, a4, a5, a6, a7, a8, a9⟩
/- what y learns and what is answered, y as the one that sends -/
theorem anew_of {ok : α → Bool} {l : List (It α)} {now : Int} (hm : Ox.May ok l) (ht : Ox.tmB now = true) : Ox.anew ok l now = Ox.num now 1 l := by
  unfold Ox.anew; rw [if_pos ⟨(Ox.mayB_iff ok l).2 hm, ht⟩]
theorem ans_of {ok : α → Bool} {l : List (It α)} {c : Int} (hm : Ox.May ok l) : Ox.ans ok l c = l.filter (fun x => decide (c < x.q)) := by
  unfold Ox.ans; rw [if_pos ((Ox.mayB_iff ok l).2 hm)]
theorem Dir.learn {C : Ctx α} {nt : Int → Nat → α} {s : Int} {x y : St α} {F : List (Fr α)} {p h : Nat → Int} (d : Dir C nt s x y F p h) {now : Int} (ht : Ox.tmB now = true) :
    Dir C nt s (learn C x 1 now) y F p h ∧ (learn C x 1 now).kn = 1 := by
  unfold Lk.learn
  obtain ⟨d1, d2, d3, d4, d5, d6, A, a1, a2, a3, a4, a5, a6, a7, a8, a9⟩ := d
  by_cases c : x.kn < 1
  · rw [if_pos c]
    have h0 : x.kn = 0 := by rcases d4 with e | e <;> omega
    obtain ⟨hA, hi⟩ := a1 h0
    subst hA
    obtain ⟨B, b1, b2, b3, b4⟩ := ks_of x.it hi d5.ap (fun j => by simpa using a4 j)
    have hL := anew_of (now := now) d5 ht
    have hlen : (Ox.num now 1 x.it).length = x.it.length := Ox.num_len now x.it 1
    have hw : ∀ n, Wn.has (win y) n = false := fun n => by
      cases e : Wn.has (win y) n with
      | false => rfl
      | true =>
        have h8 := a8 n e
        have := Wn.has_le a7 e
        simp at h8
        omega
    refine ⟨⟨d1, d2, d3, Or.inr rfl, by rw [hL]; exact Ox.anew_may d5 ht, d6, B, ⟨fun e => absurd (show (1 : Int) = 0 from e) (by omega), fun _ => ⟨?_, fun i hm => ?_⟩, fun f hf hs ha hn => ?_, fun k => (b4 k).1, ?_, b3, a7, fun n hn => ?_, fun k => ?_⟩⟩, rfl⟩
    · show ((Ox.anew C.ok x.it now).length : Int) + 1 = (B.length : Int) + 1
      rw [hL, hlen, b1]
    · rw [hL] at hm
      obtain ⟨j, hj, rfl⟩ := List.getElem_of_mem hm
      have hj2 : j < x.it.length := by rw [hlen] at hj; exact hj
      rw [Ox.num_at now x.it 1 j hj2]
      have hB : j < B.length := by omega
      refine ⟨B[j], ⟨by show (1 : Int) ≤ 1 + (j : Int); omega, ?_⟩, b2 j hj2 _ (List.getElem?_eq_getElem hB)⟩
      show B[(1 + (j : Int) - 1).toNat]? = _
      rw [show (1 + (j : Int) - 1).toNat = j by omega, List.getElem?_eq_getElem hB]
    · obtain ⟨k, k1, _⟩ := a3 f hf hs ha hn
      have := k1.le
      have := k1.1
      simp at *
      omega
    · have := d5.len
      omega
    · rw [hw n] at hn; cases hn
    · rw [a9 k]
      show ((cnt (win y) 1 [] k : Nat) : Int) = _
      rw [cnt_none k B 1 (fun n _ => hw n)]; rfl
  · rw [if_neg c]
    have h1 : x.kn = 1 := by rcases d4 with e | e <;> omega
    exact ⟨⟨d1, d2, d3, d4, d5, d6, A, a1, a2, a3, a4, a5, a6, a7, a8, a9⟩, h1⟩
theorem Dir.hit {C : Ctx α} {nt : Int → Nat → α} {s : Int} {x y : St α} {F : List (Fr α)} {p h : Nat → Int} (d : Dir C nt s x y F p h) (c : Int) : Dir C nt s (hit C x c) y F p h := by
  obtain ⟨d1, d2, d3, d4, d5, d6, A, a1, a2, a3, a4, a5, a6, a7, a8, a9⟩ := d
  unfold Lk.hit
  rw [ans_of d5]
  exact ⟨d1, d2, d3, d4, Ox.ans_may d5 c, d6, A, fun e => ⟨(a1 e).1, fun i hi => (a1 e).2 i (List.mem_filter.1 hi).1⟩, fun e => ⟨(a2 e).1, fun i hi => (a2 e).2 i (List.mem_filter.1 hi).1⟩, a3, a4, a5, a6, a7, a8, a9⟩
end
end Go.Proofs.Ythfbpilfdfploaa.Lk
namespace Go.Proofs.Ythfbpilfdfploaa.Lk
open Wn (Wd)
open Ox (It)

/- what Take of a window answers: three ways -/
theorem wtake {W : Wd} (hm : Wn.may W = true) (q : Int) :
    ((Wn.take W q).2.2 ≠ 0 ∧ (Wn.take W q).2.1 = false ∧ (q < 1 ∨ 1000000000 < q ∨ W.low + 16 < q)) ∨
    ((Wn.take W q).2.2 = 0 ∧ (Wn.take W q).2.1 = false ∧ (Wn.take W q).1 = W ∧ Wn.has W q = true) ∨
    ((Wn.take W q).2.2 = 0 ∧ (Wn.take W q).2.1 = true ∧ Wn.has W q = false ∧ Wn.Took W q (Wn.take W q).1 ∧ 1 ≤ q ∧ q ≤ 1000000000 ∧ q ≤ W.low + 16) := by
  unfold Wn.take
  by_cases c : Wn.may W = true ∧ 1 ≤ q ∧ q ≤ 1000000000
  · rw [if_pos c]
    by_cases f : W.low + 16 < q
    · rw [if_pos f]; exact Or.inl ⟨by decide, rfl, Or.inr (Or.inr f)⟩
    · rw [if_neg f]
      by_cases t : Wn.has W q = true
      · rw [if_pos t]; exact Or.inr (Or.inl ⟨rfl, rfl, rfl, t⟩)
      · rw [if_neg t]
        exact Or.inr (Or.inr ⟨rfl, rfl, by simpa using t, Wn.more_took hm c.2.1 (show q ≤ W.low + 16 by omega), c.2.1, c.2.2, show q ≤ W.low + 16 by omega⟩)
  · rw [if_neg c]
    refine Or.inl ⟨by decide, rfl, ?_⟩
    by_cases h1 : q < 1
    · exact Or.inl h1
    · by_cases h2 : 1000000000 < q
      · exact Or.inr (Or.inl h2)
      · exact absurd ⟨hm, by omega, by omega⟩ c
/- it may be afterwards, where all its numbers are small -/
theorem took_ok {W V : Wd} {q B : Int} (hm : Wn.may W = true) (h2 : q ≤ W.low + 16) (ht : Wn.Took W q V) (hB : B ≤ 1000000000) (hq : q ≤ B) (hw : ∀ n, Wn.has W n = true → n ≤ B) :
    Wn.may V = true ∧ ∀ n, Wn.has V n = true → n ≤ B := by
  have hv : ∀ n, Wn.has V n = true → n ≤ B := fun n hn => by
    rcases (ht.has n).1 hn with h | h
    · exact hw n h
    · omega
  refine ⟨Wn.took_may hm h2 ht ?_, hv⟩
  by_cases z : 1 ≤ V.low
  · have := hv _ ((Wn.has_iff _ _).2 (Or.inr ⟨z, Int.le_refl _⟩))
    omega
  · omega
section
variable {α : Type} [DecidableEq α]
theorem win_learn {C : Ctx α} {y : St α} (now : Int) (_h : y.kn = 0 ∨ y.kn = 1) : win (learn C y 1 now) = win y := by
  unfold win learn
  by_cases c : y.kn < 1
  · rw [if_pos c]
    rw [if_pos rfl, if_neg (show ¬ y.kn = 1 by omega)]
  · rw [if_neg c]
theorem dir_take {C : Ctx α} {nt : Int → Nat → α} {s : Int} {x y : St α} {F : List (Fr α)} {p h p2 h2 : Nat → Int} (d : Dir C nt s x y F p h) (d2 : Dir C nt (1 - s) y x F p2 h2) {f : Fr α} (hf : f ∈ F) (hs : f.f = s) (now : Int) :
    ∃ k, ((takeR C y f now).2.1 = true → k < 8 ∧ f.n = nt s k) ∧ Dir C nt s x (takeR C y f now).2.2 F p (fun j => if (takeR C y f now).2.1 = true ∧ j = k then h j + 1 else h j) ∧ Dir C nt (1 - s) (takeR C y f now).2.2 x F p2 h2 := by
  obtain ⟨_, he, hn⟩ := d.fr f hf hs
  have same : ∀ (y2 : St α), (takeR C y f now).2.1 = false → (takeR C y f now).2.2 = y2 → win y2 = win y → Dir C nt (1 - s) y2 x F p2 h2 →
      ∃ k, ((takeR C y f now).2.1 = true → k < 8 ∧ f.n = nt s k) ∧ Dir C nt s x (takeR C y f now).2.2 F p (fun j => if (takeR C y f now).2.1 = true ∧ j = k then h j + 1 else h j) ∧ Dir C nt (1 - s) (takeR C y f now).2.2 x F p2 h2 := by
    intro y2 e1 e2 e3 e4
    rw [e1, e2]
    refine ⟨0, fun c => by simp at c, ?_, e4⟩
    have : (fun j => if false = true ∧ j = 0 then h j + 1 else h j) = h := by funext j; simp
    rw [this]
    exact d.recv e3
  rcases take_cases C y f now with ⟨h1, h3⟩ | ⟨_, ht, _, hc⟩
  · exact same y h1 h3 rfl d2
  · rw [he] at hc
    obtain ⟨dl, hk1⟩ := d2.learn ht
    have hwl := win_learn (C := C) (y := y) now d2.kn
    rcases hc with ⟨_, h1, h3⟩ | ⟨_, _, h1, h3⟩ | ⟨ha, hsn, h3⟩
    · exact same _ h1 h3 hwl (dl.more rfl rfl rfl rfl rfl rfl)
    · exact same _ h1 h3 hwl (dl.hit f.c)
    · have dh := dl.hit f.c
      have hw3 : win (hit C (learn C y 1 now) f.c) = (hit C (learn C y 1 now) f.c).wn := by
        unfold win
        rw [if_pos (show (hit C (learn C y 1 now) f.c).kn = 1 from hk1)]
      have hwin : (hit C (learn C y 1 now) f.c).wn = win y := by rw [← hw3]; exact hwl
      obtain ⟨A, hA⟩ := d.ex
      have hm : Wn.may (hit C (learn C y 1 now) f.c).wn = true := by rw [hwin]; exact hA.wm
      have hk3 : (hit C (learn C y 1 now) f.c).kn = 1 := hk1
      generalize hit C (learn C y 1 now) f.c = z at *
      unfold lay at h3
      rcases wtake hm f.s with ⟨w1, w2, _⟩ | ⟨w1, w2, w3, _⟩ | ⟨w1, w2, w3, w4, w5, w6, w7⟩
      · rw [if_neg w1] at h3
        refine same { z with ow := true } (by rw [h3]) (by rw [h3]) ?_ (dh.more rfl rfl rfl rfl rfl rfl)
        show (if z.kn = 1 then z.wn else ⟨0, []⟩) = win y
        rw [if_pos hk3]; exact hwin
      · rw [if_pos w1, w2, w3] at h3
        refine same { z with wn := z.wn, ow := true } (by rw [h3]) (by rw [h3]) ?_ (dh.more rfl rfl rfl rfl rfl rfl)
        show (if z.kn = 1 then z.wn else ⟨0, []⟩) = win y
        rw [if_pos hk3]; exact hwin
      · rw [if_pos w1, w2] at h3
        rw [h3]
        obtain ⟨k, k1, k2⟩ := hA.fr f hf hs (ha.trans d2.ep) hsn
        have hk8 : k < 8 := hA.sm k (List.mem_of_getElem? k1.2)
        have hle := k1.le
        have hlen := hA.len
        rw [hwin] at w3 w4 w7
        have hno := took_ok (B := (A.length : Int)) hA.wm w7 w4 (by omega) hle hA.wh
        have hwz : win { z with wn := (Wn.take (win y) f.s).1, ow := true } = (Wn.take (win y) f.s).1 := by
          unfold win
          rw [if_pos (show z.kn = 1 from hk3)]
        rw [hwin]
        refine ⟨k, fun _ => ⟨hk8, k2⟩, ⟨d.me, d.wi, d.ep, d.kn, d.may, d.fr, A, hA.no, hA.yes, hA.fr, hA.cp, hA.len, hA.sm, ?_, ?_, ?_⟩, dh.more rfl rfl rfl rfl rfl rfl⟩
        · show Wn.may (win { z with wn := (Wn.take (win y) f.s).1, ow := true }) = true
          rw [hwz]
          exact hno.1
        · intro n hn2
          have hn3 : Wn.has (win { z with wn := (Wn.take (win y) f.s).1, ow := true }) n = true := hn2
          rw [hwz] at hn3
          exact hno.2 n hn3
        · intro j
          show (if true = true ∧ j = k then h j + 1 else h j) = ((cnt (win { z with wn := (Wn.take (win y) f.s).1, ow := true }) 1 A j : Nat) : Int)
          rw [hwz]
          rw [cnt_fresh j k w3 w4.has A 1 w5 k1.2, hA.ha j]
          by_cases e : j = k
          · rw [if_pos ⟨rfl, e⟩, if_pos e.symm]; simp
          · rw [if_neg (fun c => e c.2), if_neg (fun c => e c.symm)]; simp
end
end Go.Proofs.Ythfbpilfdfploaa.Lk
namespace Go.Proofs.Ythfbpilfdfploaa.Lk
open Wn (Wd)
open Ox (It)

section
variable {α : Type}
/- the numbers of what is on its way: one behind the other, from a on -/
def Row : Int → List (It α) → Prop
  | _, [] => True
  | a, x :: r => x.q = a + 1 ∧ Row (a + 1) r
theorem Row.mem : ∀ {l : List (It α)} {a : Int}, Row a l → ∀ i ∈ l, a < i.q ∧ i.q ≤ a + l.length
  | [], _, _, i, hi => by cases hi
  | x :: r, a, ⟨h1, h2⟩, i, hi => by
    rcases List.mem_cons.1 hi with rfl | hi
    · rw [List.length_cons]; omega
    · have := Row.mem h2 i hi
      rw [List.length_cons]; omega
theorem Row.all : ∀ {l : List (It α)} {a : Int}, Row a l → ∀ n, a < n → n ≤ a + l.length → ∃ i ∈ l, i.q = n
  | [], a, _, n, h1, h2 => by simp at h2; omega
  | x :: r, a, ⟨e, h⟩, n, h1, h2 => by
    by_cases c : n = a + 1
    · exact ⟨x, by simp, by omega⟩
    · rw [List.length_cons] at h2
      obtain ⟨i, hi, hn⟩ := Row.all h n (by omega) (by omega)
      exact ⟨i, List.mem_cons_of_mem _ hi, hn⟩
theorem Row.snoc : ∀ {l : List (It α)} {a : Int}, Row a l → ∀ x : It α, x.q = a + l.length + 1 → Row a (l ++ [x])
  | [], a, _, x, h => ⟨by simpa using h, trivial⟩
  | y :: r, a, ⟨e, h⟩, x, hx => ⟨e, Row.snoc h x (by rw [hx, List.length_cons]; omega)⟩
theorem Row.map {g : It α → It α} (hg : ∀ i, (g i).q = i.q) : ∀ {l : List (It α)} {a : Int}, Row a l → Row a (l.map g)
  | [], _, _ => trivial
  | x :: _, _, ⟨e, h⟩ => ⟨(hg x).trans e, Row.map hg h⟩
theorem Row.num (now : Int) : ∀ (l : List (It α)) (a : Int), Row a (Ox.num now (a + 1) l)
  | [], _ => trivial
  | _ :: r, a => ⟨rfl, Row.num now r (a + 1)⟩
theorem Row.filter : ∀ {l : List (It α)} {a : Int} (c : Int), Row a l → ∃ b, Row b (l.filter (fun x => decide (c < x.q))) ∧ b + (l.filter (fun x => decide (c < x.q))).length = a + l.length ∧ a ≤ b ∧ (b = a ∨ b ≤ c)
  | [], a, c, _ => ⟨a, trivial, rfl, Int.le_refl _, Or.inl rfl⟩
  | x :: r, a, c, ⟨e, h⟩ => by
    by_cases hc : c < x.q
    · have hall : (x :: r).filter (fun x => decide (c < x.q)) = x :: r := by
        rw [List.filter_eq_self]
        intro i hi
        rcases List.mem_cons.1 hi with rfl | hi
        · exact decide_eq_true hc
        · have := (Row.mem h i hi).1
          exact decide_eq_true (by omega)
      rw [hall]
      exact ⟨a, ⟨e, h⟩, rfl, Int.le_refl _, Or.inl rfl⟩
    · obtain ⟨b, b1, b2, b3, b4⟩ := Row.filter c h
      rw [List.filter_cons_of_neg (by simpa using hc)]
      refine ⟨b, b1, by rw [b2, List.length_cons]; omega, by omega, Or.inr ?_⟩
      rcases b4 with b4 | b4 <;> omega
theorem Row.next {l : List (It α)} {a nx : Int} (h : Row a l) (hn : nx = a + l.length + 1) : Ox.next l nx = nx := by
  unfold Ox.next
  cases e : l.getLast? with
  | none => rfl
  | some z =>
    have := (Row.mem h z (List.mem_of_getLast? e)).2
    simp only
    rw [if_neg (by omega)]
/- up to where y tells x that it has all -/
def lev (x y : St α) : Int := if y.kn = x.ep then y.wn.low else 0
structure Fine (C : Ctx α) (nt : Int → Nat → α) (B : Int) (s : Int) (x y : St α) (f : Fr α) : Prop where
  t : f.t = 1 - s
  e1 : 1 ≤ f.e
  e2 : f.e ≤ x.ep
  a1 : 0 ≤ f.a
  a2 : f.a ≤ y.ep
  s1 : 0 ≤ f.s
  s2 : f.s ≤ B
  c1 : 0 ≤ f.c
  c2 : f.c ≤ B
  n0 : f.s = 0 → f.n = C.z
  n1 : f.s ≠ 0 → ∃ k, k < 8 ∧ f.n = nt s k
  se : f.e = x.ep → f.a = y.ep → x.kn = y.ep ∧ f.c ≤ x.wn.low
structure Side (C : Ctx α) (nt : Int → Nat → α) (now B : Int) (s : Int) (x y : St α) (F : List (Fr α)) : Prop where
  me : x.me = s
  wi : x.wi = 1 - s
  e1 : 1 ≤ x.ep
  e2 : x.ep ≤ B
  k0 : 0 ≤ x.kn
  k1 : x.kn ≤ y.ep
  may : Ox.May C.ok x.it
  nts : ∀ i ∈ x.it, ∃ k, k < 8 ∧ i.n = nt s k
  due : ∀ i ∈ x.it, i.d ≤ now + 8
  row : ∃ a, 0 ≤ a ∧ Row a x.it ∧ x.nx = a + x.it.length + 1 ∧ (x.kn = y.ep → a ≤ lev x y)
  nb : x.nx ≤ B
  b14 : 14 ≤ B
  wm : Wn.may x.wn = true
  wh : ∀ n, Wn.has x.wn n = true → n ≤ B
  fr : ∀ f ∈ F, f.f = s → Fine C nt B s x y f
variable {C : Ctx α} {nt : Int → Nat → α} {now B s : Int} {x y : St α} {F : List (Fr α)}
theorem Fine.mono {f : Fr α} (h : Fine C nt B s x y f) {B2 : Int} (hb : B ≤ B2) : Fine C nt B2 s x y f :=
  ⟨h.t, h.e1, h.e2, h.a1, h.a2, h.s1, by have := h.s2; omega, h.c1, by have := h.c2; omega, h.n0, h.n1, h.se⟩
theorem Side.mono (h : Side C nt now B s x y F) {now2 B2 : Int} (hn : now ≤ now2) (hb : B ≤ B2) : Side C nt now2 B2 s x y F :=
  ⟨h.me, h.wi, h.e1, by have := h.e2; omega, h.k0, h.k1, h.may, h.nts, fun i hi => by have := h.due i hi; omega, h.row, by have := h.nb; omega, by have := h.b14; omega, h.wm, fun n hn => by have := h.wh n hn; omega, fun f hf hs => (h.fr f hf hs).mono hb⟩
theorem Side.frames (h : Side C nt now B s x y F) {G : List (Fr α)} (hG : ∀ f ∈ G, f.f = s → f ∈ F) : Side C nt now B s x y G :=
  ⟨h.me, h.wi, h.e1, h.e2, h.k0, h.k1, h.may, h.nts, h.due, h.row, h.nb, h.b14, h.wm, h.wh, fun f hf hs => h.fr f (hG f hf hs) hs⟩
/- what is done to y -/
theorem Side.recv (h : Side C nt now B s x y F) {y2 : St α} (e : y2.ep = y.ep) (hl : x.kn = y.ep → lev x y ≤ lev x y2) : Side C nt now B s x y2 F := by
  obtain ⟨m1, m2, m3, m4, m5, m6, m7, m8, m9, ⟨a, a1, a2, a3, a4⟩, m11, m12, m13, m14, m15⟩ := h
  refine ⟨m1, m2, m3, m4, m5, by rw [e]; exact m6, m7, m8, m9, ⟨a, a1, a2, a3, fun c => ?_⟩, m11, m12, m13, m14, fun f hf hs => ?_⟩
  · rw [e] at c; exact Int.le_trans (a4 c) (hl c)
  · obtain ⟨f1, f2, f3, f4, f5, f6, f7, f8, f9, f10, f11, f12⟩ := m15 f hf hs
    exact ⟨f1, f2, f3, f4, by rw [e]; exact f5, f6, f7, f8, f9, f10, f11, by rw [e]; exact f12⟩
theorem lev_same {y2 : St α} (e1 : y2.kn = y.kn) (e2 : y2.wn = y.wn) : lev x y2 = lev x y := by unfold lev; rw [e1, e2]
/- it begins -/
theorem side_new (C : Ctx α) (nt : Int → Nat → α) (s : Int) : Side C nt 0 14 s (new s (1 - s) 1) (new (1 - s) s 1) [] :=
  ⟨rfl, rfl, by simp [new], by simp [new], by simp [new], by simp [new], ⟨by simp [new], List.Pairwise.nil, by simp [new]⟩, by simp [new], by simp [new], ⟨0, by omega, trivial, by simp [new], fun c => absurd (show (0 : Int) = 1 from c) (by omega)⟩, by simp [new], by omega, (by show Wn.may ⟨0, []⟩ = true; decide), (fun n hn => by have e := has_nil n; rw [show Wn.has ⟨0, []⟩ n = true from hn] at e; cases e), by simp⟩
/- a new life: of x, of y -/
theorem Side.lifeX (h : Side C nt now B s x y F) (hy : 1 ≤ y.ep) : Side C nt now (B + 1) s (new s (1 - s) (x.ep + 1)) y F := by
  have hk := h.k1
  have h0 := h.k0
  have h1 := h.e1
  have h2 := h.e2
  have h14 := h.b14
  refine ⟨rfl, rfl, by show 1 ≤ x.ep + 1; omega, by show x.ep + 1 ≤ B + 1; omega, by simp [new], by show 0 ≤ y.ep; omega, ⟨by simp [new], List.Pairwise.nil, by simp [new]⟩, by simp [new], by simp [new], ⟨0, by omega, trivial, by simp [new], fun c => ?_⟩, by show 1 ≤ B + 1; omega, by omega, (by show Wn.may ⟨0, []⟩ = true; decide), (fun n hn => by have e := has_nil n; rw [show Wn.has ⟨0, []⟩ n = true from hn] at e; cases e), fun f hf hs => ?_⟩
  · have : (0 : Int) = y.ep := c
    omega
  · obtain ⟨f1, f2, f3, f4, f5, f6, f7, f8, f9, f10, f11, f12⟩ := h.fr f hf hs
    exact ⟨f1, f2, by show f.e ≤ x.ep + 1; omega, f4, f5, f6, by omega, f8, by omega, f10, f11, fun c => by have : f.e = x.ep + 1 := c; omega⟩
theorem Side.lifeY (h : Side C nt now B s x y F) (me wi : Int) : Side C nt now (B + 1) s x (new me wi (y.ep + 1)) F := by
  obtain ⟨m1, m2, m3, m4, m5, m6, m7, m8, m9, ⟨a, a1, a2, a3, _⟩, m11, m12, m13, m14, m15⟩ := h
  refine ⟨m1, m2, m3, by omega, m5, by show x.kn ≤ y.ep + 1; omega, m7, m8, m9, ⟨a, a1, a2, a3, fun c => ?_⟩, by omega, by omega, m13, fun n hn => by have := m14 n hn; omega, fun f hf hs => ?_⟩
  · have : x.kn = y.ep + 1 := c
    omega
  · obtain ⟨f1, f2, f3, f4, f5, f6, f7, f8, f9, f10, f11, _⟩ := m15 f hf hs
    exact ⟨f1, f2, f3, f4, by show f.a ≤ y.ep + 1; omega, f6, by omega, f8, by omega, f10, f11, fun _ c => by have : f.a = y.ep + 1 := c; omega⟩
theorem low_rng (h : Side C nt now B s x y F) : 0 ≤ x.wn.low ∧ x.wn.low ≤ B := by
  have h0 := ((Wn.may_iff x.wn).1 h.wm).1.1
  refine ⟨h0, ?_⟩
  by_cases c : 1 ≤ x.wn.low
  · exact h.wh _ ((Wn.has_iff _ _).2 (Or.inr ⟨c, Int.le_refl _⟩))
  · have := h.b14; omega
variable [DecidableEq α]
theorem push_cases {ok : α → Bool} {l : List (It α)} {nx now : Int} {n : α} (hm : Ox.May ok l) (he : (Ox.push ok l nx now [n]).2 = 0) :
    (Ox.push ok l nx now [n]).1 = l ∨ ((Ox.push ok l nx now [n]).1 = l ++ [⟨Ox.next l nx, now, 0, n⟩] ∧ Ox.May ok (l ++ [⟨Ox.next l nx, now, 0, n⟩])) := by
  cases ha : Ox.among l n with
  | false =>
    have hw : Ox.hasB ok l n = false := by unfold Ox.hasB; rw [ha, Bool.and_false]
    obtain ⟨_, _, _, h4, h5⟩ := push_one hm hw he
    exact Or.inr ⟨h4, h5⟩
  | true =>
    left
    unfold Ox.push at he ⊢
    split at he
    · rename_i c
      rw [if_pos c]
      unfold Ox.pushF at he ⊢
      split at he
      · rename_i hn
        rw [if_pos hn, if_pos ha]; rfl
      · exact absurd (show (130 : Int) = 0 from he) (by decide)
    · exact absurd (show (2 : Int) = 0 from he) (by decide)
theorem Side.send (h : Side C nt now B s x y F) {k : Nat} (hk : k < 8) : Side C nt now (B + 1) s (sendS C x now [nt s k]) y F := by
  unfold sendS
  by_cases he : sendE C x now [nt s k] = 0
  · rw [if_pos he]
    unfold sendE at he
    split at he
    · obtain ⟨m1, m2, m3, m4, m5, m6, m7, m8, m9, ⟨a, a1, a2, a3, a4⟩, m11, m12, m13, m14, m15⟩ := h
      have hnx := Row.next a2 a3
      have mono : ∀ f ∈ F, f.f = s → Fine C nt (B + 1) s x y f := fun f hf hs => (m15 f hf hs).mono (by omega)
      rcases push_cases m7 he with e | ⟨e, hm⟩
      · rw [e, hnx]
        exact ⟨m1, m2, m3, by show x.ep ≤ B + 1; omega, m5, m6, m7, m8, m9, ⟨a, a1, a2, a3, a4⟩, by show x.nx ≤ B + 1; omega, by omega, m13, fun n hn => by have := m14 n hn; omega, fun f hf hs => by
          obtain ⟨f1, f2, f3, f4, f5, f6, f7, f8, f9, f10, f11, f12⟩ := mono f hf hs
          exact ⟨f1, f2, f3, f4, f5, f6, f7, f8, f9, f10, f11, f12⟩⟩
      · rw [hnx] at e hm
        rw [e, next_snoc (by show x.nx ≤ x.nx; omega)]
        refine ⟨m1, m2, m3, by show x.ep ≤ B + 1; omega, m5, m6, hm, fun i hi => ?_, fun i hi => ?_, ⟨a, a1, Row.snoc a2 _ a3, by show x.nx + 1 = a + ((x.it ++ [(⟨x.nx, now, 0, nt s k⟩ : It α)]).length : Int) + 1; rw [List.length_append]; simp; omega, a4⟩, by show x.nx + 1 ≤ B + 1; omega, by omega, m13, fun n hn => by have := m14 n hn; omega, fun f hf hs => ?_⟩
        · rcases List.mem_append.1 hi with hi | hi
          · exact m8 i hi
          · rw [List.mem_singleton] at hi; subst hi; exact ⟨k, hk, rfl⟩
        · rcases List.mem_append.1 hi with hi | hi
          · exact m9 i hi
          · rw [List.mem_singleton] at hi; subst hi; show now ≤ now + 8; omega
        · obtain ⟨f1, f2, f3, f4, f5, f6, f7, f8, f9, f10, f11, f12⟩ := mono f hf hs
          exact ⟨f1, f2, f3, f4, f5, f6, f7, f8, f9, f10, f11, f12⟩
    · exact absurd he (by decide)
  · rw [if_neg he]; exact h.mono (Int.le_refl _) (by omega)
theorem send_keeps (C : Ctx α) (l : St α) (now : Int) (ns : List α) : (sendS C l now ns).ep = l.ep ∧ (sendS C l now ns).kn = l.kn ∧ (sendS C l now ns).wn = l.wn := by
  unfold sendS; split <;> exact ⟨rfl, rfl, rfl⟩
/- a tick -/
theorem tick_of (h : Side C nt now B s x y F) (ht : Ox.tmB now = true) : tickS C x now = { x with it := x.it.map (Ox.tick now), ow := false } := by
  have hb := (Ox.mayB_iff C.ok x.it).2 h.may
  unfold tickS Ox.dueL
  rw [if_pos ht, if_pos ⟨hb, ht⟩]
structure Sent (C : Ctx α) (s now : Int) (x : St α) (g : Fr α) : Prop where
  f : g.f = s
  t : g.t = 1 - s
  e : g.e = x.ep
  a : g.a = x.kn
  c : g.c = x.wn.low
  n : (g.s = 0 ∧ g.n = C.z ∧ x.ow = true) ∨ ∃ i ∈ x.it, i.d ≤ now ∧ g.s = i.q ∧ g.n = i.n
theorem tick_sent (h : Side C nt now B s x y F) {g : Fr α} (hg : g ∈ tickF C x now) : Sent C s now x g := by
  obtain ⟨_, ⟨rfl, ho⟩ | ⟨z, hz, rfl⟩⟩ := tick_mem hg
  · exact ⟨h.me, h.wi, rfl, rfl, rfl, Or.inl ⟨rfl, rfl, ho⟩⟩
  · obtain ⟨i, hi, hd, rfl⟩ := due_mem hz
    exact ⟨h.me, h.wi, rfl, rfl, rfl, Or.inr ⟨i, hi, hd, Ox.tick_q now i, Ox.tick_n now i⟩⟩
theorem tick_due (h : Side C nt now B s x y F) (ht : Ox.tmB now = true) {i : It α} (hi : i ∈ x.it) (hd : i.d ≤ now) : ∃ g ∈ tickF C x now, g.s = i.q := by
  have hb := (Ox.mayB_iff C.ok x.it).2 h.may
  have hm : Ox.tick now i ∈ Ox.dueD C.ok x.it now := by
    unfold Ox.dueD
    rw [if_pos ⟨hb, ht⟩]
    exact List.mem_map.2 ⟨i, List.mem_filter.2 ⟨hi, decide_eq_true hd⟩, rfl⟩
  refine ⟨frm x (Ox.tick now i).q (Ox.tick now i).n, ?_, Ox.tick_q now i⟩
  unfold tickF
  rw [if_pos ht, if_neg (by intro e; rw [List.isEmpty_iff] at e; rw [e] at hm; cases hm)]
  exact List.mem_map.2 ⟨_, hm, rfl⟩
theorem tick_owes (C : Ctx α) {l : St α} {now : Int} (ht : Ox.tmB now = true) (ho : l.ow = true) : tickF C l now ≠ [] := by
  unfold tickF
  rw [if_pos ht]
  by_cases e : (Ox.dueD C.ok l.it now).isEmpty = true
  · rw [if_pos e, if_pos ho]; simp
  · rw [if_neg e]
    intro c
    rw [List.map_eq_nil_iff] at c
    rw [c] at e
    exact e rfl
theorem Side.tick (h : Side C nt now B s x y F) (ht : Ox.tmB now = true) : Side C nt now B s (tickS C x now) y (F ++ tickF C x now) := by
  have hlow := low_rng h
  have hsent := fun g hg => tick_sent h (g := g) hg
  rw [tick_of h ht]
  obtain ⟨m1, m2, m3, m4, m5, m6, m7, m8, m9, ⟨a, a1, a2, a3, a4⟩, m11, m12, m13, m14, m15⟩ := h
  have old : ∀ f, Fine C nt B s x y f → Fine C nt B s { x with it := x.it.map (Ox.tick now), ow := false } y f := fun f hf => by
    obtain ⟨f1, f2, f3, f4, f5, f6, f7, f8, f9, f10, f11, f12⟩ := hf
    exact ⟨f1, f2, f3, f4, f5, f6, f7, f8, f9, f10, f11, f12⟩
  refine ⟨m1, m2, m3, m4, m5, m6, Ox.due_may m7 ht, fun i hi => ?_, fun i hi => ?_, ⟨a, a1, Row.map (Ox.tick_q now) a2, by show x.nx = a + ((x.it.map (Ox.tick now)).length : Int) + 1; rw [List.length_map]; exact a3, a4⟩, m11, m12, m13, m14, fun f hf hs => old f ?_⟩
  · obtain ⟨j, hj, rfl⟩ := List.mem_map.1 hi
    rw [Ox.tick_n]; exact m8 j hj
  · obtain ⟨j, hj, rfl⟩ := List.mem_map.1 hi
    have h9 := m9 j hj
    unfold Ox.tick
    split
    · have := Ox.del_le (Ox.more j.s)
      show now + Ox.del (Ox.more j.s) ≤ now + 8
      omega
    · exact h9
  · rcases List.mem_append.1 hf with hf | hf
    · exact m15 f hf hs
    · obtain ⟨g1, g2, g3, g4, g5, g6⟩ := hsent f hf
      have gs : f.s = 0 ∧ f.n = C.z ∨ 1 ≤ f.s ∧ f.s ≤ B ∧ ∃ k, k < 8 ∧ f.n = nt s k := by
        rcases g6 with ⟨e1, e2, _⟩ | ⟨i, hi, _, e1, e2⟩
        · exact Or.inl ⟨e1, e2⟩
        · have hm := Row.mem a2 i hi
          obtain ⟨k, k1, k2⟩ := m8 i hi
          exact Or.inr ⟨by omega, by omega, k, k1, e2.trans k2⟩
      refine ⟨g2, by omega, by omega, by omega, by omega, ?_, ?_, by omega, by omega, fun c => ?_, fun c => ?_, fun _ c => ⟨by omega, by omega⟩⟩
      · rcases gs with ⟨e, _⟩ | ⟨e, _⟩ <;> omega
      · rcases gs with ⟨e, _⟩ | ⟨_, e, _⟩ <;> omega
      · rcases gs with ⟨_, e⟩ | ⟨e, _⟩
        · exact e
        · omega
      · rcases gs with ⟨e, _⟩ | ⟨_, _, e⟩
        · exact absurd e c
        · exact e
end
end Go.Proofs.Ythfbpilfdfploaa.Lk
namespace Go.Proofs.Ythfbpilfdfploaa.Lk
open Wn (Wd)
open Ox (It)

section
variable {α : Type} {C : Ctx α} {nt : Int → Nat → α} {now B s : Int} {x y : St α} {F : List (Fr α)}
/- y's window goes on, y owes -/
theorem Side.winY (h : Side C nt now B (1 - s) y x F) {V : Wd} {b : Bool} (hm : Wn.may V = true) (hh : ∀ n, Wn.has V n = true → n ≤ B) (hl : y.wn.low ≤ V.low) : Side C nt now B (1 - s) { y with wn := V, ow := b } x F := by
  obtain ⟨m1, m2, m3, m4, m5, m6, m7, m8, m9, ⟨a, a1, a2, a3, a4⟩, m11, m12, m13, m14, m15⟩ := h
  refine ⟨m1, m2, m3, m4, m5, m6, m7, m8, m9, ⟨a, a1, a2, a3, a4⟩, m11, m12, hm, hh, fun g hg hs => ?_⟩
  obtain ⟨f1, f2, f3, f4, f5, f6, f7, f8, f9, f10, f11, f12⟩ := m15 g hg hs
  exact ⟨f1, f2, f3, f4, f5, f6, f7, f8, f9, f10, f11, fun c1 c2 => ⟨(f12 c1 c2).1, Int.le_trans (f12 c1 c2).2 hl⟩⟩
theorem Side.winX (h : Side C nt now B s x y F) {V : Wd} {b : Bool} (hl : y.wn.low ≤ V.low) : Side C nt now B s x { y with wn := V, ow := b } F := by
  refine h.recv rfl (fun _ => ?_)
  unfold lev
  by_cases c : y.kn = x.ep
  · rw [if_pos c, if_pos (show ({ y with wn := V, ow := b } : St α).kn = x.ep from c)]; exact hl
  · rw [if_neg c, if_neg (show ¬ ({ y with wn := V, ow := b } : St α).kn = x.ep from c)]; exact Int.le_refl _
variable [DecidableEq α]
theorem learn_no {e : Int} (h : ¬ y.kn < e) : learn C y e now = y := by unfold learn; rw [if_neg h]
theorem learn_yes {e : Int} (hm : Ox.May C.ok y.it) (ht : Ox.tmB now = true) (h : y.kn < e) : learn C y e now = { y with kn := e, wn := ⟨0, []⟩, it := Ox.num now 1 y.it, nx := (y.it.length : Int) + 1 } := by
  unfold learn
  rw [if_pos h, anew_of hm ht, Ox.num_len]
theorem learn_kn {e : Int} (h : y.kn ≤ e) : (learn C y e now).kn = e := by
  unfold learn
  by_cases c : y.kn < e
  · rw [if_pos c]
  · rw [if_neg c]; omega
theorem learn_ep (e : Int) : (learn C y e now).ep = y.ep ∧ (learn C y e now).ow = y.ow := by
  unfold learn; split <;> exact ⟨rfl, rfl⟩
theorem Side.learnY (h : Side C nt now B (1 - s) y x F) (hx : 0 ≤ x.wn.low) (ht : Ox.tmB now = true) {e : Int} (he : e ≤ x.ep) : Side C nt now B (1 - s) (learn C y e now) x F := by
  by_cases c : y.kn < e
  · rw [learn_yes h.may ht c]
    obtain ⟨m1, m2, m3, m4, m5, m6, m7, m8, m9, _, m11, m12, m13, m14, m15⟩ := h
    have h12 := m7.len
    refine ⟨m1, m2, m3, m4, by show 0 ≤ e; omega, he, Ox.anew_may m7 ht, fun i hi => ?_, fun i hi => ?_, ⟨0, by omega, by have := Row.num now y.it 0; exact this, by show (y.it.length : Int) + 1 = 0 + ((Ox.num now 1 y.it).length : Int) + 1; rw [Ox.num_len]; omega, fun _ => ?_⟩, by show (y.it.length : Int) + 1 ≤ B; omega, m12, (by show Wn.may ⟨0, []⟩ = true; decide), (fun n hn => by have e := has_nil n; rw [show Wn.has ⟨0, []⟩ n = true from hn] at e; cases e), fun g hg hs => ?_⟩
    · obtain ⟨_, _, _, _, j, hj, hn⟩ := Ox.num_mem now y.it 1 i hi
      obtain ⟨k, k1, k2⟩ := m8 j hj
      exact ⟨k, k1, hn.symm.trans k2⟩
    · obtain ⟨_, _, hd, _⟩ := Ox.num_mem now y.it 1 i hi
      omega
    · unfold lev
      split
      · exact hx
      · exact Int.le_refl _
    · obtain ⟨f1, f2, f3, f4, f5, f6, f7, f8, f9, f10, f11, f12⟩ := m15 g hg hs
      exact ⟨f1, f2, f3, f4, f5, f6, f7, f8, f9, f10, f11, fun c1 c2 => by have := (f12 c1 c2).1; omega⟩
  · rw [learn_no c]; exact h
theorem Side.learnX (h : Side C nt now B s x y F) (hm : Ox.May C.ok y.it) (ht : Ox.tmB now = true) {e : Int} (he : e ≤ x.ep) : Side C nt now B s x (learn C y e now) F := by
  by_cases c : y.kn < e
  · refine h.recv (learn_ep e).1 (fun _ => ?_)
    rw [learn_yes hm ht c]
    unfold lev
    rw [if_neg (show ¬ y.kn = x.ep by omega)]
    split
    · exact Int.le_refl _
    · exact Int.le_refl _
  · rw [learn_no c]; exact h
theorem Side.hitY (h : Side C nt now B (1 - s) y x F) {c : Int} (hc : y.kn = x.ep → x.kn = y.ep ∧ c ≤ x.wn.low) : Side C nt now B (1 - s) (hit C y c) x F := by
  unfold hit
  rw [ans_of h.may]
  obtain ⟨m1, m2, m3, m4, m5, m6, m7, m8, m9, ⟨a, a1, a2, a3, a4⟩, m11, m12, m13, m14, m15⟩ := h
  obtain ⟨b, b1, b2, b3, b4⟩ := Row.filter c a2
  refine ⟨m1, m2, m3, m4, m5, m6, Ox.ans_may m7 c, fun i hi => m8 i (List.mem_filter.1 hi).1, fun i hi => m9 i (List.mem_filter.1 hi).1, ⟨b, by omega, b1, by show y.nx = b + ((y.it.filter (fun x => decide (c < x.q))).length : Int) + 1; omega, fun e => ?_⟩, m11, m12, m13, m14, fun g hg hs => ?_⟩
  · have e2 : y.kn = x.ep := e
    have h4 := a4 e2
    have hc2 := hc e2
    have hl : lev { y with it := y.it.filter (fun x => decide (c < x.q)) } x = lev y x := rfl
    rw [hl]
    unfold lev at h4 ⊢
    rw [if_pos hc2.1] at h4 ⊢
    rcases b4 with b4 | b4 <;> omega
  · obtain ⟨f1, f2, f3, f4, f5, f6, f7, f8, f9, f10, f11, f12⟩ := m15 g hg hs
    exact ⟨f1, f2, f3, f4, f5, f6, f7, f8, f9, f10, f11, f12⟩
/- which frames may be -/
structure NtOk (C : Ctx α) (nt : Int → Nat → α) : Prop where
  fm : ∀ f : Fr α, (f.f = 0 ∨ f.f = 1) → f.t = 1 - f.f → 1 ≤ f.e → f.e ≤ 1000000000 → 0 ≤ f.a → f.a ≤ 1000000000 → 0 ≤ f.s → f.s ≤ 1000000000 → 0 ≤ f.c → f.c ≤ 1000000000 → (f.s = 0 → f.n = C.z) → (f.s ≠ 0 → ∃ k, k < 8 ∧ f.n = nt f.f k) → C.fm f = true
/- what a frame leaves at y -/
structure Came (now : Int) (x y z : St α) (f : Fr α) : Prop where
  ep : z.ep = y.ep
  ow : y.ow = true → z.ow = true
  nil : y.it = [] → z.it = []
  dl : ∀ T, now ≤ T → (∀ i ∈ y.it, i.d ≤ T) → ∀ i ∈ z.it, i.d ≤ T
  kn : y.kn = x.ep → z.kn = x.ep ∧ z.nx = y.nx ∧ (∀ i ∈ z.it, i ∈ y.it) ∧ ∀ n, Wn.has y.wn n = true → Wn.has z.wn n = true
  new : f.e = x.ep → z.kn = x.ep ∧ (f.a ≠ y.ep → z.ow = true) ∧ (f.a = y.ep → f.s ≠ 0 → z.ow = true ∧ (f.s < x.nx → Wn.has z.wn f.s = true)) ∧ (f.a = y.ep → ∀ i ∈ z.it, f.c < i.q)
theorem came_learn (hm : Ox.May C.ok y.it) (ht : Ox.tmB now = true) {e : Int} (_h1 : y.kn ≤ e) (h2 : e ≤ x.ep) :
    (y.it = [] → (learn C y e now).it = []) ∧ (∀ T, now ≤ T → (∀ i ∈ y.it, i.d ≤ T) → ∀ i ∈ (learn C y e now).it, i.d ≤ T) ∧ (y.kn = x.ep → learn C y e now = y) := by
  by_cases c : y.kn < e
  · rw [learn_yes hm ht c]
    refine ⟨fun e => ?_, fun T hT _ i hi => ?_, fun e => by omega⟩
    · show Ox.num now 1 y.it = []
      rw [e]; rfl
    · obtain ⟨_, _, hd, _⟩ := Ox.num_mem now y.it 1 i hi
      omega
  · rw [learn_no c]
    exact ⟨id, fun _ _ h => h, fun _ => rfl⟩
theorem fair_take {f : Fr α} (hN : NtOk C nt) (hs : s = 0 ∨ s = 1) (hB : B ≤ 1000000) (ht : Ox.tmB now = true) (hx : Side C nt now B s x y F) (hy : Side C nt now B (1 - s) y x F) (hf : f ∈ F) (hfs : f.f = s) :
    Side C nt now B s x (takeR C y f now).2.2 F ∧ Side C nt now B (1 - s) (takeR C y f now).2.2 x F ∧ Came now x y (takeR C y f now).2.2 f := by
  obtain ⟨f1, f2, f3, f4, f5, f6, f7, f8, f9, f10, f11, f12⟩ := hx.fr f hf hfs
  have e2 := hx.e2
  have e2y := hy.e2
  have hfm : C.fm f = true := hN.fm f (by rw [hfs]; exact hs) (by rw [hfs]; exact f1) f2 (by clear f11; omega) f4 (by clear f11; omega) f6 (by clear f11; omega) f8 (by clear f11; omega) f10 (by rw [hfs]; exact f11)
  have hl0 := (low_rng hx).1
  by_cases h3 : y.kn ≤ f.e
  · rw [take_looks C y f now ⟨hfm, by rw [hy.wi]; omega, by rw [hy.me]; omega⟩ ht h3]
    have sx := hx.learnX (e := f.e) hy.may ht f3
    have sy := hy.learnY (e := f.e) hl0 ht f3
    obtain ⟨c1, c2, c3⟩ := came_learn (C := C) (x := x) hy.may ht h3 f3
    have hk := learn_kn (C := C) (now := now) h3
    obtain ⟨lep, low⟩ := learn_ep (C := C) (y := y) (now := now) f.e
    have hnew : f.a = y.ep → f.s ≠ 0 → f.e = x.ep → f.s < x.nx → f.s ≤ (learn C y f.e now).wn.low + 16 := fun ha _ he hlt => by
      obtain ⟨a, a1, a2, a3, a4⟩ := sx.row
      have h12 := sx.may.len
      have h4 := a4 (by rw [lep]; exact (f12 he ha).1)
      unfold lev at h4
      rw [if_pos (hk.trans he)] at h4
      omega
    by_cases h4 : f.a = y.ep
    · rw [if_pos h4]
      have hc : (learn C y f.e now).kn = x.ep → x.kn = (learn C y f.e now).ep ∧ f.c ≤ x.wn.low := fun e => by
        rw [lep]; exact f12 (hk.symm.trans e) h4
      have ty := sy.hitY hc
      have tx : Side C nt now B s x (hit C (learn C y f.e now) f.c) F := sx.recv rfl (fun _ => Int.le_refl _)
      have tit : (hit C (learn C y f.e now) f.c).it = (learn C y f.e now).it.filter (fun x => decide (f.c < x.q)) := by
        show Ox.ans C.ok _ _ = _
        exact ans_of sy.may
      have tq : ∀ i ∈ (hit C (learn C y f.e now) f.c).it, f.c < i.q ∧ i ∈ (learn C y f.e now).it := fun i hi => by
        rw [tit] at hi
        have := List.mem_filter.1 hi
        exact ⟨of_decide_eq_true this.2, this.1⟩
      have tn : y.it = [] → (hit C (learn C y f.e now) f.c).it = [] := fun e => by rw [tit, c1 e]; rfl
      by_cases h5 : f.s = 0
      · rw [if_pos h5]
        refine ⟨tx, ty, lep, fun e => low.trans e, tn, fun T hT h i hi => c2 T hT h i (tq i hi).2, fun e => ?_, fun e => ⟨hk.trans e, fun c => absurd h4 c, fun _ c => absurd h5 c, fun _ i hi => (tq i hi).1⟩⟩
        have e3 := c3 e
        refine ⟨by show (learn C y f.e now).kn = x.ep; rw [e3]; exact e, by show (learn C y f.e now).nx = y.nx; rw [e3], fun i hi => by have := (tq i hi).2; rw [e3] at this; exact this, fun n hn => by show Wn.has (learn C y f.e now).wn n = true; rw [e3]; exact hn⟩
      · rw [if_neg h5]
        have c3' : y.kn = x.ep → (hit C (learn C y f.e now) f.c).kn = x.ep ∧ (hit C (learn C y f.e now) f.c).nx = y.nx ∧ (∀ i ∈ (hit C (learn C y f.e now) f.c).it, i ∈ y.it) ∧ (hit C (learn C y f.e now) f.c).wn = y.wn := fun e => by
          have e3 := c3 e
          refine ⟨by show (learn C y f.e now).kn = x.ep; rw [e3]; exact e, by show (learn C y f.e now).nx = y.nx; rw [e3], fun i hi => by have := (tq i hi).2; rw [e3] at this; exact this, by show (learn C y f.e now).wn = y.wn; rw [e3]⟩
        have hnew' : f.e = x.ep → f.s < x.nx → f.s ≤ (hit C (learn C y f.e now) f.c).wn.low + 16 := fun e hl => hnew h4 h5 e hl
        have hk' : (hit C (learn C y f.e now) f.c).kn = f.e := hk
        have hep' : (hit C (learn C y f.e now) f.c).ep = y.ep := lep
        have how' : (hit C (learn C y f.e now) f.c).ow = y.ow := low
        have hdl' : ∀ T, now ≤ T → (∀ i ∈ y.it, i.d ≤ T) → ∀ i ∈ (hit C (learn C y f.e now) f.c).it, i.d ≤ T := fun T hT h i hi => c2 T hT h i (tq i hi).2
        have hcq : ∀ i ∈ (hit C (learn C y f.e now) f.c).it, f.c < i.q := fun i hi => (tq i hi).1
        clear c1 c2 c3 hk lep low hnew tq tit sx sy hc
        generalize hit C (learn C y f.e now) f.c = z at *
        unfold lay
        rcases wtake ty.wm f.s with ⟨w1, w2, w3⟩ | ⟨w1, w2, w3, w4⟩ | ⟨w1, w2, w3, w4, w5, w6, w7⟩
        · rw [if_neg w1]
          refine ⟨tx.winX (V := z.wn) (Int.le_refl _), ty.winY (V := z.wn) ty.wm ty.wh (Int.le_refl _), hep', fun _ => rfl, tn, hdl', fun e => ?_, fun e => ⟨hk'.trans e, fun c => absurd h4 c, fun _ _ => ⟨rfl, fun hl => ?_⟩, fun _ => hcq⟩⟩
          · obtain ⟨g1, g2, g3, g4⟩ := c3' e
            exact ⟨g1, g2, g3, fun n hn => by show Wn.has z.wn n = true; rw [g4]; exact hn⟩
          · have := hnew' e hl
            omega
        · rw [if_pos w1, w3]
          refine ⟨tx.winX (V := z.wn) (Int.le_refl _), ty.winY (V := z.wn) ty.wm ty.wh (Int.le_refl _), hep', fun _ => rfl, tn, hdl', fun e => ?_, fun e => ⟨hk'.trans e, fun c => absurd h4 c, fun _ _ => ⟨rfl, fun _ => w4⟩, fun _ => hcq⟩⟩
          obtain ⟨g1, g2, g3, g4⟩ := c3' e
          exact ⟨g1, g2, g3, fun n hn => by show Wn.has z.wn n = true; rw [g4]; exact hn⟩
        · rw [if_pos w1]
          obtain ⟨o1, o2⟩ := took_ok ty.wm w7 w4 (by omega) f7 ty.wh
          have hlo := Wn.took_low w4
          refine ⟨tx.winX hlo, ty.winY o1 o2 hlo, hep', fun _ => rfl, tn, hdl', fun e => ?_, fun e => ⟨hk'.trans e, fun c => absurd h4 c, fun _ _ => ⟨rfl, fun _ => (w4.has _).2 (Or.inr rfl)⟩, fun _ => hcq⟩⟩
          obtain ⟨g1, g2, g3, g4⟩ := c3' e
          exact ⟨g1, g2, g3, fun n hn => (w4.has n).2 (Or.inl (by rw [g4]; exact hn))⟩
    · rw [if_neg h4]
      refine ⟨sx.winX (V := (learn C y f.e now).wn) (Int.le_refl _), sy.winY (V := (learn C y f.e now).wn) sy.wm sy.wh (Int.le_refl _), lep, fun _ => rfl, c1, c2, fun e => ?_, fun e => ⟨hk.trans e, fun _ => rfl, fun c => absurd c h4, fun c => absurd c h4⟩⟩
      have e3 := c3 e
      rw [e3]
      exact ⟨e, rfl, fun _ h => h, fun _ h => h⟩
  · have hsame : (takeR C y f now).2.2 = y := by
      rcases take_cases C y f now with ⟨_, h⟩ | ⟨_, _, h, _⟩
      · exact h
      · exact absurd h h3
    rw [hsame]
    have := hy.k1
    exact ⟨hx, hy, rfl, id, id, fun _ _ h => h, fun e => ⟨e, rfl, fun _ h => h, fun _ h => h⟩, fun e => by omega⟩
end
end Go.Proofs.Ythfbpilfdfploaa.Lk
