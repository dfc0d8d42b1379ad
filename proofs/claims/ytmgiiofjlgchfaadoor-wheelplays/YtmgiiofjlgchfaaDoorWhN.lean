
/- Plain mathematics of wheels, the second part: timers in order, and the slots that hold their keys. -/
import Derived.Test.YtmgiiofjlgchfaaDoorWhM
namespace Go.Proofs.YtmgiiofjlgchfaaDoor.Wh

abbrev Tm := ByteArray × Nat
def tlt (a b : Tm) : Bool := decide (a.2 < b.2) || (decide (a.2 = b.2) && lt a.1 b.1)
theorem tlt_irrefl (a : Tm) : tlt a a = false := by simp [tlt, lt_irrefl]
theorem tlt_trans {a b c : Tm} (h : tlt a b = true) (k : tlt b c = true) : tlt a c = true := by
  simp only [tlt, Bool.or_eq_true, Bool.and_eq_true, decide_eq_true_eq] at h k ⊢
  rcases h with h | ⟨h, h'⟩
  · rcases k with k | ⟨k, _⟩
    · exact Or.inl (by omega)
    · exact Or.inl (by omega)
  · rcases k with k | ⟨k, k'⟩
    · exact Or.inl (by omega)
    · exact Or.inr ⟨by omega, lt_trans h' k'⟩
theorem tlt_asymm {a b : Tm} (h : tlt a b = true) : tlt b a = false := by
  cases k : tlt b a with
  | false => rfl
  | true => have := tlt_trans h k; rw [tlt_irrefl] at this; cases this
theorem tlt_tri {a b : Tm} (h : tlt a b = false) (k : tlt b a = false) : a = b := by
  simp only [tlt, Bool.or_eq_false_iff, Bool.and_eq_false_iff, decide_eq_false_iff_not] at h k
  have e : a.2 = b.2 := by omega
  have h' := h.2.resolve_left (by omega)
  have k' := k.2.resolve_left (by omega)
  exact Prod.ext (lt_tri h' k') e
theorem tlt_le {a b : Tm} (h : tlt a b = true) : a.2 ≤ b.2 := by
  simp only [tlt, Bool.or_eq_true, Bool.and_eq_true, decide_eq_true_eq] at h
  omega
def Up (L : List Tm) : Prop := L.Pairwise (fun a b => tlt a b = true)
def ks (L : List Tm) : List ByteArray := L.map Prod.fst

/- a wheel, as the document has it -/
structure Ok (t : Nat) (L : List Tm) : Prop where
  up : Up L
  nd : (ks L).Nodup
  ahead : ∀ x ∈ L, t < x.2 ∧ x.2 ≤ 1000000000
  size : ∀ x ∈ L, 1 ≤ x.1.size ∧ x.1.size ≤ 100
  few : L.length ≤ 200
  time : t ≤ 1000000000
theorem Ok.nil {t : Nat} (h : t ≤ 1000000000) : Ok t [] := ⟨List.Pairwise.nil, List.nodup_nil, by simp, by simp, by simp, h⟩

theorem up_eq {L M : List Tm} (hp : L.Perm M) (h : Up L) (k : Up M) : L = M := by
  refine hp.eq_of_pairwise (le := fun a b => tlt a b = true) (fun a b _ _ h1 h2 => ?_) h k
  rw [tlt_asymm h1] at h2; cases h2

/- what is there -/
def hasK (L : List Tm) (k : ByteArray) : Bool := L.any (fun x => decide (x.1 = k))
def atK (L : List Tm) (k : ByteArray) : Nat := ((L.find? (fun x => decide (x.1 = k))).map Prod.snd).getD 0
theorem hasK_iff {L : List Tm} {k : ByteArray} : hasK L k = true ↔ k ∈ ks L := by
  simp [hasK, ks]
theorem hasK_mem {L : List Tm} {k : ByteArray} (h : hasK L k = true) : ∃ a, (k, a) ∈ L := by
  rw [hasK_iff] at h
  obtain ⟨x, hx, rfl⟩ := List.mem_map.1 h
  exact ⟨x.2, hx⟩
theorem hasK_of {L : List Tm} {x : Tm} (h : x ∈ L) : hasK L x.1 = true := by
  rw [hasK_iff]; exact List.mem_map.2 ⟨x, h, rfl⟩
theorem key_one : ∀ {L : List Tm}, (ks L).Nodup → ∀ {x y : Tm}, x ∈ L → y ∈ L → x.1 = y.1 → x = y
  | [], _, _, _, hx, _, _ => by simp at hx
  | z :: L, hn, x, y, hx, hy, e => by
    rw [ks, List.map_cons, List.nodup_cons] at hn
    rcases List.mem_cons.1 hx with h1 | h1
    · rcases List.mem_cons.1 hy with h2 | h2
      · rw [h1, h2]
      · rw [h1] at e; exact absurd (List.mem_map.2 ⟨y, h2, e.symm⟩) hn.1
    · rcases List.mem_cons.1 hy with h2 | h2
      · rw [h2] at e; exact absurd (List.mem_map.2 ⟨x, h1, e⟩) hn.1
      · exact key_one hn.2 h1 h2 e
theorem atK_of {L : List Tm} (hn : (ks L).Nodup) {x : Tm} (h : x ∈ L) : atK L x.1 = x.2 := by
  unfold atK
  cases hf : L.find? (fun y => decide (y.1 = x.1)) with
  | none =>
    have := List.find?_eq_none.1 hf x h
    simp at this
  | some y =>
    have h1 := List.find?_some hf
    have h2 := List.mem_of_find?_eq_some hf
    rw [key_one hn h2 h (by simpa using h1)]
    rfl
theorem atK_not {L : List Tm} {k : ByteArray} (h : hasK L k = false) : atK L k = 0 := by
  unfold atK
  rw [List.find?_eq_none.2]
  · rfl
  · intro x hx
    intro e
    have := hasK_of hx
    rw [show x.1 = k by simpa using e, h] at this
    cases this

/- dropped -/
def del (L : List Tm) (k : ByteArray) : List Tm := L.filter (fun x => decide (x.1 ≠ k))
theorem ks_sub {L M : List Tm} (h : M.Sublist L) (hn : (ks L).Nodup) : (ks M).Nodup := hn.sublist (h.map _)
theorem Ok.sub {t : Nat} {L M : List Tm} (h : Ok t L) (hs : M.Sublist L) : Ok t M :=
  ⟨h.up.sublist hs, ks_sub hs h.nd, fun x hx => h.ahead x (hs.subset hx), fun x hx => h.size x (hs.subset hx), Nat.le_trans hs.length_le h.few, h.time⟩
theorem Ok.del {t : Nat} {L : List Tm} (h : Ok t L) (k : ByteArray) : Ok t (del L k) := h.sub List.filter_sublist
theorem del_none {L : List Tm} {k : ByteArray} (h : hasK L k = false) : del L k = L := by
  unfold del
  rw [List.filter_eq_self]
  intro x hx
  rw [decide_eq_true_eq]
  intro e
  have := hasK_of hx
  rw [e, h] at this; cases this
theorem del_has (L : List Tm) (k : ByteArray) : hasK (del L k) k = false := by
  cases h : hasK (del L k) k with
  | false => rfl
  | true =>
    obtain ⟨a, ha⟩ := hasK_mem h
    have := (List.mem_filter.1 ha).2
    simp at this
theorem del_len {L : List Tm} (hn : (ks L).Nodup) {k : ByteArray} (h : hasK L k = true) : (del L k).length + 1 = L.length := by
  obtain ⟨a, ha⟩ := hasK_mem h
  have hp := (List.filter_append_perm (fun x : Tm => decide (x.1 ≠ k)) L).length_eq
  have e : L.filter (fun x => !decide (x.1 ≠ k)) = [(k, a)] := by
    have h1 : ∀ x ∈ L.filter (fun x => !decide (x.1 ≠ k)), x = (k, a) := by
      intro x hx
      obtain ⟨h1, h2⟩ := List.mem_filter.1 hx
      exact key_one hn h1 ha (by simpa using h2)
    have h2 : (k, a) ∈ L.filter (fun x => !decide (x.1 ≠ k)) := List.mem_filter.2 ⟨ha, by simp⟩
    have h3 : (ks (L.filter (fun x => !decide (x.1 ≠ k)))).Nodup := ks_sub List.filter_sublist hn
    generalize L.filter (fun x => !decide (x.1 ≠ k)) = M at h1 h2 h3
    match M, h1, h2, h3 with
    | [], _, h2, _ => simp at h2
    | [x], h1, _, _ => rw [h1 x (by simp)]
    | x :: y :: M, h1, _, h3 =>
      have e1 := h1 x (by simp)
      have e2 := h1 y (by simp)
      rw [e1, e2] at h3
      simp [ks] at h3
  rw [List.length_append, e] at hp
  exact hp

/- set -/
def ins (L : List Tm) (x : Tm) : List Tm := L.takeWhile (fun y => tlt y x) ++ x :: L.dropWhile (fun y => tlt y x)
theorem ins_perm (L : List Tm) (x : Tm) : (ins L x).Perm (x :: L) := by
  unfold ins
  refine List.perm_middle.trans ?_
  rw [List.takeWhile_append_dropWhile]
theorem take_all {α : Type} (p : α → Bool) : ∀ (L : List α), ∀ x ∈ L.takeWhile p, p x = true
  | [], _, h => by simp at h
  | y :: L, x, h => by
    rw [List.takeWhile_cons] at h
    split at h
    · rename_i hy
      rcases List.mem_cons.1 h with rfl | h
      · exact hy
      · exact take_all p L x h
    · simp at h
theorem drop_up {L : List Tm} {x : Tm} (h : Up L) (hx : hasK L x.1 = false) : ∀ y ∈ L.dropWhile (fun y => tlt y x), tlt x y = true := by
  induction L with
  | nil => simp
  | cons z L ih =>
    have h1 := List.pairwise_cons.1 h
    rw [List.dropWhile_cons]
    have hx' : hasK L x.1 = false := by
      simp only [hasK, List.any_cons, Bool.or_eq_false_iff] at hx
      exact hx.2
    have hz : z.1 ≠ x.1 := by
      simp only [hasK, List.any_cons, Bool.or_eq_false_iff] at hx
      simpa using hx.1
    split
    · exact ih h1.2 hx'
    · rename_i hc
      have hxz : tlt x z = true := by
        cases e : tlt x z with
        | true => rfl
        | false => exact absurd (congrArg Prod.fst (tlt_tri (by simpa using hc) e)) hz
      intro y hy
      rcases List.mem_cons.1 hy with rfl | hy
      · exact hxz
      · exact tlt_trans hxz (h1.1 y hy)
theorem ins_up {L : List Tm} {x : Tm} (h : Up L) (hx : hasK L x.1 = false) : Up (ins L x) := by
  unfold Up ins
  rw [List.pairwise_append]
  refine ⟨h.sublist (List.takeWhile_sublist _), ?_, ?_⟩
  · rw [List.pairwise_cons]
    exact ⟨drop_up h hx, h.sublist (List.dropWhile_sublist _)⟩
  · intro a ha b hb
    have h1 := take_all _ _ _ ha
    rcases List.mem_cons.1 hb with rfl | hb
    · exact h1
    · exact tlt_trans h1 (drop_up h hx b hb)
theorem Ok.ins {t : Nat} {L : List Tm} {x : Tm} (h : Ok t L) (hx : hasK L x.1 = false) (h1 : t < x.2) (h2 : x.2 ≤ 1000000000) (h3 : 1 ≤ x.1.size) (h4 : x.1.size ≤ 100) (hf : L.length < 200) : Ok t (ins L x) := by
  have hp := ins_perm L x
  refine ⟨ins_up h.up hx, ?_, ?_, ?_, ?_, h.time⟩
  · refine (hp.map Prod.fst).nodup_iff.2 ?_
    rw [List.map_cons, List.nodup_cons]
    refine ⟨fun hm => ?_, h.nd⟩
    rw [hasK_iff.2 hm] at hx; cases hx
  · intro y hy
    rcases List.mem_cons.1 (hp.mem_iff.1 hy) with rfl | hy
    · exact ⟨h1, h2⟩
    · exact h.ahead y hy
  · intro y hy
    rcases List.mem_cons.1 (hp.mem_iff.1 hy) with rfl | hy
    · exact ⟨h3, h4⟩
    · exact h.size y hy
  · rw [hp.length_eq, List.length_cons]; omega

/- the slots -/
abbrev Sl := Nat → Nat → List ByteArray
def here (t g d : Nat) (x : Tm) : Bool := decide (whl t x.2 = g) && decide (dig x.2 g = d)
theorem here_iff {t g d : Nat} {x : Tm} : here t g d x = true ↔ whl t x.2 = g ∧ dig x.2 g = d := by simp [here]
def put (S : Sl) (g d : Nat) (l : List ByteArray) : Sl := fun g' d' => if g' = g ∧ d' = d then l else S g' d'
theorem put_same (S : Sl) (g d : Nat) (l : List ByteArray) : put S g d l g d = l := by simp [put]
theorem put_other (S : Sl) {g d g' d' : Nat} (l : List ByteArray) (h : ¬ (g' = g ∧ d' = d)) : put S g d l g' d' = S g' d' := by simp only [put, if_neg h]
structure Inv (t : Nat) (L : List Tm) (S : Sl) : Prop where
  ok : Ok t L
  sl : ∀ g d, (S g d).Perm (ks (L.filter (here t g d)))
theorem Inv.new {t : Nat} (h : t ≤ 1000000000) : Inv t [] (fun _ _ => []) := ⟨Ok.nil h, fun _ _ => .rfl⟩
theorem Inv.lim {t : Nat} {L : List Tm} {S : Sl} (h : Inv t L S) {x : Tm} (hx : x ∈ L) : x.2 < 2 ^ 30 := by
  have := (h.ok.ahead x hx).2
  omega
theorem Inv.tlim {t : Nat} {L : List Tm} {S : Sl} (h : Inv t L S) : t < 2 ^ 30 := by
  have := h.ok.time
  omega
theorem Inv.mem {t : Nat} {L : List Tm} {S : Sl} (h : Inv t L S) {g d : Nat} {k : ByteArray} : k ∈ S g d ↔ ∃ a, (k, a) ∈ L ∧ whl t a = g ∧ dig a g = d := by
  rw [(h.sl g d).mem_iff]
  constructor
  · intro hk
    obtain ⟨x, hx, rfl⟩ := List.mem_map.1 hk
    obtain ⟨h1, h2⟩ := List.mem_filter.1 hx
    exact ⟨x.2, h1, here_iff.1 h2⟩
  · rintro ⟨a, h1, h2⟩
    exact List.mem_map.2 ⟨(k, a), List.mem_filter.2 ⟨h1, here_iff.2 h2⟩, rfl⟩
theorem Inv.len {t : Nat} {L : List Tm} {S : Sl} (h : Inv t L S) (g d : Nat) : (S g d).length ≤ 200 := by
  rw [(h.sl g d).length_eq, ks, List.length_map]
  exact Nat.le_trans (List.length_filter_le _ _) h.ok.few
theorem Inv.set {t : Nat} {L : List Tm} {S : Sl} (h : Inv t L S) {k : ByteArray} {a : Nat} (hx : hasK L k = false) (h1 : t < a) (h2 : a ≤ 1000000000) (h3 : 1 ≤ k.size) (h4 : k.size ≤ 100) (hf : L.length < 200) :
    Inv t (ins L (k, a)) (put S (whl t a) (dig a (whl t a)) (S (whl t a) (dig a (whl t a)) ++ [k])) := by
  refine ⟨h.ok.ins hx h1 h2 h3 h4 hf, fun g d => ?_⟩
  have hp : (ks ((ins L (k, a)).filter (here t g d))).Perm (ks (((k, a) :: L).filter (here t g d))) := ((ins_perm L (k, a)).filter _).map _
  refine List.Perm.trans ?_ hp.symm
  by_cases hh : g = whl t a ∧ d = dig a (whl t a)
  · obtain ⟨rfl, rfl⟩ := hh
    rw [put_same, List.filter_cons, if_pos (show here t (whl t a) (dig a (whl t a)) (k, a) = true from here_iff.2 ⟨rfl, rfl⟩)]
    exact List.perm_append_comm.trans ((h.sl _ _).cons k)
  · rw [put_other _ _ hh, List.filter_cons, if_neg (fun e => hh (by obtain ⟨e1, e2⟩ := here_iff.1 e; simp only at e1 e2; subst e1; exact ⟨rfl, e2.symm⟩))]
    exact h.sl g d
theorem Inv.drop {t : Nat} {L : List Tm} {S : Sl} (h : Inv t L S) {k : ByteArray} {a : Nat} (hx : (k, a) ∈ L) :
    Inv t (del L k) (put S (whl t a) (dig a (whl t a)) ((S (whl t a) (dig a (whl t a))).filter (fun x => !decide (x = k)))) := by
  refine ⟨h.ok.del k, fun g d => ?_⟩
  have e : (del L k).filter (here t g d) = (L.filter (here t g d)).filter (fun x => decide (x.1 ≠ k)) := by
    unfold del
    rw [List.filter_filter, List.filter_filter]
    exact List.filter_congr fun x _ => Bool.and_comm _ _
  rw [e]
  have e2 : ks ((L.filter (here t g d)).filter (fun x => decide (x.1 ≠ k))) = (ks (L.filter (here t g d))).filter (fun x => !decide (x = k)) := by
    unfold ks
    rw [List.filter_map]
    congr 1
    exact List.filter_congr fun x _ => by simp
  rw [e2]
  by_cases hh : g = whl t a ∧ d = dig a (whl t a)
  · obtain ⟨rfl, rfl⟩ := hh
    rw [put_same]
    exact (h.sl _ _).filter _
  · rw [put_other _ _ hh, List.filter_eq_self.2]
    · exact h.sl g d
    · intro y hy
      obtain ⟨b, h1, h2⟩ := h.mem.1 ((h.sl g d).mem_iff.2 hy)
      simp only [Bool.not_eq_true', decide_eq_false_iff_not]
      intro ey
      subst ey
      have := congrArg Prod.snd (key_one h.ok.nd h1 hx rfl)
      simp only at this
      subst this
      exact hh ⟨h2.1.symm, by rw [h2.1]; exact h2.2.symm⟩
end Go.Proofs.YtmgiiofjlgchfaaDoor.Wh
