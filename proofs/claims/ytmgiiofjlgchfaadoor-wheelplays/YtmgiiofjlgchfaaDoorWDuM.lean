
/- Plain mathematics of what is due: keys and times in two rows. -/
import Derived.Test.YtmgiiofjlgchfaaDoorWhC
namespace Go.Proofs.YtmgiiofjlgchfaaDoor.Wh

/- the time of a key, changed -/
def upd (M : List Tm) (k : ByteArray) (a : Nat) : List Tm := M.map (fun x => if x.1 = k then (k, a) else x)
theorem upd_len (M : List Tm) (k : ByteArray) (a : Nat) : (upd M k a).length = M.length := by simp [upd]
theorem upd_ks (M : List Tm) (k : ByteArray) (a : Nat) : ks (upd M k a) = ks M := by
  unfold ks upd
  rw [List.map_map]
  refine List.map_congr_left fun x _ => ?_
  simp only [Function.comp_apply]
  split
  · rename_i e; exact e.symm
  · rfl
theorem upd_none {M : List Tm} {k : ByteArray} {a : Nat} (h : hasK M k = false) : upd M k a = M := by
  unfold upd
  conv => rhs; rw [← List.map_id M]
  refine List.map_congr_left fun x hx => ?_
  rw [if_neg]
  · rfl
  · intro e
    have := hasK_of hx
    rw [e, h] at this; cases this
theorem upd_perm : ∀ {M : List Tm} {k : ByteArray} {a : Nat}, (ks M).Nodup → hasK M k = true → (upd M k a).Perm ((k, a) :: del M k)
  | [], _, _, _, h => by simp [hasK] at h
  | x :: M, k, a, hn, h => by
    have hn' := hn
    rw [ks, List.map_cons, List.nodup_cons] at hn'
    by_cases e : x.1 = k
    · have hm : hasK M k = false := by
        cases hc : hasK M k with
        | false => rfl
        | true => rw [hasK_iff] at hc; rw [← e] at hc; exact absurd hc hn'.1
      have e1 : upd (x :: M) k a = (k, a) :: upd M k a := by simp [upd, e]
      have e2 : del (x :: M) k = del M k := by simp [del, e]
      rw [e1, e2, upd_none hm, del_none hm]
    · have hm : hasK M k = true := by
        simp only [hasK, List.any_cons, Bool.or_eq_true, decide_eq_true_eq] at h
        rcases h with h | h
        · exact absurd h e
        · exact h
      have e1 : upd (x :: M) k a = x :: upd M k a := by simp [upd, e]
      have e2 : del (x :: M) k = x :: del M k := by simp [del, e]
      rw [e1, e2]
      exact ((upd_perm hn'.2 hm).cons x).trans (List.Perm.swap _ _ _)
/- the first so many of them -/
def updT (M : List Tm) (k : ByteArray) (a j : Nat) : List Tm := upd (M.take j) k a ++ M.drop j
theorem updT_zero (M : List Tm) (k : ByteArray) (a : Nat) : updT M k a 0 = M := by simp [updT, upd]
theorem updT_all (M : List Tm) (k : ByteArray) (a : Nat) : updT M k a M.length = upd M k a := by simp [updT]
theorem updT_len (M : List Tm) (k : ByteArray) (a j : Nat) : (updT M k a j).length = M.length := by
  unfold updT
  rw [List.length_append, upd_len, List.length_take, List.length_drop]; omega
theorem updT_get {M : List Tm} {k : ByteArray} {a j : Nat} (h : j < M.length) : (updT M k a j)[j]? = some M[j] := by
  unfold updT
  rw [List.getElem?_append_right (by rw [upd_len, List.length_take]; omega), upd_len, List.length_take, Nat.min_eq_left (by omega), Nat.sub_self, List.getElem?_drop, Nat.add_zero, List.getElem?_eq_getElem h]
theorem updT_succ {M : List Tm} {k : ByteArray} {a j : Nat} (h : j < M.length) : updT M k a (j + 1) = (updT M k a j).set j (if M[j].1 = k then (k, a) else M[j]) := by
  unfold updT
  rw [List.take_succ_eq_append_getElem h]
  have e : upd (M.take j ++ [M[j]]) k a = upd (M.take j) k a ++ [if M[j].1 = k then (k, a) else M[j]] := by unfold upd; rw [List.map_append]; rfl
  rw [e, List.set_append_right _ _ (by rw [upd_len, List.length_take]; omega)]
  have e2 : M.drop j = M[j] :: M.drop (j + 1) := List.drop_eq_getElem_cons h
  rw [e2, upd_len, List.length_take, Nat.min_eq_left (by omega), Nat.sub_self, List.append_assoc]
  rfl
theorem updT_stay {M : List Tm} {k : ByteArray} {a j : Nat} (h : j < M.length) (hk : M[j].1 ≠ k) : updT M k a (j + 1) = updT M k a j := by
  rw [updT_succ h, if_neg hk]
  apply List.ext_getElem?
  intro i
  rw [List.getElem?_set]
  split
  · rename_i e
    subst e
    rw [updT_get h]
    simp [updT_len, h]
  · rfl
theorem has_take {M : List Tm} {k : ByteArray} {j : Nat} (h : j < M.length) : hasK (M.take (j + 1)) k = (hasK (M.take j) k || decide (M[j].1 = k)) := by
  rw [List.take_succ_eq_append_getElem h]
  unfold hasK
  rw [List.any_append]
  simp only [List.any_cons, List.any_nil, Bool.or_false]
theorem perm_nd {M L : List Tm} (p : M.Perm L) (h : (ks L).Nodup) : (ks M).Nodup := (p.map Prod.fst).nodup_iff.2 h
/- what comes at a Tick has that time, and is among the timers -/
theorem tick_at {L : List Tm} {x : Nat} {y : Tm} (h : y ∈ upto (past L x) (x + 1)) : y.2 = x + 1 ∧ y ∈ L := by
  obtain ⟨h1, h2⟩ := List.mem_filter.1 h
  obtain ⟨h3, h4⟩ := List.mem_filter.1 h1
  have h2' : y.2 ≤ x + 1 := by simpa using h2
  have h4' : x < y.2 := by simpa using h4
  exact ⟨by omega, h3⟩
theorem same_lt {a b : Tm} (h : tlt a b = true) (e : a.2 = b.2) : lt a.1 b.1 = true := by
  simp only [tlt, Bool.or_eq_true, Bool.and_eq_true, decide_eq_true_eq] at h
  rcases h with h | h
  · omega
  · exact h.2
theorem upto_len {L : List Tm} (hu : Up L) {x : Nat} : (upto L x).length + (upto (past L x) (x + 1)).length = (upto L (x + 1)).length := by
  have h := upto_step (L := L) hu (Nat.lt_succ_self x) (fun y _ hy => hy)
  have e : due (past L x) (x + 1) = upto (past L x) (x + 1) := by
    unfold due upto past
    rw [List.filter_filter, List.filter_filter]
    refine List.filter_congr fun z _ => ?_
    by_cases c : x < z.2
    · have : z.2 = x + 1 ↔ z.2 ≤ x + 1 := by omega
      simp [c, this]
    · simp [c]
  rw [e] at h
  rw [← List.length_append, ← h]
theorem past_two {L : List Tm} {x : Nat} : past (past L x) (x + 1) = past L (x + 1) := by
  unfold past
  rw [List.filter_filter]
  refine List.filter_congr fun z _ => ?_
  by_cases c : x + 1 < z.2
  · have : x < z.2 := by omega
    simp [c, this]
  · simp [c]
theorem all_upto {L : List Tm} {x : Nat} (h : ∀ y ∈ L, y.2 ≤ x) : upto L x = L ∧ past L x = [] := by
  constructor
  · unfold upto
    rw [List.filter_eq_self]
    intro y hy
    simpa using h y hy
  · unfold past
    rw [List.filter_eq_nil_iff]
    intro y hy
    have := h y hy
    simp; omega
theorem due_perm {M L : List Tm} (p : M.Perm L) (hn : (ks L).Nodup) (k : ByteArray) (a : Nat) : (if hasK M k = true then upd M k a else M ++ [(k, a)]).Perm (ins (del L k) (k, a)) := by
  refine List.Perm.trans ?_ (ins_perm _ _).symm
  have hd : (del M k).Perm (del L k) := p.filter _
  by_cases h : hasK M k = true
  · rw [if_pos h]
    exact (upd_perm (perm_nd p hn) h).trans (hd.cons _)
  · rw [if_neg h]
    have h' : hasK M k = false := by simpa using h
    rw [del_none h'] at hd
    exact List.perm_append_comm.trans (hd.cons _)
theorem due_max {L : List Tm} {k : ByteArray} {a lst ls2 : Nat} (h : ∀ x ∈ L, x.2 ≤ lst) (e : ls2 = max lst a) : ∀ x ∈ ins (del L k) (k, a), x.2 ≤ ls2 := by
  intro x hx
  rcases List.mem_cons.1 ((ins_perm _ _).mem_iff.1 hx) with rfl | hx
  · show a ≤ ls2; omega
  · have := h x (List.mem_filter.1 hx).1
    omega
end Go.Proofs.YtmgiiofjlgchfaaDoor.Wh
