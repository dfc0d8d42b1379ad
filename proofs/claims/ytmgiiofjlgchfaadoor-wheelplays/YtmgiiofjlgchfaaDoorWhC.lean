
/- Plain mathematics of wheels, the third part: the time goes on; what comes, what falls. -/
import Derived.Test.YtmgiiofjlgchfaaDoorWhN
namespace Go.Proofs.YtmgiiofjlgchfaaDoor.Wh

def inK (K : List ByteArray) (k : ByteArray) : Bool := K.any (fun y => decide (y = k))
theorem inK_iff {K : List ByteArray} {k : ByteArray} : inK K k = true ↔ k ∈ K := by simp [inK]
theorem inK_not {K : List ByteArray} {k : ByteArray} : inK K k = false ↔ k ∉ K := by rw [← inK_iff]; simp
theorem inK_snoc (K : List ByteArray) (x k : ByteArray) : inK (K ++ [x]) k = (inK K k || decide (x = k)) := by simp [inK]
/- what comes at a time, and what is left -/
def due (L : List Tm) (u : Nat) : List Tm := L.filter (fun x => decide (x.2 = u))
def left (L : List Tm) (u : Nat) : List Tm := L.filter (fun x => decide (x.2 ≠ u))
/- the keys of the slot that the time u has come to -/
def slotK (S : Sl) (u : Nat) : List ByteArray := S (low u) (dig u (low u))
/- behind the first keys of it: the map, the told, the slots -/
def fL (L : List Tm) (u : Nat) (K1 : List ByteArray) : List Tm := L.filter (fun x => !(decide (x.2 = u) && inK K1 x.1))
def fT (L : List Tm) (u : Nat) (K1 : List ByteArray) : List Tm := (K1.filter (fun k => decide (atK L k = u))).map (fun k => (k, u))
def fS (L : List Tm) (S : Sl) (u : Nat) (K1 : List ByteArray) : Sl :=
  fun g d => put S (low u) (dig u (low u)) [] g d ++ K1.filter (fun k => decide (atK L k ≠ u) && here u g d (k, atK L k))
theorem fL_nil (L : List Tm) (u : Nat) : fL L u [] = L := by simp [fL, inK]
theorem fT_nil (L : List Tm) (u : Nat) : fT L u [] = [] := rfl
theorem fS_nil (L : List Tm) (S : Sl) (u : Nat) : fS L S u [] = put S (low u) (dig u (low u)) [] := by funext g d; simp [fS]
/- one more key, which falls -/
theorem fL_fall {L : List Tm} {u : Nat} {K1 : List ByteArray} {k : ByteArray} (hn : (ks L).Nodup) (h : atK L k ≠ u) : fL L u (K1 ++ [k]) = fL L u K1 := by
  refine List.filter_congr fun x hx => ?_
  congr 1
  by_cases e : x.2 = u
  · have : ¬ k = x.1 := fun e2 => h (by rw [e2, atK_of hn hx]; exact e)
    simp [inK_snoc, this]
  · simp [e]
theorem fT_fall {L : List Tm} {u : Nat} {K1 : List ByteArray} {k : ByteArray} (h : atK L k ≠ u) : fT L u (K1 ++ [k]) = fT L u K1 := by
  simp [fT, List.filter_append, h]
theorem fS_fall {L : List Tm} {S : Sl} {u : Nat} {K1 : List ByteArray} {k : ByteArray} {g : Nat} (h : atK L k ≠ u) (hg : whl u (atK L k) = g) :
    fS L S u (K1 ++ [k]) = put (fS L S u K1) g (dig (atK L k) g) (fS L S u K1 g (dig (atK L k) g) ++ [k]) := by
  funext g' d'
  by_cases hh : g' = g ∧ d' = dig (atK L k) g
  · obtain ⟨rfl, rfl⟩ := hh
    rw [put_same]
    have : here u g' (dig (atK L k) g') (k, atK L k) = true := here_iff.2 ⟨hg, rfl⟩
    simp [fS, List.filter_append, h, this, List.append_assoc]
  · rw [put_other _ _ hh]
    have : here u g' d' (k, atK L k) = false := by
      cases e : here u g' d' (k, atK L k) with
      | false => rfl
      | true =>
        obtain ⟨e1, e2⟩ := here_iff.1 e
        simp only at e1 e2
        rw [hg] at e1
        subst e1
        exact absurd ⟨rfl, e2.symm⟩ hh
    simp [fS, List.filter_append, this]
/- one more key, which has come -/
theorem fL_come {L : List Tm} {u : Nat} {K1 : List ByteArray} {k : ByteArray} (hn : (ks L).Nodup) (h : atK L k = u) : fL L u (K1 ++ [k]) = del (fL L u K1) k := by
  unfold del fL
  rw [List.filter_filter]
  refine List.filter_congr fun x hx => ?_
  by_cases e2 : x.1 = k
  · have e : x.2 = u := by rw [← h, ← e2, atK_of hn hx]
    simp [e, e2, inK_snoc]
  · have : ¬ k = x.1 := fun e => e2 e.symm
    simp [e2, inK_snoc, this]
theorem fT_come {L : List Tm} {u : Nat} {K1 : List ByteArray} {k : ByteArray} (h : atK L k = u) : fT L u (K1 ++ [k]) = fT L u K1 ++ [(k, u)] := by
  simp [fT, List.filter_append, h]
theorem fS_come {L : List Tm} {S : Sl} {u : Nat} {K1 : List ByteArray} {k : ByteArray} (h : atK L k = u) : fS L S u (K1 ++ [k]) = fS L S u K1 := by
  funext g d
  simp [fS, List.filter_append, h]
theorem fL_at {L : List Tm} {u : Nat} {K1 : List ByteArray} (hn : (ks L).Nodup) {k : ByteArray} (hk : hasK L k = true) (hK : k ∉ K1) : (k, atK L k) ∈ fL L u K1 := by
  obtain ⟨a, ha⟩ := hasK_mem hk
  have := atK_of hn ha
  simp only at this
  rw [this]
  exact List.mem_filter.2 ⟨ha, by simp [inK_not.2 hK]⟩

/- the keys of the slot: which they are -/
theorem slot_key {t u : Nat} {L : List Tm} {S : Sl} (h : Inv t L S) (h1 : t < u) (h2 : ∀ x ∈ L, u ≤ trn t x.2) {x : Tm} (hx : x ∈ L) :
    x.1 ∈ slotK S u ↔ x.2 / 32 ^ whl t x.2 = u / 32 ^ whl t x.2 := by
  rw [← slot_iff h1 (h2 x hx) (h.lim hx)]
  unfold slotK
  rw [h.mem]
  constructor
  · rintro ⟨a, ha, hb⟩
    have := congrArg Prod.snd (key_one h.ok.nd ha hx rfl)
    simp only at this
    subst this
    exact hb
  · intro hb
    exact ⟨x.2, hx, hb⟩
theorem slot_mem {t : Nat} {L : List Tm} {S : Sl} (h : Inv t L S) {u : Nat} {k : ByteArray} (hk : k ∈ slotK S u) : (k, atK L k) ∈ L := by
  obtain ⟨a, ha, _⟩ := h.mem.1 hk
  have := atK_of h.ok.nd ha
  simp only at this
  rw [this]; exact ha
theorem slot_nd {t : Nat} {L : List Tm} {S : Sl} (h : Inv t L S) (g d : Nat) : (S g d).Nodup :=
  (h.sl g d).nodup_iff.2 (ks_sub List.filter_sublist h.ok.nd)
/- a key of the slot stands under the new time, or is it -/
theorem slot_eq {t u : Nat} {L : List Tm} {S : Sl} (h : Inv t L S) (h1 : t < u) (h2 : ∀ x ∈ L, u ≤ trn t x.2) {k : ByteArray} (hk : k ∈ slotK S u) :
    atK L k / 32 ^ low u = u / 32 ^ low u ∧ u ≤ atK L k := by
  have hm := slot_mem h hk
  have e := (slot_key h h1 h2 hm).1 hk
  have hw := comes h1 (h2 _ hm) (h.lim hm) e
  simp only at e hw
  rw [hw] at e
  exact ⟨e, Nat.le_trans (h2 _ hm) (trn_le _ _)⟩
theorem in_slot {t u : Nat} {L : List Tm} {S : Sl} (h : Inv t L S) (h1 : t < u) (h2 : ∀ x ∈ L, u ≤ trn t x.2) (hu : u < 2 ^ 30) {x : Tm} (hx : x ∈ L) (hk : x.1 ∈ slotK S u) (hne : x.2 ≠ u) : whl u x.2 < low u := by
  obtain ⟨e, _⟩ := slot_eq h h1 h2 hk
  rw [atK_of h.ok.nd hx] at e
  have hi := (whl_in hne (h.lim hx) hu).1
  apply Classical.byContradiction
  intro hc
  exact hi.2 (div_eq_more (by omega) e)
theorem off_slot {t u : Nat} {L : List Tm} {S : Sl} (h : Inv t L S) (h1 : t < u) (h2 : ∀ x ∈ L, u ≤ trn t x.2) {x : Tm} (hx : x ∈ L) (hk : x.1 ∉ slotK S u) : x.2 ≠ u ∧ whl u x.2 = whl t x.2 := by
  rw [slot_key h h1 h2 hx] at hk
  exact ⟨fun e => hk (by rw [e]), stays h1 (h2 x hx) (h.lim hx) hk⟩

theorem part_perm {α : Type} (p q : α → Bool) (L : List α) : (L.filter p).Perm (L.filter (fun x => p x && !q x) ++ L.filter (fun x => p x && q x)) := by
  have h := (List.filter_append_perm q (L.filter p)).symm
  rw [List.filter_filter, List.filter_filter] at h
  refine h.trans (List.perm_append_comm.trans ?_)
  rw [List.filter_congr (q := fun x => p x && !q x) (fun x _ => Bool.and_comm _ _), List.filter_congr (p := fun a => q a && p a) (q := fun x => p x && q x) (fun x _ => Bool.and_comm _ _)]
/- all of the slot's keys gone through -/
theorem come_inv {t u : Nat} {L : List Tm} {S : Sl} (h : Inv t L S) (h1 : t < u) (hu : u ≤ 1000000000) (h2 : ∀ x ∈ L, u ≤ trn t x.2) :
    Inv u (left L u) (fS L S u (slotK S u)) := by
  have hu' : u < 2 ^ 30 := by omega
  have hsub : (left L u).Sublist L := List.filter_sublist
  refine ⟨⟨h.ok.up.sublist hsub, ks_sub hsub h.ok.nd, ?_, fun x hx => h.ok.size x (hsub.subset hx), Nat.le_trans hsub.length_le h.ok.few, hu⟩, fun g d => ?_⟩
  · intro x hx
    obtain ⟨hx, hne⟩ := List.mem_filter.1 hx
    have h3 := Nat.le_trans (h2 x hx) (trn_le _ _)
    have hne : x.2 ≠ u := by simpa using hne
    exact ⟨by omega, (h.ok.ahead x hx).2⟩
  · -- the timers that stand there now: those of the slot, and the others
    have hp : ((left L u).filter (here u g d)).Perm _ := part_perm (here u g d) (fun x => inK (slotK S u) x.1) (left L u)
    refine List.Perm.trans ?_ (hp.map Prod.fst).symm
    rw [List.map_append]
    unfold fS
    refine List.Perm.append ?_ ?_
    · -- those that stay
      have e1 : (left L u).filter (fun x => here u g d x && !inK (slotK S u) x.1) = if g = low u ∧ d = dig u (low u) then [] else L.filter (here t g d) := by
        unfold left
        rw [List.filter_filter]
        split
        · rename_i hh
          rw [List.filter_eq_nil_iff]
          intro x hx
          by_cases hk : x.1 ∈ slotK S u
          · simp [inK_iff.2 hk]
          · obtain ⟨o1, o2⟩ := off_slot h h1 h2 hx hk
            have : here u g d x = false := by
              cases e : here u g d x with
              | false => rfl
              | true =>
                obtain ⟨e1, e2⟩ := here_iff.1 e
                rw [hh.1] at e1 e2; rw [hh.2] at e2
                rw [o2] at e1
                refine absurd ?_ hk
                rw [slot_key h h1 h2 hx, ← slot_iff h1 (h2 x hx) (h.lim hx)]
                exact ⟨e1, e2⟩
            simp [this]
        · rename_i hh
          refine List.filter_congr fun x hx => ?_
          by_cases hk : x.1 ∈ slotK S u
          · have : here t g d x = false := by
              cases e : here t g d x with
              | false => rfl
              | true =>
                obtain ⟨e1, e2⟩ := here_iff.1 e
                rw [slot_key h h1 h2 hx, ← slot_iff h1 (h2 x hx) (h.lim hx)] at hk
                refine absurd ?_ hh
                rw [hk.1] at e1
                subst e1
                exact ⟨rfl, by rw [← e2]; exact hk.2⟩
            simp [inK_iff.2 hk, this]
          · obtain ⟨o1, o2⟩ := off_slot h h1 h2 hx hk
            have : here u g d x = here t g d x := by unfold here; rw [o2]
            simp [inK_not.2 hk, o1, this]
      rw [e1]
      unfold put
      split
      · exact .rfl
      · exact h.sl g d
    · -- those that fall
      have hs : (slotK S u).Perm (ks (L.filter (here t (low u) (dig u (low u))))) := h.sl _ _
      refine (hs.filter _).trans ?_
      unfold ks
      rw [List.filter_map]
      refine List.Perm.map _ (.of_eq ?_)
      unfold left
      rw [List.filter_filter, List.filter_filter]
      refine List.filter_congr fun x hx => ?_
      have e1 : here t (low u) (dig u (low u)) x = inK (slotK S u) x.1 := by
        rw [Bool.eq_iff_iff, here_iff, inK_iff, slot_key h h1 h2 hx, ← slot_iff h1 (h2 x hx) (h.lim hx)]
      simp only [Function.comp_apply, e1, atK_of h.ok.nd hx]
      by_cases c1 : x.2 = u <;> cases c2 : inK (slotK S u) x.1 <;> simp [c1]
theorem come_left {t u : Nat} {L : List Tm} {S : Sl} (h : Inv t L S) (h1 : t < u) (h2 : ∀ x ∈ L, u ≤ trn t x.2) : fL L u (slotK S u) = left L u := by
  refine List.filter_congr fun x hx => ?_
  by_cases e : x.2 = u
  · have : x.1 ∈ slotK S u := by rw [slot_key h h1 h2 hx, e]
    simp [e, inK_iff.2 this]
  · simp [e]
theorem come_due {t u : Nat} {L : List Tm} {S : Sl} (h : Inv t L S) (h1 : t < u) (h2 : ∀ x ∈ L, u ≤ trn t x.2) : (fT L u (slotK S u)).Perm (due L u) := by
  have hs : (slotK S u).Perm (ks (L.filter (here t (low u) (dig u (low u))))) := h.sl _ _
  refine ((hs.filter _).map _).trans (.of_eq ?_)
  unfold ks due
  rw [List.filter_map, List.map_map, List.filter_filter]
  have e : L.filter (fun a => ((fun k => decide (atK L k = u)) ∘ Prod.fst) a && here t (low u) (dig u (low u)) a) = L.filter (fun x => decide (x.2 = u)) := by
    refine List.filter_congr fun x hx => ?_
    have e1 : here t (low u) (dig u (low u)) x = inK (slotK S u) x.1 := by
      rw [Bool.eq_iff_iff, here_iff, inK_iff, slot_key h h1 h2 hx, ← slot_iff h1 (h2 x hx) (h.lim hx)]
    simp only [Function.comp_apply, e1, atK_of h.ok.nd hx]
    by_cases c : x.2 = u
    · have : x.1 ∈ slotK S u := by rw [slot_key h h1 h2 hx, c]
      simp [c, inK_iff.2 this]
    · simp [c]
  rw [e]
  conv => rhs; rw [← List.map_id (L.filter (fun x => decide (x.2 = u)))]
  refine List.map_congr_left fun x hx => ?_
  have := (List.mem_filter.1 hx).2
  simp only [Function.comp_apply, id]
  exact Prod.ext rfl (of_decide_eq_true this).symm
theorem due_up {t u : Nat} {L : List Tm} (h : Ok t L) : Up (due L u) := h.up.sublist List.filter_sublist

/- what comes up to a time -/
def upto (L : List Tm) (u : Nat) : List Tm := L.filter (fun x => decide (x.2 ≤ u))
def past (L : List Tm) (u : Nat) : List Tm := L.filter (fun x => decide (u < x.2))
theorem upto_now {t : Nat} {L : List Tm} (h : Ok t L) : upto L t = [] := by
  unfold upto
  rw [List.filter_eq_nil_iff]
  intro x hx
  have := (h.ahead x hx).1
  simp; omega
theorem past_now {t : Nat} {L : List Tm} (h : Ok t L) : past L t = L := by
  unfold past
  rw [List.filter_eq_self]
  intro x hx
  have := (h.ahead x hx).1
  simp; omega
theorem up_le {x : Tm} {L : List Tm} (h : Up (x :: L)) : ∀ y ∈ L, x.2 ≤ y.2 := fun y hy => tlt_le ((List.pairwise_cons.1 h).1 y hy)
/- the time goes from s on to u, nothing between -/
theorem upto_step {L : List Tm} (h : Up L) {s u : Nat} (hs : s < u) (hno : ∀ x ∈ L, s < x.2 → u ≤ x.2) : upto L u = upto L s ++ due (past L s) u := by
  induction L with
  | nil => rfl
  | cons x L ih =>
    have ih := ih (List.pairwise_cons.1 h).2 (fun y hy => hno y (List.mem_cons_of_mem _ hy))
    by_cases c : x.2 ≤ s
    · have e1 : upto (x :: L) u = x :: upto L u := by unfold upto; rw [List.filter_cons, if_pos (by simp; omega)]
      have e2 : upto (x :: L) s = x :: upto L s := by unfold upto; rw [List.filter_cons, if_pos (by simpa using c)]
      have e3 : past (x :: L) s = past L s := by unfold past; rw [List.filter_cons, if_neg (by simpa using c)]
      rw [e1, e2, e3, ih]; rfl
    · have e2 : upto (x :: L) s = [] := by
        unfold upto
        rw [List.filter_eq_nil_iff]
        intro y hy
        rcases List.mem_cons.1 hy with rfl | hy
        · simpa using c
        · have := up_le h y hy; simp; omega
      rw [e2, List.nil_append]
      unfold upto due past
      rw [List.filter_filter]
      refine List.filter_congr fun y hy => ?_
      have h1 := hno y hy
      by_cases c2 : s < y.2
      · have := h1 c2
        have : (y.2 ≤ u) ↔ (y.2 = u) := by omega
        simp [c2, this]
      · exfalso
        rcases List.mem_cons.1 hy with rfl | hy
        · omega
        · have := up_le h y hy; omega
theorem past_step {L : List Tm} {s u : Nat} (hs : s < u) (hno : ∀ x ∈ L, s < x.2 → u ≤ x.2) : past L u = left (past L s) u := by
  unfold past left
  rw [List.filter_filter]
  refine List.filter_congr fun y hy => ?_
  have h1 := hno y hy
  by_cases c2 : s < y.2
  · have := h1 c2
    have : (u < y.2) ↔ (y.2 ≠ u) := by omega
    simp [c2, this]
  · have : ¬ u < y.2 := by omega
    simp [c2, this]
theorem upto_past : ∀ {L : List Tm}, Up L → ∀ u, upto L u ++ past L u = L
  | [], _, _ => rfl
  | x :: L, h, u => by
    have ih := upto_past (List.pairwise_cons.1 h).2 u
    by_cases c : x.2 ≤ u
    · have e1 : upto (x :: L) u = x :: upto L u := by unfold upto; rw [List.filter_cons, if_pos (by simpa using c)]
      have e3 : past (x :: L) u = past L u := by unfold past; rw [List.filter_cons, if_neg (by simpa using c)]
      rw [e1, e3, List.cons_append, ih]
    · have e2 : upto (x :: L) u = [] := by
        unfold upto
        rw [List.filter_eq_nil_iff]
        intro y hy
        rcases List.mem_cons.1 hy with rfl | hy
        · simpa using c
        · have := up_le h y hy; simp; omega
      have e3 : past (x :: L) u = x :: L := by
        unfold past
        rw [List.filter_eq_self]
        intro y hy
        rcases List.mem_cons.1 hy with rfl | hy
        · simp; omega
        · have := up_le h y hy; simp; omega
      rw [e2, e3]; rfl
/- a Tick is a step of one -/
theorem tick_ok {t : Nat} {L : List Tm} {S : Sl} (h : Inv t L S) : ∀ x ∈ L, t + 1 ≤ trn t x.2 := fun x hx => trn_gt (h.ok.ahead x hx).1 (h.lim hx)
theorem tick_upto {t : Nat} {L : List Tm} (h : Ok t L) : due L (t + 1) = upto L (t + 1) ∧ left L (t + 1) = past L (t + 1) := by
  have h1 := upto_step h.up (Nat.lt_succ_self t) (fun x _ hx => hx)
  have h2 := past_step (L := L) (Nat.lt_succ_self t) (fun x _ hx => hx)
  rw [upto_now h, past_now h] at h1
  rw [past_now h] at h2
  exact ⟨h1.symm, h2.symm⟩
end Go.Proofs.YtmgiiofjlgchfaaDoor.Wh
