/- What the proof is made of, part 6. -/
import Derived.Test.YtfobfpigbfepoaaTLBOrder5
import Derived.Lib.Bytealg
import Derived.RangeFuncOwn
namespace Go.Proofs.Ytfobfpigbfepoaa.Bk
open Df (Stp)
def lt (x y : ByteArray) : Bool := Op.bytesLess x.toList y.toList
theorem bl_irrefl : ∀ l : List UInt8, Op.bytesLess l l = false
  | [] => rfl
  | a :: x => by simp [Op.bytesLess, bl_irrefl x]
theorem bl_trans : ∀ x y z : List UInt8, Op.bytesLess x y = true → Op.bytesLess y z = true → Op.bytesLess x z = true
  | x, [], _, h, _ => by cases x <;> simp [Op.bytesLess] at h
  | _, b :: y, [], _, h => by simp [Op.bytesLess] at h
  | [], _ :: _, _ :: _, _, _ => rfl
  | a :: x, b :: y, c :: z, h1, h2 => by
    simp only [Op.bytesLess, Bool.or_eq_true, Bool.and_eq_true, decide_eq_true_eq, beq_iff_eq] at h1 h2 ⊢
    rcases h1 with h1 | ⟨rfl, h1⟩
    · rcases h2 with h2 | ⟨rfl, h2⟩
      · exact Or.inl (UInt8.lt_trans h1 h2)
      · exact Or.inl h1
    · rcases h2 with h2 | ⟨rfl, h2⟩
      · exact Or.inl h2
      · exact Or.inr ⟨rfl, bl_trans x y z h1 h2⟩
theorem bl_tri : ∀ x y : List UInt8, Op.bytesLess x y = false → Op.bytesLess y x = false → x = y
  | [], [], _, _ => rfl
  | [], _ :: _, h, _ => by simp [Op.bytesLess] at h
  | _ :: _, [], _, h => by simp [Op.bytesLess] at h
  | a :: x, b :: y, h1, h2 => by
    simp only [Op.bytesLess, Bool.or_eq_false_iff, Bool.and_eq_false_iff, decide_eq_false_iff_not] at h1 h2
    have e : a = b := UInt8.le_antisymm (UInt8.not_lt.1 h2.1) (UInt8.not_lt.1 h1.1)
    subst e
    rw [bl_tri x y (by simpa using h1.2) (by simpa using h2.2)]
theorem cmp_sign : ∀ x y : List UInt8, (Lib.compareBytes x y < 0 ↔ Op.bytesLess x y = true) ∧ (Lib.compareBytes x y = 0 ↔ x = y)
  | [], [] => by simp [Lib.compareBytes, Op.bytesLess]
  | [], _ :: _ => by simp [Lib.compareBytes, Op.bytesLess]
  | _ :: _, [] => by simp [Lib.compareBytes, Op.bytesLess]
  | a :: x, b :: y => by
    obtain ⟨h1, h2⟩ := cmp_sign x y
    unfold Lib.compareBytes Op.bytesLess
    by_cases hab : a < b
    · rw [if_pos hab]
      refine ⟨by simp [hab], ?_⟩
      simp
      intro e; subst e; exact absurd hab (UInt8.lt_irrefl a)
    · rw [if_neg hab]
      by_cases hba : b < a
      · rw [if_pos hba]
        have : ¬ a = b := fun e => by subst e; exact hab hba
        simp [hab, this]
      · rw [if_neg hba]
        have e : a = b := UInt8.le_antisymm (UInt8.not_lt.1 hba) (UInt8.not_lt.1 hab)
        subst e
        simp [h1, h2, hab]
theorem toL (x : ByteArray) : x.toList = x.data.toList := ByteArray.toList_eq x
theorem lt_irrefl (x : ByteArray) : lt x x = false := bl_irrefl _
theorem lt_trans {x y z : ByteArray} (h : lt x y = true) (k : lt y z = true) : lt x z = true := bl_trans _ _ _ h k
theorem toL_inj {x y : ByteArray} (h : x.toList = y.toList) : x = y := by
  rw [toL, toL] at h
  cases x; cases y
  simp at h
  rw [h]
theorem lt_tri {x y : ByteArray} (h : lt x y = false) (k : lt y x = false) : x = y := toL_inj (bl_tri _ _ h k)
theorem lt_asymm {x y : ByteArray} (h : lt x y = true) : lt y x = false := by
  cases k : lt y x with
  | false => rfl
  | true => have := lt_trans h k; rw [lt_irrefl] at this; cases this
theorem lt_ne {x y : ByteArray} (h : lt x y = true) : x ≠ y := fun e => by rw [e, lt_irrefl] at h; cases h
theorem ge_trans {x y z : ByteArray} (h : lt x z = false) (k : lt x y = true) : lt y z = false := by
  cases e : lt y z with
  | false => rfl
  | true => rw [lt_trans k e] at h; cases h
theorem le_not (x y : ByteArray) : (Op.bytesLess x.toList y.toList || x.toList == y.toList) = !lt y x := by
  cases h : lt y x with
  | true =>
    have h1 : Op.bytesLess x.toList y.toList = false := lt_asymm h
    have h2 : (x.toList == y.toList) = false := by
      rw [beq_eq_false_iff_ne]
      intro e; exact lt_ne h (toL_inj e).symm
    rw [h1, h2]; rfl
  | false =>
    cases h1 : Op.bytesLess x.toList y.toList with
    | true => rfl
    | false =>
      have e : x = y := lt_tri h1 h
      subst e; simp
def cmpE (x y : ByteArray) : Int := Lib.compareBytes x.data.toList y.data.toList
theorem cmp_neg (x y : ByteArray) : cmpE x y < 0 ↔ lt x y = true := by unfold cmpE lt; rw [toL, toL]; exact (cmp_sign _ _).1
theorem cmp_zero (x y : ByteArray) : cmpE x y = 0 ↔ x = y := by
  unfold cmpE
  rw [(cmp_sign _ _).2]
  constructor
  · intro h; exact toL_inj (by rw [toL, toL]; exact h)
  · intro h; rw [h]
def upB : List ByteArray → Bool
  | [] => true
  | [_] => true
  | x :: y :: t => lt x y && upB (y :: t)
theorem up_iff : ∀ L : List ByteArray, upB L = true ↔ ∀ j (h : j + 1 < L.length), lt L[j] L[j + 1] = true
  | [] => by simp [upB]
  | [_] => by simp [upB]
  | x :: y :: t => by
    rw [upB, Bool.and_eq_true, up_iff (y :: t)]
    constructor
    · rintro ⟨h1, h2⟩ j hj
      cases j with
      | zero => exact h1
      | succ j => exact h2 j (by simpa using hj)
    · intro h
      exact ⟨h 0 (by simp), fun j hj => h (j + 1) (by simpa using hj)⟩
theorem up_lt {L : List ByteArray} (h : upB L = true) : ∀ i j (hi : i < j) (hj : j < L.length), lt L[i] L[j] = true := by
  rw [up_iff] at h
  intro i j hij
  induction j with
  | zero => omega
  | succ j ih =>
    intro hj
    by_cases e : i = j
    · subst e; exact h i hj
    · exact lt_trans (ih (by omega) (by omega)) (h j hj)
def hasB (L : List ByteArray) (s : ByteArray) : Bool := L.any (fun x => decide (x = s))
theorem has_iff (L : List ByteArray) (s : ByteArray) : hasB L s = true ↔ s ∈ L := by
  unfold hasB; rw [List.any_eq_true]
  constructor
  · rintro ⟨x, hx, e⟩; rw [decide_eq_true_eq] at e; rw [← e]; exact hx
  · intro h; exact ⟨s, h, decide_eq_true rfl⟩
def pos (L : List ByteArray) (s : ByteArray) : Nat := (L.takeWhile (fun x => lt x s)).length
theorem pos_le (L : List ByteArray) (s : ByteArray) : pos L s ≤ L.length := by
  unfold pos; exact (List.takeWhile_sublist _).length_le
theorem pos_iff : ∀ (L : List ByteArray) (s : ByteArray), upB L = true → ∀ j (h : j < L.length), (lt L[j] s = true ↔ j < pos L s)
  | [], _, _, j, h => by simp at h
  | x :: t, s, hu, j, h => by
    have hut : upB t = true := by
      cases t with
      | nil => rfl
      | cons y t => rw [upB, Bool.and_eq_true] at hu; exact hu.2
    cases hx : lt x s with
    | true =>
      have hp : pos (x :: t) s = pos t s + 1 := by unfold pos; rw [List.takeWhile_cons, hx]; simp
      rw [hp]
      cases j with
      | zero => simp [hx]
      | succ j => rw [List.getElem_cons_succ, pos_iff t s hut j (by simpa using h)]; omega
    | false =>
      have hp : pos (x :: t) s = 0 := by unfold pos; rw [List.takeWhile_cons, hx]; simp
      rw [hp]
      have : lt (x :: t)[j] s = false := by
        cases j with
        | zero => exact hx
        | succ j => exact ge_trans hx (up_lt hu 0 (j + 1) (by omega) h)
      simp [this]
theorem pos_eq {L : List ByteArray} {s : ByteArray} (hu : upB L = true) (j : Nat) (h : j < L.length) (e : L[j] = s) : pos L s = j := by
  have h1 : ¬ j < pos L s := by rw [← pos_iff L s hu j h, e, lt_irrefl]; simp
  by_cases h2 : pos L s < j
  · have := (pos_iff L s hu (pos L s) (by omega))
    have h3 := up_lt hu _ _ h2 h
    rw [e] at h3
    rw [h3] at this; simp at this
  · omega
theorem pos_mem {L : List ByteArray} {s : ByteArray} (hu : upB L = true) (hm : s ∈ L) : ∃ h : pos L s < L.length, L[pos L s] = s := by
  obtain ⟨j, hj, e⟩ := List.getElem_of_mem hm
  have := pos_eq hu j hj e
  exact ⟨by omega, by simp only [this, e]⟩
theorem pos_gt {L : List ByteArray} {s : ByteArray} (hu : upB L = true) (hm : s ∉ L) : ∀ j (h : j < L.length), pos L s ≤ j → lt s L[j] = true := by
  intro j h hj
  have h1 : lt L[j] s = false := by
    cases e : lt L[j] s with
    | false => rfl
    | true => have := (pos_iff L s hu j h).1 e; omega
  cases e : lt s L[j] with
  | true => rfl
  | false => exact absurd (List.getElem_mem h) (by rw [lt_tri h1 e]; exact hm)
theorem up_ins {L : List ByteArray} {s : ByteArray} (hu : upB L = true) (hm : s ∉ L) : upB (L.take (pos L s) ++ s :: L.drop (pos L s)) = true := by
  have hp := pos_le L s
  rw [up_iff]
  intro j hj
  have hlen : (L.take (pos L s)).length = pos L s := by rw [List.length_take]; omega
  rw [List.length_append, List.length_cons, List.length_drop, hlen] at hj
  by_cases h1 : j + 1 < pos L s
  · rw [List.getElem_append_left (by omega), List.getElem_append_left (by omega), List.getElem_take, List.getElem_take]
    exact up_lt hu _ _ (by omega) _
  · by_cases h2 : j + 1 = pos L s
    · rw [List.getElem_append_left (by omega), List.getElem_append_right (by omega), List.getElem_take]
      simp only [hlen, h2, Nat.sub_self, List.getElem_cons_zero]
      exact (pos_iff L s hu j (by omega)).2 (by omega)
    · rw [List.getElem_append_right (by omega), List.getElem_append_right (by omega)]
      simp only [hlen]
      have e1 : j + 1 - pos L s = (j - pos L s) + 1 := by omega
      simp only [e1, List.getElem_cons_succ, List.getElem_drop]
      by_cases h3 : j = pos L s
      · simp only [h3, Nat.sub_self, List.getElem_cons_zero]
        exact pos_gt hu hm _ _ (by omega)
      · have e2 : j - pos L s = (j - pos L s - 1) + 1 := by omega
        rw [List.getElem_cons, dif_neg (by omega), List.getElem_drop]
        exact up_lt hu _ _ (by omega) _
structure Dn where
  nm : ByteArray
  L : List Stp
theorem dn_ext {a b : Dn} (h : a.nm = b.nm) (k : a.L = b.L) : a = b := by cases a; cases b; simp at h k; subst h k; rfl
def nms (D : List Dn) : List ByteArray := D.map Dn.nm
theorem nms_len (D : List Dn) : (nms D).length = D.length := by simp [nms]
theorem nms_get (D : List Dn) (j : Nat) (h : j < D.length) : (nms D)[j]'(by rw [nms_len]; exact h) = D[j].nm := by simp [nms]
def okB (d : Dn) : Bool := Df.defB d.nm d.L
def mayB (D : List Dn) : Bool := decide (D.length ≤ 8) && D.all okB && upB (nms D)
theorem may_iff (D : List Dn) : mayB D = true ↔ D.length ≤ 8 ∧ (∀ d ∈ D, okB d = true) ∧ upB (nms D) = true := by
  unfold mayB; simp only [Bool.and_eq_true, decide_eq_true_eq, List.all_eq_true, and_assoc]
def mayE (D : List Dn) : Int := if mayB D = true then 0 else 2
def ins (D : List Dn) (d : Dn) : List Dn := D.take (pos (nms D) d.nm) ++ d :: D.drop (pos (nms D) d.nm)
def putE (D : List Dn) (d : Dn) : Int := if okB d = false then 90 else if hasB (nms D) d.nm = true then 71 else if 8 ≤ D.length then 3 else 0
def addE : List Dn → List Dn → Int
  | _, [] => 0
  | D, d :: t => if putE D d = 0 then addE (ins D d) t else putE D d
def addD : List Dn → List Dn → List Dn
  | D, [] => D
  | D, d :: t => if putE D d = 0 then addD (ins D d) t else []
theorem ins_len (D : List Dn) (d : Dn) : (ins D d).length = D.length + 1 := by
  have := pos_le (nms D) d.nm
  rw [nms_len] at this
  unfold ins
  rw [List.length_append, List.length_cons, List.length_take, List.length_drop]; omega
theorem ins_nms (D : List Dn) (d : Dn) : nms (ins D d) = (nms D).take (pos (nms D) d.nm) ++ d.nm :: (nms D).drop (pos (nms D) d.nm) := by
  unfold ins nms
  rw [List.map_append, List.map_cons, List.map_take, List.map_drop]
theorem ins_mem (D : List Dn) (d x : Dn) : x ∈ ins D d ↔ x = d ∨ x ∈ D := by
  have h : x ∈ D ↔ x ∈ D.take (pos (nms D) d.nm) ∨ x ∈ D.drop (pos (nms D) d.nm) := by
    rw [← List.mem_append, List.take_append_drop]
  unfold ins
  rw [List.mem_append, List.mem_cons, h]
  constructor
  · rintro (h | h | h)
    · exact Or.inr (Or.inl h)
    · exact Or.inl h
    · exact Or.inr (Or.inr h)
  · rintro (h | h | h)
    · exact Or.inr (Or.inl h)
    · exact Or.inl h
    · exact Or.inr (Or.inr h)
theorem put_zero {D : List Dn} {d : Dn} : putE D d = 0 ↔ okB d = true ∧ d.nm ∉ nms D ∧ D.length < 8 := by
  unfold putE
  cases h1 : okB d with
  | false => simp
  | true =>
    cases h2 : hasB (nms D) d.nm with
    | true => simp [(has_iff _ _).1 h2]
    | false =>
      have : d.nm ∉ nms D := fun h => by rw [(has_iff _ _).2 h] at h2; cases h2
      by_cases h3 : 8 ≤ D.length
      · simp [h3]
      · simp [h3, this]; omega
theorem ins_may {D : List Dn} {d : Dn} (h : mayB D = true) (hp : putE D d = 0) : mayB (ins D d) = true := by
  obtain ⟨h1, h2, h3⟩ := (may_iff D).1 h
  obtain ⟨p1, p2, p3⟩ := put_zero.1 hp
  refine (may_iff _).2 ⟨by rw [ins_len]; omega, fun x hx => ?_, ?_⟩
  · rcases (ins_mem D d x).1 hx with rfl | hx
    · exact p1
    · exact h2 x hx
  · rw [ins_nms]; exact up_ins h3 p2
theorem may_nil : mayB [] = true := by decide
theorem may_ok {D : List Dn} (h : mayB D = true) : mayE D = 0 := by unfold mayE; rw [if_pos h]
theorem may_not {D : List Dn} (h : mayB D = false) : mayE D = 2 := by unfold mayE; rw [h]; rfl
theorem add_may : ∀ (M D : List Dn), mayB D = true → addE D M = 0 → mayB (addD D M) = true
  | [], D, h, _ => h
  | d :: t, D, h, he => by
    unfold addE at he
    unfold addD
    by_cases hp : putE D d = 0
    · rw [if_pos hp] at he ⊢
      exact add_may t (ins D d) (ins_may h hp) he
    · rw [if_neg hp] at he; exact absurd he hp
theorem add_no : ∀ (M D : List Dn), addE D M ≠ 0 → addD D M = []
  | [], D, h => absurd rfl h
  | d :: t, D, h => by
    unfold addE at h
    unfold addD
    by_cases hp : putE D d = 0
    · rw [if_pos hp] at h ⊢; exact add_no t _ h
    · rw [if_neg hp]
theorem may_big {D : List Dn} (h : 8 < D.length) : mayB D = false := by
  unfold mayB; rw [decide_eq_false (by omega)]; rfl
theorem may_bad {D : List Dn} (j : Nat) (h : j < D.length) (hb : okB D[j] = false) : mayB D = false := by
  cases e : mayB D with
  | false => rfl
  | true => have := ((may_iff D).1 e).2.1 D[j] (List.getElem_mem h); rw [hb] at this; cases this
theorem may_down {D : List Dn} (j : Nat) (h : j + 1 < D.length) (hb : lt D[j].nm D[j + 1].nm = false) : mayB D = false := by
  cases e : mayB D with
  | false => rfl
  | true =>
    have := (up_iff _).1 ((may_iff D).1 e).2.2 j (by rw [nms_len]; exact h)
    rw [nms_get D j (by omega), nms_get D (j + 1) h, hb] at this; cases this
theorem may_all {D : List Dn} (h8 : D.length ≤ 8) (h1 : ∀ j (h : j < D.length), okB D[j] = true) (h2 : ∀ j (h : j + 1 < D.length), lt D[j].nm D[j + 1].nm = true) : mayB D = true := by
  refine (may_iff D).2 ⟨h8, fun d hd => ?_, (up_iff _).2 fun j hj => ?_⟩
  · obtain ⟨j, hj, rfl⟩ := List.getElem_of_mem hd
    exact h1 j hj
  · rw [nms_len] at hj
    rw [nms_get D j (by omega), nms_get D (j + 1) hj]; exact h2 j hj
theorem add_step (D M : List Dn) (k : Nat) (hk : k < M.length) (h : addE D (M.take k) = 0) : addE D (M.take (k + 1)) = putE (addD D (M.take k)) M[k] ∧ (putE (addD D (M.take k)) M[k] = 0 → addD D (M.take (k + 1)) = ins (addD D (M.take k)) M[k]) := by
  induction M generalizing D k with
  | nil => simp at hk
  | cons d t ih =>
    cases k with
    | zero =>
      simp only [List.take_zero, List.getElem_cons_zero, Nat.zero_add, List.take_succ_cons]
      simp only [addE, addD]
      constructor
      · by_cases hp : putE D d = 0
        · rw [if_pos hp, hp]
        · rw [if_neg hp]
      · intro hp; rw [if_pos hp]
    | succ k =>
      simp only [List.take_succ_cons, addE, addD, List.getElem_cons_succ] at h ⊢
      by_cases hp : putE D d = 0
      · rw [if_pos hp] at h ⊢
        rw [if_pos hp, if_pos hp]
        exact ih (ins D d) k (by simpa using hk) h
      · rw [if_neg hp] at h; exact absurd h hp
theorem add_stop (D M : List Dn) (k : Nat) (hk : k < M.length) (h : addE D (M.take k) = 0) (hp : putE (addD D (M.take k)) M[k] ≠ 0) : addE D M = putE (addD D (M.take k)) M[k] := by
  induction M generalizing D k with
  | nil => simp at hk
  | cons d t ih =>
    cases k with
    | zero =>
      simp only [List.take_zero, List.getElem_cons_zero, addD] at hp ⊢
      simp only [addE]; rw [if_neg hp]
    | succ k =>
      simp only [List.take_succ_cons, addE, addD, List.getElem_cons_succ] at h hp ⊢
      by_cases hq : putE D d = 0
      · rw [if_pos hq] at h hp ⊢
        rw [if_pos hq]
        exact ih (ins D d) k (by simpa using hk) h hp
      · rw [if_neg hq] at h; exact absurd h hq
def fnd (D : List Dn) (s : ByteArray) : Dn := if mayB D = true ∧ hasB (nms D) s = true then D.getD (pos (nms D) s) ⟨⟨#[]⟩, []⟩ else ⟨⟨#[]⟩, []⟩
def fndB (D : List Dn) (s : ByteArray) : Bool := mayB D && hasB (nms D) s
theorem fnd_at {D : List Dn} (h : mayB D = true) (j : Nat) (hj : j < D.length) : fnd D D[j].nm = D[j] ∧ fndB D D[j].nm = true := by
  obtain ⟨h1, h2, h3⟩ := (may_iff D).1 h
  have hp : pos (nms D) D[j].nm = j := pos_eq h3 j (by rw [nms_len]; exact hj) (nms_get D j hj)
  have hh : hasB (nms D) D[j].nm = true := (has_iff _ _).2 (List.mem_map.2 ⟨D[j], List.getElem_mem hj, rfl⟩)
  constructor
  · unfold fnd; rw [if_pos ⟨h, hh⟩, hp, List.getD_eq_getElem?_getD, List.getElem?_eq_getElem hj]; rfl
  · unfold fndB; rw [h, hh]; rfl
end Go.Proofs.Ytfobfpigbfepoaa.Bk
namespace Go.Proofs.Ytfobfpigbfepoaa
open Go.RowKit
open Df (Stp)
structure Dm where
  nm : ByteArray
  ad : Option Addr
  cap : Nat
  L : List Stp
def dmC (x : Dm) : List Value := [.string x.nm, .slice x.ad x.L.length x.cap]
theorem dmC_len (x : Dm) : (dmC x).length = 2 := rfl
abbrev DmsAt := RowAt dmC
def Dm.dn (x : Dm) : Bk.Dn := ⟨x.nm, x.L⟩
def dns (D : List Dm) : List Bk.Dn := D.map Dm.dn
theorem dns_len (D : List Dm) : (dns D).length = D.length := by simp [dns]
theorem dns_get (D : List Dm) (j : Nat) (h : j < D.length) : (dns D)[j]'(by rw [dns_len]; exact h) = D[j].dn := by simp [dns]
def nmD (D : List Dm) : List ByteArray := D.map Dm.nm
theorem nmD_len (D : List Dm) : (nmD D).length = D.length := by simp [nmD]
theorem nmD_get (D : List Dm) (j : Nat) (h : j < D.length) : (nmD D)[j]'(by rw [nmD_len]; exact h) = D[j].nm := by simp [nmD]
theorem nmD_eq (D : List Dm) : nmD D = Bk.nms (dns D) := by simp [nmD, Bk.nms, dns, Dm.dn]
theorem dm_one (D : List Dm) : ∀ u ∈ D.flatMap dmC, u.oneCell' = true := by
  intro u hu
  rw [List.mem_flatMap] at hu
  obtain ⟨h, _, hu⟩ := hu
  simp [dmC] at hu
  rcases hu with rfl | rfl <;> rfl
theorem DmsAt.at {w : World} {ad : Option Addr} {D : List Dm} (h : DmsAt w ad D) (k : Nat) (hk : k < D.length) : ∃ b off, ad = some ⟨b, off, none⟩ ∧ b < w.heap.size ∧
    w.cell? ⟨b, off + k * 2, none⟩ = some (.string D[k].nm) ∧ w.cell? ⟨b, off + k * 2 + 1, none⟩ = some (.slice D[k].ad D[k].L.length D[k].cap) := by
  have g := fun i hi => flat_get dmC_len D k hk i hi
  obtain ⟨b, off, rfl, hb, c0⟩ := h _ _ (g 0 (by omega))
  obtain ⟨_, _, e, _, c1⟩ := h _ _ (g 1 (by omega)); cases e
  rw [← Nat.add_assoc] at c1
  exact ⟨b, off, rfl, hb, c0, c1⟩
theorem infoDef : (Try.prog.info? 27).map (fun i => (i.zero, i.size, i.bytes)) = some (some (.agg #[.string ⟨#[]⟩, .slice none 0 0]), 2, 40) := by kernel_rfl
def inD (x : Dm) : Prop := x.nm.size ≤ 9223372036854775807 ∧ x.L.length ≤ 9223372036854775807 ∧ ∀ s ∈ x.L, (s.a.size ≤ 9223372036854775807 ∧ s.u.size ≤ 9223372036854775807 ∧ (-9223372036854775808 ≤ s.k ∧ s.k ≤ 9223372036854775807) ∧ (-9223372036854775808 ≤ s.n ∧ s.n ≤ 9223372036854775807) ∧ (-9223372036854775808 ≤ s.o ∧ s.o ≤ 9223372036854775807) ∧ (-9223372036854775808 ≤ s.y ∧ s.y ≤ 9223372036854775807) ∧ (-9223372036854775808 ≤ s.v ∧ s.v ≤ 9223372036854775807))
structure BkAt (w : World) (ad : Option Addr) (D : List Dm) : Prop where
  row : DmsAt w ad D
  st : ∀ d ∈ D, StpsAt w d.ad d.L
  rng : ∀ d ∈ D, inD d
theorem BkAt.gr {w w' : World} {ad : Option Addr} {D : List Dm} (h : BkAt w ad D) (g : Gr w w') : BkAt w' ad D := ⟨h.row.gr g, fun d hd => (h.st d hd).gr g, h.rng⟩
theorem BkAt.nil {w : World} {ad : Option Addr} : BkAt w ad [] := ⟨RowAt.nil, by simp, by simp⟩
theorem own_gr2 {w w' : World} {base : Nat} {e : TypeId} {size n : Nat} {v : Value} {xs : List Value} (h : w.ownsRow base e size v n xs) (g : Gr w w') : w'.ownsRow base e size v n xs := h.kept g.grownBy (own_or v)
theorem own_form {w : World} {base : Nat} {e : TypeId} {size n : Nat} {v : Value} {xs : List Value} (h : w.ownsRow base e size v n xs) (hn : 0 < n) : ∃ g cap, v = .slice (some ⟨g, 0, none⟩) n cap ∧ base ≤ g ∧ g < w.heap.size ∧ n ≤ cap ∧ cap ≤ 9223372036854775807 := by
  have hlt := h.lt
  obtain ⟨_, ⟨rfl, h0⟩ | ⟨g, cap, cur, rfl, hx⟩⟩ := h
  · omega
  · have hm : cap ≤ 9223372036854775807 := by have := hx.2.2.2.1; unfold maxLen at this; omega
    exact ⟨g, cap, rfl, (hlt g rfl).1, (hlt g rfl).2, hx.2.2.1, hm⟩
theorem own_apart {w : World} {base base' : Nat} {e e' : TypeId} {size size' n n' : Nat} {v v' : Value} {xs xs' : List Value} (h : w.ownsRow base e size v n xs) (h' : w.ownsRow base' e' size' v' n' xs') (he : e ≠ e') {g : Nat} (hg : v.ownBlock = some g) : v'.ownBlock ≠ some g := by
  intro hg'
  obtain ⟨_, ⟨rfl, _⟩ | ⟨g1, cap1, cur1, rfl, _, hh1, _⟩⟩ := h
  · simp [Value.ownBlock] at hg
  · obtain ⟨_, ⟨rfl, _⟩ | ⟨g2, cap2, cur2, rfl, _, hh2, _⟩⟩ := h'
    · simp [Value.ownBlock] at hg'
    · simp [Value.ownBlock] at hg hg'
      subst hg hg'
      rw [hh1] at hh2
      cases hh2
      exact he rfl
theorem own_same {w : World} {base : Nat} {e : TypeId} {size n cap g : Nat} {xs : List Value} (h : w.ownsRow base e size (.slice (some ⟨g, 0, none⟩) n cap) n xs) (j : Nat) (u : Value) (hu : xs[j]? = some u) : (w.setCell ⟨g, j, none⟩ u).ownsRow base e size (.slice (some ⟨g, 0, none⟩) n cap) n xs := by
  have := (h.stored j u).1
  have e : xs.set j u = xs := by
    obtain ⟨hj, hv⟩ := List.getElem?_eq_some_iff.1 hu
    rw [← hv]; exact List.set_getElem_self hj
  rwa [e] at this
theorem own_far {w : World} {base : Nat} {e : TypeId} {size n : Nat} {v : Value} {xs : List Value} (h : w.ownsRow base e size v n xs) (p : Addr) (u : Value) (hp : v.ownBlock ≠ some p.block) : (w.setCell p u).ownsRow base e size v n xs :=
  h.kept (row := some p.block) ⟨rfl, rfl, rfl, by simp [World.setCell], fun k _ hk => Below.heap_setCell _ _ _ _ (fun e => hk (by rw [e]))⟩ (Or.inr hp)
theorem own_kept {w w' : World} {base : Nat} {e : TypeId} {size n : Nat} {v : Value} {xs : List Value} (h : w.ownsRow base e size v n xs) {r : Nat} (g : w.grownBy w' (some r)) (hr : r < base ∨ ∃ o : Obj, w.heap[r]? = some o ∧ o.isCells = false) : w'.ownsRow base e size v n xs := by
  refine h.kept g (Or.inr (fun e => ?_))
  rcases hr with hr | ⟨o, ho, hc⟩
  · have := (h.lt r e).1; omega
  · obtain ⟨_, ⟨rfl, _⟩ | ⟨b, cap, cur, rfl, _, hh, _⟩⟩ := h
    · simp [Value.ownBlock] at e
    · simp [Value.ownBlock] at e; subst e
      rw [ho] at hh; cases hh; cases hc
structure Book (w : World) (base : Nat) (v : Value) (D : List Dm) : Prop where
  own : w.ownsRow base 27 2 v D.length (D.flatMap dmC)
  ow : ∀ d ∈ D, w.ownsRow base 52 7 (.slice d.ad d.L.length d.cap) d.L.length (d.L.flatMap stpC)
  rng : ∀ d ∈ D, inD d
theorem own_steps {w : World} {base : Nat} {ad : Option Addr} {cap : Nat} {L : List Stp} (h : w.ownsRow base 52 7 (.slice ad L.length cap) L.length (L.flatMap stpC)) : StpsAt w ad L ∧ (∀ a, ad = some a → base ≤ a.block) := by
  obtain ⟨ad', cap', e, _, _, h3, h4, _⟩ := own_row h
  cases e
  exact ⟨h3, h4⟩
theorem Book.nil (w : World) (base : Nat) : Book w base (.slice none 0 0) [] := ⟨World.ownsRow_nil _ _ _ _, by simp, by simp⟩
theorem Book.at {w : World} {base : Nat} {v : Value} {D : List Dm} (h : Book w base v D) : ∃ ad cap, v = .slice ad D.length cap ∧ D.length ≤ cap ∧ cap ≤ 9223372036854775807 ∧ BkAt w ad D ∧ (∀ a, ad = some a → base ≤ a.block) := by
  obtain ⟨ad, cap, e, h1, h2, h3, h4, _⟩ := own_row h.own
  exact ⟨ad, cap, e, h1, h2, ⟨h3, fun d hd => (own_steps (h.ow d hd)).1, h.rng⟩, h4⟩
theorem Book.gr {w w' : World} {base : Nat} {v : Value} {D : List Dm} (h : Book w base v D) (g : Gr w w') : Book w' base v D := ⟨own_gr2 h.own g, fun d hd => own_gr2 (h.ow d hd) g, h.rng⟩
theorem Book.kept {w w' : World} {base r : Nat} {v : Value} {D : List Dm} (h : Book w base v D) (g : w.grownBy w' (some r)) (hr : r < base ∨ ∃ o : Obj, w.heap[r]? = some o ∧ o.isCells = false) : Book w' base v D := ⟨own_kept h.own g hr, fun d hd => own_kept (h.ow d hd) g hr, h.rng⟩
theorem Book.low {w : World} {base base' : Nat} {v : Value} {D : List Dm} (h : Book w base v D) (hb : base' ≤ base) : Book w base' v D := ⟨own_low h.own hb, fun d hd => own_low (h.ow d hd) hb, h.rng⟩
theorem Book.turn {w w' : World} {base : Nat} {v : Value} {D : List Dm} (h : Book w base v D) (g : w.grownBy w' v.ownBlock) : ∀ d ∈ D, w'.ownsRow base 52 7 (.slice d.ad d.L.length d.cap) d.L.length (d.L.flatMap stpC) := by
  intro d hd
  refine (h.ow d hd).kept g ?_
  cases e : v.ownBlock with
  | none => exact own_or _
  | some b => exact Or.inr (own_apart h.own (h.ow d hd) (by decide) e)
end Go.Proofs.Ytfobfpigbfepoaa
namespace Go.Proofs.Ytfobfpigbfepoaa
open Go.RowKit
theorem aLetter_any (b : UInt8) (w : World) : Calls Try.prog 41 #[.int .u8 (b.toNat : Int)] w fun e w' => e = .returned (.bool (Act.letB b)) ∧ w' = w := by
  unfold Act.letB
  by_cases h0 : (97 : Int) ≤ (b.toNat : Int)
  · by_cases h1 : (b.toNat : Int) ≤ 122
    · rw [decide_eq_true h0, decide_eq_true h1]
      go_enter Try.func41, Try.ntmps41
      go_wp2
      go_ret
      exact ⟨rfl, rfl⟩
    · rw [decide_eq_true h0, decide_eq_false h1]
      go_enter Try.func41, Try.ntmps41
      go_wp2
      go_ret
      exact ⟨rfl, rfl⟩
  · rw [decide_eq_false h0]
    go_enter Try.func41, Try.ntmps41
    go_wp2
    go_ret
    exact ⟨rfl, rfl⟩
theorem aDigit_any (b : UInt8) (w : World) : Calls Try.prog 42 #[.int .u8 (b.toNat : Int)] w fun e w' => e = .returned (.bool (Act.digB b)) ∧ w' = w := by
  unfold Act.digB
  by_cases h0 : (48 : Int) ≤ (b.toNat : Int)
  · by_cases h1 : (b.toNat : Int) ≤ 57
    · rw [decide_eq_true h0, decide_eq_true h1]
      go_enter Try.func42, Try.ntmps42
      go_wp2
      go_ret
      exact ⟨rfl, rfl⟩
    · rw [decide_eq_true h0, decide_eq_false h1]
      go_enter Try.func42, Try.ntmps42
      go_wp2
      go_ret
      exact ⟨rfl, rfl⟩
  · rw [decide_eq_false h0]
    go_enter Try.func42, Try.ntmps42
    go_wp2
    go_ret
    exact ⟨rfl, rfl⟩
set_option maxHeartbeats 4000000 in
set_option maxRecDepth 100000 in
theorem name_any (s : ByteArray) (w : World) (hs : s.size ≤ 9223372036854775807) : Calls Try.prog 30 #[.string s] w fun e w' => e = .returned (.bool (Act.nameB s)) ∧ w' = w := by
  by_cases hz : s.size = 0
  · have HE : Hid (Act.nameB s = false) := Act.name_empty s hz
    have hb : (s.toList == []) = true := by
      rw [show s.toList = s.data.toList from ByteArray.toList_eq s]
      have hl : s.data.toList.length = s.size := by simp
      rw [List.length_eq_zero_iff.1 (hl.trans hz)]; rfl
    go_enter Try.func30, Try.ntmps30
    go_wp2
    go_ret
    exact ⟨by rw [HE.out]; rfl, rfl⟩
  have hb : (s.toList == []) = false := by
    rw [show s.toList = s.data.toList from ByteArray.toList_eq s]
    have hl : s.data.toList.length = s.size := by simp
    rw [beq_eq_false_iff_ne]
    intro e; rw [e] at hl; simp at hl; omega
  have hp : 0 < s.size := by omega
  by_cases h16 : (16 : Int) < (s.size : Int)
  · have HE : Hid (Act.nameB s = false) := Act.name_long s (by omega)
    go_enter Try.func30, Try.ntmps30
    go_wp2
    go_ret
    exact ⟨by rw [HE.out]; rfl, rfl⟩
  have HL : Hid (∀ (b : UInt8) (w : World), Calls Try.prog 41 #[.int .u8 (b.toNat : Int)] w fun e w' => e = .returned (.bool (Act.letB b)) ∧ w' = w) := aLetter_any
  have HD : Hid (∀ (b : UInt8) (w : World), Calls Try.prog 42 #[.int .u8 (b.toNat : Int)] w fun e w' => e = .returned (.bool (Act.digB b)) ∧ w' = w) := aDigit_any
  cases h0 : Act.letB (s[0]'hp) with
  | false =>
    have HE : Hid (Act.nameB s = false) := Act.name_head s hp h0
    go_enter Try.func30, Try.ntmps30
    go_wp2_with fail
    refine (HL.out (s[0]'hp) _).mono ?_
    rintro e w1 ⟨rfl, hw1⟩; obtain rfl := hw1.symm
    go_wp2
    go_ret
    exact ⟨by rw [HE.out]; rfl, rfl⟩
  | true =>
    go_enter Try.func30, Try.ntmps30
    go_wp2_with fail
    refine (HL.out (s[0]'hp) _).mono ?_
    rintro e w1 ⟨rfl, hw1⟩; obtain rfl := hw1.symm
    go_wp2
    go_loop [19] (fun i => ∃ k : Nat, k ≤ s.size ∧ i = .int .i64 k ∧ ∀ j (hj : j < s.size), j < k → Act.sgnB (s[j]'hj) = true) (fun i => s.size - (intOf i).toNat)
    case atStart => exact ⟨0, by omega, rfl, fun j hj h => absurd h (by omega)⟩
    case round =>
      obtain ⟨k, hk, rfl, hall⟩ := hrel
      have HA : Hid (∀ j (hj : j < s.size), j < k → Act.sgnB (s[j]'hj) = true) := hall
      clear hall
      by_cases hlt : k < s.size
      · cases hlk : Act.letB (s[k]'hlt) with
        | true =>
          have HS : Hid (Act.sgnB (s[k]'hlt) = true) := Act.sgn_let hlk
          go_wp2_with fail
          refine (HL.out (s[k]'hlt) _).mono ?_
          rintro e w1 ⟨rfl, hw1⟩; obtain rfl := hw1.symm
          go_wp2
          go_round
          case rel => exact ⟨k + 1, by omega, by go_num, fun j hj h => if e : j = k then by subst e; exact HS.out else HA.out j hj (by omega)⟩
          case measure => simp [intOf]; omega
        | false =>
          cases hdk : Act.digB (s[k]'hlt) with
          | true =>
            have HS : Hid (Act.sgnB (s[k]'hlt) = true) := Act.sgn_dig hdk
            go_wp2_with fail
            refine (HL.out (s[k]'hlt) _).mono ?_
            rintro e w1 ⟨rfl, hw1⟩; obtain rfl := hw1.symm
            go_wp2_with fail
            refine (HD.out (s[k]'hlt) _).mono ?_
            rintro e w1 ⟨rfl, hw1⟩; obtain rfl := hw1.symm
            go_wp2
            go_round
            case rel => exact ⟨k + 1, by omega, by go_num, fun j hj h => if e : j = k then by subst e; exact HS.out else HA.out j hj (by omega)⟩
            case measure => simp [intOf]; omega
          | false =>
            have HE : Hid (Act.nameB s = false) := Act.name_sign s k hlt (Act.sgn_no hlk hdk)
            go_wp2_with fail
            refine (HL.out (s[k]'hlt) _).mono ?_
            rintro e w1 ⟨rfl, hw1⟩; obtain rfl := hw1.symm
            go_wp2_with fail
            refine (HD.out (s[k]'hlt) _).mono ?_
            rintro e w1 ⟨rfl, hw1⟩; obtain rfl := hw1.symm
            go_wp2
            go_ret
            exact ⟨by rw [HE.out]; rfl, rfl⟩
      · have HE : Hid (Act.nameB s = true) := Act.name_yes s hp (by omega) h0 (fun j hj => HA.out j hj (by omega))
        go_wp2
        go_ret
        exact ⟨by rw [HE.out]; rfl, rfl⟩
end Go.Proofs.Ytfobfpigbfepoaa
namespace Go.Proofs.Ytfobfpigbfepoaa
open Go.RowKit
theorem fits_any (a : Int) (w : World) :
    Calls Try.prog 59 #[.int .i64 a] w fun e w' => e = .returned (.bool (decide (0 ≤ a) && decide (a ≤ 1000000000000000))) ∧ w' = w := by
  by_cases h0 : 0 ≤ a
  · by_cases h1 : a ≤ 1000000000000000
    · have HF : Hid ((decide (0 ≤ a) && decide (a ≤ 1000000000000000)) = true) := by show _ = _; simp [h0, h1]
      rw [HF.out]
      go_enter Try.func59, Try.ntmps59
      go_wp2
      go_ret
      exact ⟨rfl, rfl⟩
    · have HF : Hid ((decide (0 ≤ a) && decide (a ≤ 1000000000000000)) = false) := by show _ = _; simp [h1]
      rw [HF.out]
      go_enter Try.func59, Try.ntmps59
      go_wp2
      go_ret
      exact ⟨rfl, rfl⟩
  · have HF : Hid ((decide (0 ≤ a) && decide (a ≤ 1000000000000000)) = false) := by show _ = _; simp [h0]
    rw [HF.out]
    go_enter Try.func59, Try.ntmps59
    go_wp2
    go_ret
    exact ⟨rfl, rfl⟩
end Go.Proofs.Ytfobfpigbfepoaa
namespace Go.Proofs.Ytfobfpigbfepoaa
open Go.RowKit
set_option maxHeartbeats 1000000 in
theorem actCheck_any (k n : Int) (s : ByteArray) (w : World) (hs : s.size ≤ 9223372036854775807) :
    Calls Try.prog 43 #[.agg #[.int .i64 k, .string s, .int .i64 n]] w fun e w' => e = .returned (.int .i64 (Act.chkE k s n)) ∧ Gr w w' := by
  have HN : Hid (∀ w', Calls Try.prog 30 #[.string s] w' fun e w2 => e = .returned (.bool (Act.nameB s)) ∧ w2 = w') := fun w' => name_any s w' hs
  have HF : Hid (∀ w', Calls Try.prog 59 #[.int .i64 n] w' fun e w2 => e = .returned (.bool (decide (0 ≤ n) && decide (n ≤ 1000000000000000))) ∧ w2 = w') := fun w' => fits_any n w'
  cases hb : Act.actB k s n with
  | true =>
    obtain ⟨⟨h1, h2⟩, h3, h4, h5⟩ := (Act.act_iff k s n).1 hb
    rw [Act.chk_yes hb]
    rw [h3] at HN
    rw [show (decide (0 ≤ n) && decide (n ≤ 1000000000000000)) = true by simp; omega] at HF
    have k1 : ¬ k < 1 := by omega
    have k2 : ¬ 4 < k := by omega
    have k3 : ¬ n < 1 := by omega
    have k4 : ¬ 1000000000000000 < n := by omega
    clear hb h3 hs
    go_enter Try.func43, Try.ntmps43
    go_wp2_with fail
    refine (HN.out _).mono ?_
    rintro e w1 ⟨rfl, hw1⟩; obtain rfl := hw1.symm
    go_wp2_with fail
    refine (HF.out _).mono ?_
    rintro e w1 ⟨rfl, hw1⟩; obtain rfl := hw1.symm
    go_wp2
    go_ret
    exact ⟨rfl, (by repeat (first | exact Gr.refl _ | refine Gr.alloc ?_ | refine Gr.drew ?_ | refine Gr.trans ?_ (by assumption)))⟩
  | false =>
    rw [Act.chk_no hb]
    have hno : ¬ ((1 ≤ k ∧ k ≤ 4) ∧ Act.nameB s = true ∧ 1 ≤ n ∧ n ≤ 1000000000000000) := fun h => by rw [(Act.act_iff k s n).2 h] at hb; cases hb
    clear hb hs
    by_cases h1 : 1 ≤ k
    · have k1 : ¬ k < 1 := by omega
      by_cases h2 : k ≤ 4
      · have k2 : ¬ 4 < k := by omega
        cases h3 : Act.nameB s with
        | false =>
          rw [h3] at HN
          clear hno h3
          go_enter Try.func43, Try.ntmps43
          go_wp2_with fail
          refine (HN.out _).mono ?_
          rintro e w1 ⟨rfl, hw1⟩; obtain rfl := hw1.symm
          go_wp2
          go_ret
          exact ⟨rfl, (by repeat (first | exact Gr.refl _ | refine Gr.alloc ?_ | refine Gr.drew ?_ | refine Gr.trans ?_ (by assumption)))⟩
        | true =>
          rw [h3] at HN
          by_cases h4 : n < 1
          · clear hno h3
            go_enter Try.func43, Try.ntmps43
            go_wp2_with fail
            refine (HN.out _).mono ?_
            rintro e w1 ⟨rfl, hw1⟩; obtain rfl := hw1.symm
            go_wp2
            go_ret
            exact ⟨rfl, (by repeat (first | exact Gr.refl _ | refine Gr.alloc ?_ | refine Gr.drew ?_ | refine Gr.trans ?_ (by assumption)))⟩
          · have k4 : 1000000000000000 < n := by
              by_cases h5 : 1000000000000000 < n
              · exact h5
              · exact absurd ⟨⟨h1, h2⟩, h3, by omega, by omega⟩ hno
            rw [show (decide (0 ≤ n) && decide (n ≤ 1000000000000000)) = false by simp; omega] at HF
            clear hno h3
            go_enter Try.func43, Try.ntmps43
            go_wp2_with fail
            refine (HN.out _).mono ?_
            rintro e w1 ⟨rfl, hw1⟩; obtain rfl := hw1.symm
            go_wp2_with fail
            refine (HF.out _).mono ?_
            rintro e w1 ⟨rfl, hw1⟩; obtain rfl := hw1.symm
            go_wp2
            go_ret
            exact ⟨rfl, (by repeat (first | exact Gr.refl _ | refine Gr.alloc ?_ | refine Gr.drew ?_ | refine Gr.trans ?_ (by assumption)))⟩
      · have k2 : 4 < k := by omega
        clear hno HN HF
        go_enter Try.func43, Try.ntmps43
        go_wp2
        go_ret
        exact ⟨rfl, (by repeat (first | exact Gr.refl _ | refine Gr.alloc ?_ | refine Gr.drew ?_ | refine Gr.trans ?_ (by assumption)))⟩
    · have k1 : k < 1 := by omega
      clear hno HN HF
      go_enter Try.func43, Try.ntmps43
      go_wp2
      go_ret
      exact ⟨rfl, (by repeat (first | exact Gr.refl _ | refine Gr.alloc ?_ | refine Gr.drew ?_ | refine Gr.trans ?_ (by assumption)))⟩
end Go.Proofs.Ytfobfpigbfepoaa
namespace Go.Proofs.Ytfobfpigbfepoaa
open Go.RowKit
structure AccAt (w : World) (g : Nat) (a b c d e f h : Value) : Prop where
  c0 : w.cell? ⟨g, 0, none⟩ = some a
  c1 : w.cell? ⟨g, 1, none⟩ = some b
  c2 : w.cell? ⟨g, 2, none⟩ = some c
  c3 : w.cell? ⟨g, 3, none⟩ = some d
  c4 : w.cell? ⟨g, 4, none⟩ = some e
  c5 : w.cell? ⟨g, 5, none⟩ = some f
  c6 : w.cell? ⟨g, 6, none⟩ = some h
  fz : ∀ i, i < 7 → w.frozen? ⟨g, i, none⟩ = false
  lt : g < w.heap.size
theorem AccAt.cells {w : World} {g : Nat} {a b c d e f h : Value} (x : AccAt w g a b c d e f h) :
    w.cell? ⟨g, 0, none⟩ = some a ∧ w.cell? ⟨g, 1, none⟩ = some b ∧ w.cell? ⟨g, 2, none⟩ = some c ∧ w.cell? ⟨g, 3, none⟩ = some d ∧ w.cell? ⟨g, 4, none⟩ = some e ∧ w.cell? ⟨g, 5, none⟩ = some f ∧ w.cell? ⟨g, 6, none⟩ = some h :=
  ⟨x.c0, x.c1, x.c2, x.c3, x.c4, x.c5, x.c6⟩
theorem AccAt.frozens {w : World} {g : Nat} {a b c d e f h : Value} (x : AccAt w g a b c d e f h) :
    w.frozen? ⟨g, 0, none⟩ = false ∧ w.frozen? ⟨g, 1, none⟩ = false ∧ w.frozen? ⟨g, 2, none⟩ = false ∧ w.frozen? ⟨g, 3, none⟩ = false ∧ w.frozen? ⟨g, 4, none⟩ = false ∧ w.frozen? ⟨g, 5, none⟩ = false ∧ w.frozen? ⟨g, 6, none⟩ = false :=
  ⟨x.fz 0 (by omega), x.fz 1 (by omega), x.fz 2 (by omega), x.fz 3 (by omega), x.fz 4 (by omega), x.fz 5 (by omega), x.fz 6 (by omega)⟩
theorem AccAt.gr {w w' : World} {g : Nat} {a b c d e f h : Value} (x : AccAt w g a b c d e f h) (k : Gr w w') : AccAt w' g a b c d e f h :=
  ⟨k.keep x.c0, k.keep x.c1, k.keep x.c2, k.keep x.c3, k.keep x.c4, k.keep x.c5, k.keep x.c6, fun i hi => k.keepF x.lt (x.fz i hi), Nat.lt_of_lt_of_le x.lt k.size⟩
theorem AccAt.new (w : World) (a b c d e f h : Value) (t : TypeId) (g : Nat) (hg : g = w.heap.size) : AccAt (w.alloc (.cells #[a, b, c, d, e, f, h] t)) g a b c d e f h := by
  subst hg
  exact ⟨by simp, by simp, by simp, by simp, by simp, by simp, by simp, fun i hi => by simp [go_sem], by simp⟩
def RoomB (w : World) (g : Nat) : Prop := ∃ a b c d e f h, AccAt w g a b c d e f h
theorem RoomB.gr {w w' : World} {g : Nat} (x : RoomB w g) (k : Gr w w') : RoomB w' g := by
  obtain ⟨a, b, c, d, e, f, h, x⟩ := x
  exact ⟨a, b, c, d, e, f, h, x.gr k⟩
theorem RoomB.drew {w : World} {g : Nat} (x : RoomB w g) : RoomB w.drew g := x.gr (Gr.refl _).drew
end Go.Proofs.Ytfobfpigbfepoaa
