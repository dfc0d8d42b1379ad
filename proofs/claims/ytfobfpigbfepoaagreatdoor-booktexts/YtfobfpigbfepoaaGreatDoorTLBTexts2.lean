/- What the proof is made of, part 2. -/
import Derived.Test.YtfobfpigbfepoaaGreatDoorTLBTexts1
import Derived.Lib.Bytealg
import Derived.Test.YtfobfpigbfepoaaGreatDoorProg
import Derived.WalkKit
import Derived.WalkSpells
import Derived.WalkLawsBesides
import Derived.Laws.IdiomStrings
import Derived.Lib.UnsafeStr
import Derived.KernelRfl
import Derived.Deep.RegionWith
import Derived.Deep.DrawnRows
import Derived.Laws.OwnMore
import Derived.Maps.AppendAt
import Derived.Deep.RegionHeld3
namespace Go.Proofs.YtfobfpigbfepoaaGreatDoor.Lex
open _root_.Go.Proofs.YtfobfpigbfepoaaGreatDoor.Act (letB digB sgnB nameB headB)
def bl1 (r : Bool) (b : UInt8) : Bool := if (b.toNat : Int) = 10 then false else if (b.toNat : Int) = 35 then true else r
def bad1 (r : Bool) (b : UInt8) : Bool := !bl1 r b && !decide ((b.toNat : Int) = 32) && !decide ((b.toNat : Int) = 9) && !decide ((b.toNat : Int) = 10)
def blf : Bool → List UInt8 → Option Bool
  | r, [] => some r
  | r, b :: t => if bad1 r b = true then none else blf (bl1 r b) t
def blanksB (l : List UInt8) : Bool := (blf false l).isSome
def pl (L : List UInt8) : Nat → List Tok → Prop
  | a, [] => a = L.length
  | a, x :: t => ∃ p : Nat, x.p = p ∧ a ≤ p ∧ p + x.t.size ≤ L.length ∧ (L.drop p).take x.t.size = x.t.data.toList ∧ blanksB ((L.drop a).take (p - a)) = true ∧ pl L (p + x.t.size) t
theorem may_kd {s : ByteArray} (h : kd s ≠ 0) : mayB (kd s) s = true := by
  unfold kd at h ⊢
  unfold mayB
  split
  · rename_i h1; simp [h1]
  · split
    · rename_i h1; simp [h1]
    · split
      · rename_i h1; simp [h1]
      · rename_i h1 h2 h3
        rw [if_neg h1, if_neg h2, if_neg h3] at h
        exact absurd rfl h
theorem okays : ∀ (f : Nat) (l : List UInt8) (a : Nat), l.length < f → (scn f l a).2 = none → ∃ I e, (scn f l a).1 = I ++ [e] ∧ endT e = true ∧ I.all okT = true := by
  intro f
  induction f with
  | zero => intro l a h; omega
  | succ f ih =>
    intro l a hf h
    cases l with
    | nil => exact ⟨[], _, rfl, by unfold endT; simp, rfl⟩
    | cons b t =>
      rw [List.length_cons] at hf
      unfold scn at h ⊢
      split at h
      · rename_i hb
        rw [if_pos hb]
        exact ih t (a + 1) (by omega) h
      · rename_i hb
        rw [if_neg hb]
        split at h
        · rename_i h35
          rw [if_pos h35]
          have := rem_pos t h35
          exact ih _ _ (by simp; omega) h
        · rename_i h35
          rw [if_neg h35]
          split at h
          · cases h
          · rename_i hk
            rw [if_neg hk]
            have := tl_pos b t
            obtain ⟨I, e, h1, h2, h3⟩ := ih _ _ (by simp; omega) h
            refine ⟨⟨kd (pc (b :: t)), pc (b :: t), a⟩ :: I, e, ?_, h2, ?_⟩
            · show _ :: (scn f _ _).1 = _
              rw [h1]; rfl
            · rw [List.all_cons, h3, Bool.and_true]
              exact may_kd hk
theorem okays_S (L : List UInt8) (h : (S L 0).2 = none) : ckE (S L 0).1 ≠ 80 := by
  obtain ⟨I, e, h1, h2, h3⟩ := okays (L.length + 1) L 0 (by omega) h
  show ckE (scn (L.length + 1) L 0).1 ≠ 80
  rw [h1, ck_snoc, if_pos h2, if_pos h3]
  split <;> decide
theorem tok_rng : ∀ (f : Nat) (l : List UInt8) (a : Nat), ∀ x ∈ (scn f l a).1, (∃ n : Nat, x.p = n ∧ n ≤ a + l.length) ∧ x.t.size ≤ l.length := by
  intro f
  induction f with
  | zero => intro l a x hx; simp [scn] at hx
  | succ f ih =>
    intro l a x hx
    cases l with
    | nil => simp [scn] at hx; subst hx; exact ⟨⟨a, rfl, by omega⟩, by show (0 : Nat) ≤ _; omega⟩
    | cons b t =>
      unfold scn at hx
      split at hx
      · obtain ⟨⟨n, h1, h2⟩, h3⟩ := ih t (a + 1) x hx
        exact ⟨⟨n, h1, by simp; omega⟩, by simp; omega⟩
      · split at hx
        · obtain ⟨⟨n, h1, h2⟩, h3⟩ := ih _ _ x hx
          have h4 := run_le remB (b :: t)
          rw [List.length_drop] at h2 h3
          exact ⟨⟨n, h1, by omega⟩, by omega⟩
        · split at hx
          · simp at hx
          · have h4 := tl_le (b :: t)
            rcases List.mem_cons.1 hx with rfl | hx
            · exact ⟨⟨a, rfl, by omega⟩, by show (pc (b :: t)).size ≤ _; rw [pc_size]; exact h4⟩
            · obtain ⟨⟨n, h1, h2⟩, h3⟩ := ih _ _ x hx
              rw [List.length_drop] at h2 h3
              exact ⟨⟨n, h1, by omega⟩, by omega⟩
end Go.Proofs.YtfobfpigbfepoaaGreatDoor.Lex
namespace Go.Proofs.YtfobfpigbfepoaaGreatDoor.Bk
open Df (Stp)
def lt (x y : ByteArray) : Bool := Op.bytesLess x.toList y.toList
theorem bl_irrefl : ∀ l : List UInt8, Op.bytesLess l l = false
  | [] => rfl
  | a :: x => by simp [Op.bytesLess, bl_irrefl x]
theorem bl_trans : ∀ x y z : List UInt8, Op.bytesLess x y = true → Op.bytesLess y z = true → Op.bytesLess x z = true
  | x, [], _, h, _ => by cases x <;> simp [Op.bytesLess] at h
  | _, b :: y, [], _, h => by simp [Op.bytesLess] at h
  | [], _ :: _, _ :: _, _, _ => rfl
  | a :: x, b :: y, c :: z, h1, h2 => by
    simp only [Op.bytesLess, Bool.or_eq_true, Bool.and_eq_true, decide_eq_true_eq, beq_iff_eq] at h1 h2 ⊢
    rcases h1 with h1 | ⟨rfl, h1⟩
    · rcases h2 with h2 | ⟨rfl, h2⟩
      · exact Or.inl (UInt8.lt_trans h1 h2)
      · exact Or.inl h1
    · rcases h2 with h2 | ⟨rfl, h2⟩
      · exact Or.inl h2
      · exact Or.inr ⟨rfl, bl_trans x y z h1 h2⟩
theorem bl_tri : ∀ x y : List UInt8, Op.bytesLess x y = false → Op.bytesLess y x = false → x = y
  | [], [], _, _ => rfl
  | [], _ :: _, h, _ => by simp [Op.bytesLess] at h
  | _ :: _, [], _, h => by simp [Op.bytesLess] at h
  | a :: x, b :: y, h1, h2 => by
    simp only [Op.bytesLess, Bool.or_eq_false_iff, Bool.and_eq_false_iff, decide_eq_false_iff_not] at h1 h2
    have e : a = b := UInt8.le_antisymm (UInt8.not_lt.1 h2.1) (UInt8.not_lt.1 h1.1)
    subst e
    rw [bl_tri x y (by simpa using h1.2) (by simpa using h2.2)]
theorem cmp_sign : ∀ x y : List UInt8, (Lib.compareBytes x y < 0 ↔ Op.bytesLess x y = true) ∧ (Lib.compareBytes x y = 0 ↔ x = y)
  | [], [] => by simp [Lib.compareBytes, Op.bytesLess]
  | [], _ :: _ => by simp [Lib.compareBytes, Op.bytesLess]
  | _ :: _, [] => by simp [Lib.compareBytes, Op.bytesLess]
  | a :: x, b :: y => by
    obtain ⟨h1, h2⟩ := cmp_sign x y
    unfold Lib.compareBytes Op.bytesLess
    by_cases hab : a < b
    · rw [if_pos hab]
      refine ⟨by simp [hab], ?_⟩
      simp
      intro e; subst e; exact absurd hab (UInt8.lt_irrefl a)
    · rw [if_neg hab]
      by_cases hba : b < a
      · rw [if_pos hba]
        have : ¬ a = b := fun e => by subst e; exact hab hba
        simp [hab, this]
      · rw [if_neg hba]
        have e : a = b := UInt8.le_antisymm (UInt8.not_lt.1 hba) (UInt8.not_lt.1 hab)
        subst e
        simp [h1, h2, hab]
theorem toL (x : ByteArray) : x.toList = x.data.toList := ByteArray.toList_eq x
theorem lt_irrefl (x : ByteArray) : lt x x = false := bl_irrefl _
theorem lt_trans {x y z : ByteArray} (h : lt x y = true) (k : lt y z = true) : lt x z = true := bl_trans _ _ _ h k
theorem toL_inj {x y : ByteArray} (h : x.toList = y.toList) : x = y := by
  rw [toL, toL] at h
  cases x; cases y
  simp at h
  rw [h]
theorem lt_tri {x y : ByteArray} (h : lt x y = false) (k : lt y x = false) : x = y := toL_inj (bl_tri _ _ h k)
theorem lt_asymm {x y : ByteArray} (h : lt x y = true) : lt y x = false := by
  cases k : lt y x with
  | false => rfl
  | true => have := lt_trans h k; rw [lt_irrefl] at this; cases this
theorem lt_ne {x y : ByteArray} (h : lt x y = true) : x ≠ y := fun e => by rw [e, lt_irrefl] at h; cases h
theorem ge_trans {x y z : ByteArray} (h : lt x z = false) (k : lt x y = true) : lt y z = false := by
  cases e : lt y z with
  | false => rfl
  | true => rw [lt_trans k e] at h; cases h
theorem le_not (x y : ByteArray) : (Op.bytesLess x.toList y.toList || x.toList == y.toList) = !lt y x := by
  cases h : lt y x with
  | true =>
    have h1 : Op.bytesLess x.toList y.toList = false := lt_asymm h
    have h2 : (x.toList == y.toList) = false := by
      rw [beq_eq_false_iff_ne]
      intro e; exact lt_ne h (toL_inj e).symm
    rw [h1, h2]; rfl
  | false =>
    cases h1 : Op.bytesLess x.toList y.toList with
    | true => rfl
    | false =>
      have e : x = y := lt_tri h1 h
      subst e; simp
def cmpE (x y : ByteArray) : Int := Lib.compareBytes x.data.toList y.data.toList
theorem cmp_neg (x y : ByteArray) : cmpE x y < 0 ↔ lt x y = true := by unfold cmpE lt; rw [toL, toL]; exact (cmp_sign _ _).1
theorem cmp_zero (x y : ByteArray) : cmpE x y = 0 ↔ x = y := by
  unfold cmpE
  rw [(cmp_sign _ _).2]
  constructor
  · intro h; exact toL_inj (by rw [toL, toL]; exact h)
  · intro h; rw [h]
def upB : List ByteArray → Bool
  | [] => true
  | [_] => true
  | x :: y :: t => lt x y && upB (y :: t)
theorem up_iff : ∀ L : List ByteArray, upB L = true ↔ ∀ j (h : j + 1 < L.length), lt L[j] L[j + 1] = true
  | [] => by simp [upB]
  | [_] => by simp [upB]
  | x :: y :: t => by
    rw [upB, Bool.and_eq_true, up_iff (y :: t)]
    constructor
    · rintro ⟨h1, h2⟩ j hj
      cases j with
      | zero => exact h1
      | succ j => exact h2 j (by simpa using hj)
    · intro h
      exact ⟨h 0 (by simp), fun j hj => h (j + 1) (by simpa using hj)⟩
theorem up_lt {L : List ByteArray} (h : upB L = true) : ∀ i j (hi : i < j) (hj : j < L.length), lt L[i] L[j] = true := by
  rw [up_iff] at h
  intro i j hij
  induction j with
  | zero => omega
  | succ j ih =>
    intro hj
    by_cases e : i = j
    · subst e; exact h i hj
    · exact lt_trans (ih (by omega) (by omega)) (h j hj)
def hasB (L : List ByteArray) (s : ByteArray) : Bool := L.any (fun x => decide (x = s))
theorem has_iff (L : List ByteArray) (s : ByteArray) : hasB L s = true ↔ s ∈ L := by
  unfold hasB; rw [List.any_eq_true]
  constructor
  · rintro ⟨x, hx, e⟩; rw [decide_eq_true_eq] at e; rw [← e]; exact hx
  · intro h; exact ⟨s, h, decide_eq_true rfl⟩
def pos (L : List ByteArray) (s : ByteArray) : Nat := (L.takeWhile (fun x => lt x s)).length
theorem pos_le (L : List ByteArray) (s : ByteArray) : pos L s ≤ L.length := by
  unfold pos; exact (List.takeWhile_sublist _).length_le
theorem pos_iff : ∀ (L : List ByteArray) (s : ByteArray), upB L = true → ∀ j (h : j < L.length), (lt L[j] s = true ↔ j < pos L s)
  | [], _, _, j, h => by simp at h
  | x :: t, s, hu, j, h => by
    have hut : upB t = true := by
      cases t with
      | nil => rfl
      | cons y t => rw [upB, Bool.and_eq_true] at hu; exact hu.2
    cases hx : lt x s with
    | true =>
      have hp : pos (x :: t) s = pos t s + 1 := by unfold pos; rw [List.takeWhile_cons, hx]; simp
      rw [hp]
      cases j with
      | zero => simp [hx]
      | succ j => rw [List.getElem_cons_succ, pos_iff t s hut j (by simpa using h)]; omega
    | false =>
      have hp : pos (x :: t) s = 0 := by unfold pos; rw [List.takeWhile_cons, hx]; simp
      rw [hp]
      have : lt (x :: t)[j] s = false := by
        cases j with
        | zero => exact hx
        | succ j => exact ge_trans hx (up_lt hu 0 (j + 1) (by omega) h)
      simp [this]
theorem pos_eq {L : List ByteArray} {s : ByteArray} (hu : upB L = true) (j : Nat) (h : j < L.length) (e : L[j] = s) : pos L s = j := by
  have h1 : ¬ j < pos L s := by rw [← pos_iff L s hu j h, e, lt_irrefl]; simp
  by_cases h2 : pos L s < j
  · have := (pos_iff L s hu (pos L s) (by omega))
    have h3 := up_lt hu _ _ h2 h
    rw [e] at h3
    rw [h3] at this; simp at this
  · omega
theorem pos_mem {L : List ByteArray} {s : ByteArray} (hu : upB L = true) (hm : s ∈ L) : ∃ h : pos L s < L.length, L[pos L s] = s := by
  obtain ⟨j, hj, e⟩ := List.getElem_of_mem hm
  have := pos_eq hu j hj e
  exact ⟨by omega, by simp only [this, e]⟩
theorem pos_gt {L : List ByteArray} {s : ByteArray} (hu : upB L = true) (hm : s ∉ L) : ∀ j (h : j < L.length), pos L s ≤ j → lt s L[j] = true := by
  intro j h hj
  have h1 : lt L[j] s = false := by
    cases e : lt L[j] s with
    | false => rfl
    | true => have := (pos_iff L s hu j h).1 e; omega
  cases e : lt s L[j] with
  | true => rfl
  | false => exact absurd (List.getElem_mem h) (by rw [lt_tri h1 e]; exact hm)
theorem up_ins {L : List ByteArray} {s : ByteArray} (hu : upB L = true) (hm : s ∉ L) : upB (L.take (pos L s) ++ s :: L.drop (pos L s)) = true := by
  have hp := pos_le L s
  rw [up_iff]
  intro j hj
  have hlen : (L.take (pos L s)).length = pos L s := by rw [List.length_take]; omega
  rw [List.length_append, List.length_cons, List.length_drop, hlen] at hj
  by_cases h1 : j + 1 < pos L s
  · rw [List.getElem_append_left (by omega), List.getElem_append_left (by omega), List.getElem_take, List.getElem_take]
    exact up_lt hu _ _ (by omega) _
  · by_cases h2 : j + 1 = pos L s
    · rw [List.getElem_append_left (by omega), List.getElem_append_right (by omega), List.getElem_take]
      simp only [hlen, h2, Nat.sub_self, List.getElem_cons_zero]
      exact (pos_iff L s hu j (by omega)).2 (by omega)
    · rw [List.getElem_append_right (by omega), List.getElem_append_right (by omega)]
      simp only [hlen]
      have e1 : j + 1 - pos L s = (j - pos L s) + 1 := by omega
      simp only [e1, List.getElem_cons_succ, List.getElem_drop]
      by_cases h3 : j = pos L s
      · simp only [h3, Nat.sub_self, List.getElem_cons_zero]
        exact pos_gt hu hm _ _ (by omega)
      · have e2 : j - pos L s = (j - pos L s - 1) + 1 := by omega
        rw [List.getElem_cons, dif_neg (by omega), List.getElem_drop]
        exact up_lt hu _ _ (by omega) _
structure Dn where
  nm : ByteArray
  L : List Stp
theorem dn_ext {a b : Dn} (h : a.nm = b.nm) (k : a.L = b.L) : a = b := by cases a; cases b; simp at h k; subst h k; rfl
def nms (D : List Dn) : List ByteArray := D.map Dn.nm
theorem nms_len (D : List Dn) : (nms D).length = D.length := by simp [nms]
theorem nms_get (D : List Dn) (j : Nat) (h : j < D.length) : (nms D)[j]'(by rw [nms_len]; exact h) = D[j].nm := by simp [nms]
def okB (d : Dn) : Bool := Df.defB d.nm d.L
def mayB (D : List Dn) : Bool := decide (D.length ≤ 8) && D.all okB && upB (nms D)
theorem may_iff (D : List Dn) : mayB D = true ↔ D.length ≤ 8 ∧ (∀ d ∈ D, okB d = true) ∧ upB (nms D) = true := by
  unfold mayB; simp only [Bool.and_eq_true, decide_eq_true_eq, List.all_eq_true, and_assoc]
def mayE (D : List Dn) : Int := if mayB D = true then 0 else 2
def ins (D : List Dn) (d : Dn) : List Dn := D.take (pos (nms D) d.nm) ++ d :: D.drop (pos (nms D) d.nm)
def putE (D : List Dn) (d : Dn) : Int := if okB d = false then 90 else if hasB (nms D) d.nm = true then 71 else if 8 ≤ D.length then 3 else 0
def addE : List Dn → List Dn → Int
  | _, [] => 0
  | D, d :: t => if putE D d = 0 then addE (ins D d) t else putE D d
def addD : List Dn → List Dn → List Dn
  | D, [] => D
  | D, d :: t => if putE D d = 0 then addD (ins D d) t else []
theorem ins_len (D : List Dn) (d : Dn) : (ins D d).length = D.length + 1 := by
  have := pos_le (nms D) d.nm
  rw [nms_len] at this
  unfold ins
  rw [List.length_append, List.length_cons, List.length_take, List.length_drop]; omega
theorem ins_nms (D : List Dn) (d : Dn) : nms (ins D d) = (nms D).take (pos (nms D) d.nm) ++ d.nm :: (nms D).drop (pos (nms D) d.nm) := by
  unfold ins nms
  rw [List.map_append, List.map_cons, List.map_take, List.map_drop]
theorem ins_mem (D : List Dn) (d x : Dn) : x ∈ ins D d ↔ x = d ∨ x ∈ D := by
  have h : x ∈ D ↔ x ∈ D.take (pos (nms D) d.nm) ∨ x ∈ D.drop (pos (nms D) d.nm) := by
    rw [← List.mem_append, List.take_append_drop]
  unfold ins
  rw [List.mem_append, List.mem_cons, h]
  constructor
  · rintro (h | h | h)
    · exact Or.inr (Or.inl h)
    · exact Or.inl h
    · exact Or.inr (Or.inr h)
  · rintro (h | h | h)
    · exact Or.inr (Or.inl h)
    · exact Or.inl h
    · exact Or.inr (Or.inr h)
theorem put_zero {D : List Dn} {d : Dn} : putE D d = 0 ↔ okB d = true ∧ d.nm ∉ nms D ∧ D.length < 8 := by
  unfold putE
  cases h1 : okB d with
  | false => simp
  | true =>
    cases h2 : hasB (nms D) d.nm with
    | true => simp [(has_iff _ _).1 h2]
    | false =>
      have : d.nm ∉ nms D := fun h => by rw [(has_iff _ _).2 h] at h2; cases h2
      by_cases h3 : 8 ≤ D.length
      · simp [h3]
      · simp [h3, this]; omega
theorem ins_may {D : List Dn} {d : Dn} (h : mayB D = true) (hp : putE D d = 0) : mayB (ins D d) = true := by
  obtain ⟨h1, h2, h3⟩ := (may_iff D).1 h
  obtain ⟨p1, p2, p3⟩ := put_zero.1 hp
  refine (may_iff _).2 ⟨by rw [ins_len]; omega, fun x hx => ?_, ?_⟩
  · rcases (ins_mem D d x).1 hx with rfl | hx
    · exact p1
    · exact h2 x hx
  · rw [ins_nms]; exact up_ins h3 p2
theorem may_nil : mayB [] = true := by decide
theorem may_ok {D : List Dn} (h : mayB D = true) : mayE D = 0 := by unfold mayE; rw [if_pos h]
theorem may_not {D : List Dn} (h : mayB D = false) : mayE D = 2 := by unfold mayE; rw [h]; rfl
theorem add_may : ∀ (M D : List Dn), mayB D = true → addE D M = 0 → mayB (addD D M) = true
  | [], D, h, _ => h
  | d :: t, D, h, he => by
    unfold addE at he
    unfold addD
    by_cases hp : putE D d = 0
    · rw [if_pos hp] at he ⊢
      exact add_may t (ins D d) (ins_may h hp) he
    · rw [if_neg hp] at he; exact absurd he hp
theorem add_no : ∀ (M D : List Dn), addE D M ≠ 0 → addD D M = []
  | [], D, h => absurd rfl h
  | d :: t, D, h => by
    unfold addE at h
    unfold addD
    by_cases hp : putE D d = 0
    · rw [if_pos hp] at h ⊢; exact add_no t _ h
    · rw [if_neg hp]
theorem may_big {D : List Dn} (h : 8 < D.length) : mayB D = false := by
  unfold mayB; rw [decide_eq_false (by omega)]; rfl
theorem may_bad {D : List Dn} (j : Nat) (h : j < D.length) (hb : okB D[j] = false) : mayB D = false := by
  cases e : mayB D with
  | false => rfl
  | true => have := ((may_iff D).1 e).2.1 D[j] (List.getElem_mem h); rw [hb] at this; cases this
theorem may_down {D : List Dn} (j : Nat) (h : j + 1 < D.length) (hb : lt D[j].nm D[j + 1].nm = false) : mayB D = false := by
  cases e : mayB D with
  | false => rfl
  | true =>
    have := (up_iff _).1 ((may_iff D).1 e).2.2 j (by rw [nms_len]; exact h)
    rw [nms_get D j (by omega), nms_get D (j + 1) h, hb] at this; cases this
theorem may_all {D : List Dn} (h8 : D.length ≤ 8) (h1 : ∀ j (h : j < D.length), okB D[j] = true) (h2 : ∀ j (h : j + 1 < D.length), lt D[j].nm D[j + 1].nm = true) : mayB D = true := by
  refine (may_iff D).2 ⟨h8, fun d hd => ?_, (up_iff _).2 fun j hj => ?_⟩
  · obtain ⟨j, hj, rfl⟩ := List.getElem_of_mem hd
    exact h1 j hj
  · rw [nms_len] at hj
    rw [nms_get D j (by omega), nms_get D (j + 1) hj]; exact h2 j hj
theorem add_step (D M : List Dn) (k : Nat) (hk : k < M.length) (h : addE D (M.take k) = 0) : addE D (M.take (k + 1)) = putE (addD D (M.take k)) M[k] ∧ (putE (addD D (M.take k)) M[k] = 0 → addD D (M.take (k + 1)) = ins (addD D (M.take k)) M[k]) := by
  induction M generalizing D k with
  | nil => simp at hk
  | cons d t ih =>
    cases k with
    | zero =>
      simp only [List.take_zero, List.getElem_cons_zero, Nat.zero_add, List.take_succ_cons]
      simp only [addE, addD]
      constructor
      · by_cases hp : putE D d = 0
        · rw [if_pos hp, hp]
        · rw [if_neg hp]
      · intro hp; rw [if_pos hp]
    | succ k =>
      simp only [List.take_succ_cons, addE, addD, List.getElem_cons_succ] at h ⊢
      by_cases hp : putE D d = 0
      · rw [if_pos hp] at h ⊢
        rw [if_pos hp, if_pos hp]
        exact ih (ins D d) k (by simpa using hk) h
      · rw [if_neg hp] at h; exact absurd h hp
theorem add_stop (D M : List Dn) (k : Nat) (hk : k < M.length) (h : addE D (M.take k) = 0) (hp : putE (addD D (M.take k)) M[k] ≠ 0) : addE D M = putE (addD D (M.take k)) M[k] := by
  induction M generalizing D k with
  | nil => simp at hk
  | cons d t ih =>
    cases k with
    | zero =>
      simp only [List.take_zero, List.getElem_cons_zero, addD] at hp ⊢
      simp only [addE]; rw [if_neg hp]
    | succ k =>
      simp only [List.take_succ_cons, addE, addD, List.getElem_cons_succ] at h hp ⊢
      by_cases hq : putE D d = 0
      · rw [if_pos hq] at h hp ⊢
        rw [if_pos hq]
        exact ih (ins D d) k (by simpa using hk) h hp
      · rw [if_neg hq] at h; exact absurd h hq
def fnd (D : List Dn) (s : ByteArray) : Dn := if mayB D = true ∧ hasB (nms D) s = true then D.getD (pos (nms D) s) ⟨⟨#[]⟩, []⟩ else ⟨⟨#[]⟩, []⟩
def fndB (D : List Dn) (s : ByteArray) : Bool := mayB D && hasB (nms D) s
theorem fnd_at {D : List Dn} (h : mayB D = true) (j : Nat) (hj : j < D.length) : fnd D D[j].nm = D[j] ∧ fndB D D[j].nm = true := by
  obtain ⟨h1, h2, h3⟩ := (may_iff D).1 h
  have hp : pos (nms D) D[j].nm = j := pos_eq h3 j (by rw [nms_len]; exact hj) (nms_get D j hj)
  have hh : hasB (nms D) D[j].nm = true := (has_iff _ _).2 (List.mem_map.2 ⟨D[j], List.getElem_mem hj, rfl⟩)
  constructor
  · unfold fnd; rw [if_pos ⟨h, hh⟩, hp, List.getD_eq_getElem?_getD, List.getElem?_eq_getElem hj]; rfl
  · unfold fndB; rw [h, hh]; rfl
end Go.Proofs.YtfobfpigbfepoaaGreatDoor.Bk
namespace Go.Proofs.YtfobfpigbfepoaaGreatDoor
open Lex (Tok ckE scT scF scA)
open Df (Stp St tk Gd prs pE pA pT pN pL)
theorem scT_size (l : List UInt8) (hl : l.length ≤ 9223372036854775807) : ∀ x ∈ scT l, x.t.size ≤ 9223372036854775807 := by
  intro x hx
  unfold Lex.scT at hx
  split at hx
  · cases hx
  · split at hx
    · have := (Lex.tok_rng _ _ _ x hx).2; omega
    · cases hx
theorem ck_scan {l : List UInt8} (h0 : scF l = 0) : ckE (scT l) ≠ 80 := by
  unfold Lex.scF at h0
  unfold Lex.scT
  split at h0
  · cases h0
  · rename_i hn
    split at h0
    · rename_i hs
      rw [if_neg hn, hs]
      exact Lex.okays_S l hs
    · cases h0
theorem pE_in {T : List Tok} (h80 : ckE T ≠ 80) {i : Nat} (h0 : pE T i = 0) : i < T.length := by
  unfold Df.pE at h0
  rw [if_neg h80] at h0
  split at h0
  · rename_i h; omega
  · cases h0
theorem prs_more {T : List Tok} (hT : Gd T) (i : Nat) {x : ByteArray × List Stp} (h : (prs T i).2 = some x) : i < (prs T i).1 := by
  unfold Df.prs at h ⊢
  by_cases h1 : Df.isT (tk T i) 1 Df.wSaga = true
  · rw [if_pos h1] at h ⊢
    by_cases h2 : (tk T (i + 1)).k = 1
    · rw [if_pos h2] at h ⊢
      by_cases h3 : Df.isT (tk T (i + 2)) 3 Df.gOpen = true
      · rw [if_pos h3] at h ⊢
        have key : ∀ f j L, (Df.stps T f j L).2 ≠ none → j < T.length → j ≤ (Df.stps T f j L).1 := by
          intro f
          induction f with
          | zero => intro j L h; exact absurd rfl h
          | succ f ih =>
            intro j L h hj
            unfold Df.stps at h ⊢
            by_cases h4 : Df.isT (tk T j) 3 Df.gShut = true
            · rw [if_pos h4]; exact Nat.le_succ _
            · rw [if_neg h4] at h ⊢
              have ho := Df.one_le hT j hj
              revert h ho
              rcases Df.one T j with ⟨j', _ | s⟩
              · intro h _; exact absurd rfl h
              · intro h ho
                have := ih j' (L ++ [s]) h ho.2.1
                have := ho.1
                simp only at *
                omega
        have h3b : i + 3 < T.length := by
          have k1 : i + 1 < T.length := by
            rcases Nat.lt_or_ge (i + 1) T.length with h | h
            · exact h
            · rw [Df.tk_out T (i + 1) h] at h2; cases h2
          have k2 := hT.next (i := i + 1) (by rw [h2]; decide)
          exact hT.next (i := i + 2) (by
            have := (Df.isT_iff _ _ _).1 h3
            rw [this.1]; decide)
        have := key (T.length + 1) (i + 3) []
        revert h this
        rcases Df.stps T (T.length + 1) (i + 3) [] with ⟨j, _ | L⟩
        · intro h _; cases h
        · intro _ hk
          have := hk (by simp) h3b
          simp only at *
          omega
      · rw [if_neg h3] at h; cases h
    · rw [if_neg h2] at h; cases h
  · rw [if_neg h1] at h; cases h
theorem pT_in {T : List Tok} (h80 : ckE T ≠ 80) {i : Nat} (h0 : pE T i = 0) : i < (pT T i).toNat ∧ (pT T i).toNat < T.length ∧ pT T i = ((pT T i).toNat : Int) := by
  have hi := pE_in h80 h0
  have hG := Df.gd_of h80
  unfold Df.pT
  rw [if_pos h0, Int.toNat_natCast, Int.toNat_natCast]
  refine ⟨?_, (Df.def_same hG i hi).2.2, rfl⟩
  unfold Df.pE at h0
  rw [if_neg h80, if_pos (by omega), Int.toNat_natCast] at h0
  cases ho : (prs T i).2 with
  | none => rw [ho] at h0; cases h0
  | some x => exact prs_more hG i ho
theorem pE_ok {T : List Tok} (h80 : ckE T ≠ 80) {i : Nat} (h0 : pE T i = 0) : Bk.okB ⟨pN T i, pL T i⟩ = true := by
  have hi := pE_in h80 h0
  unfold Bk.okB
  unfold Df.pN Df.pL
  rw [if_pos h0, if_pos h0]
  unfold Df.pE at h0
  rw [if_neg h80, if_pos (by omega)] at h0
  cases ho : (prs T (i : Int).toNat).2 with
  | none => rw [ho] at h0; cases h0
  | some x =>
    obtain ⟨nm, L⟩ := x
    rw [ho] at h0
    simp only at h0 ⊢
    cases hd : Df.defB nm L with
    | true => rfl
    | false => rw [Df.ch_no hd] at h0; cases h0
namespace Bk
theorem add_snoc : ∀ (M D : List Dn) (d : Dn), addE D M = 0 → addE D (M ++ [d]) = putE (addD D M) d ∧ (putE (addD D M) d = 0 → addD D (M ++ [d]) = ins (addD D M) d)
  | [], D, d, _ => by
    simp only [List.nil_append, addE, addD]
    constructor
    · by_cases hp : putE D d = 0
      · rw [if_pos hp, hp]
      · rw [if_neg hp]
    · intro hp; rw [if_pos hp]
  | y :: M, D, d, h => by
    simp only [List.cons_append, addE, addD] at h ⊢
    by_cases hp : putE D y = 0
    · rw [if_pos hp] at h ⊢
      rw [if_pos hp, if_pos hp]
      exact add_snoc M (ins D y) d h
    · rw [if_neg hp] at h; exact absurd h hp
def dnA (T : List Tok) (i : Nat) : Dn := ⟨pN T i, pL T i⟩
def rd (T : List Tok) : Nat → Nat → List Dn → Int × Int × List Dn
  | 0, _, D => (0, 0, D)
  | f + 1, i, D =>
    if (tk T i).k = 0 then (0, 0, D)
    else if pE T i ≠ 0 then (pE T i, pA T i, [])
    else if putE D (dnA T i) ≠ 0 then (putE D (dnA T i), (tk T i).p, [])
    else rd T f (pT T i).toNat (ins D (dnA T i))
def RD (T : List Tok) (i : Nat) (D : List Dn) : Int × Int × List Dn := rd T (T.length - i) i D
theorem rd_fuel {T : List Tok} (h80 : ckE T ≠ 80) : ∀ (f g i : Nat) (D : List Dn), T.length - i ≤ f → T.length - i ≤ g → i < T.length → rd T f i D = rd T g i D := by
  intro f
  induction f with
  | zero => intro g i D h _ hi; omega
  | succ f ih =>
    intro g i D hf hg hi
    cases g with
    | zero => omega
    | succ g =>
      unfold rd
      by_cases h1 : (tk T i).k = 0
      · rw [if_pos h1, if_pos h1]
      · rw [if_neg h1, if_neg h1]
        by_cases h2 : pE T i ≠ 0
        · rw [if_pos h2, if_pos h2]
        · rw [if_neg h2, if_neg h2]
          by_cases h3 : putE D (dnA T i) ≠ 0
          · rw [if_pos h3, if_pos h3]
          · rw [if_neg h3, if_neg h3]
            obtain ⟨a, b, _⟩ := pT_in h80 (i := i) (by simpa using h2)
            exact ih g _ _ (by omega) (by omega) b
theorem RD_end {T : List Tok} {i : Nat} (hi : i < T.length) (D : List Dn) (h : (tk T i).k = 0) : RD T i D = (0, 0, D) := by
  unfold RD
  obtain ⟨f, hf⟩ : ∃ f, T.length - i = f + 1 := ⟨T.length - i - 1, by omega⟩
  rw [hf]; unfold rd; rw [if_pos h]
theorem RD_bad {T : List Tok} {i : Nat} (hi : i < T.length) (D : List Dn) (h : (tk T i).k ≠ 0) (h2 : pE T i ≠ 0) : RD T i D = (pE T i, pA T i, []) := by
  unfold RD
  obtain ⟨f, hf⟩ : ∃ f, T.length - i = f + 1 := ⟨T.length - i - 1, by omega⟩
  rw [hf]; unfold rd; rw [if_neg h, if_pos h2]
theorem RD_no {T : List Tok} {i : Nat} (hi : i < T.length) (D : List Dn) (h : (tk T i).k ≠ 0) (h2 : pE T i = 0) (h3 : putE D (dnA T i) ≠ 0) : RD T i D = (putE D (dnA T i), (tk T i).p, []) := by
  unfold RD
  obtain ⟨f, hf⟩ : ∃ f, T.length - i = f + 1 := ⟨T.length - i - 1, by omega⟩
  rw [hf]; unfold rd; rw [if_neg h, if_neg (by simpa using h2), if_pos h3]
theorem RD_go {T : List Tok} (h80 : ckE T ≠ 80) {i : Nat} (D : List Dn) (h : (tk T i).k ≠ 0) (h2 : pE T i = 0) (h3 : putE D (dnA T i) = 0) : RD T i D = RD T (pT T i).toNat (ins D (dnA T i)) := by
  have hi := pE_in h80 h2
  obtain ⟨a, b, _⟩ := pT_in h80 h2
  unfold RD
  obtain ⟨f, hf⟩ : ∃ f, T.length - i = f + 1 := ⟨T.length - i - 1, by omega⟩
  rw [hf]
  conv => lhs; unfold rd
  rw [if_neg h, if_neg (by simpa using h2), if_neg (by simpa using h3)]
  exact rd_fuel h80 _ _ _ _ (by omega) (by omega) b
def goes (T : List Tok) : Nat → List (Int × Dn) → Nat → Prop
  | i, [], j => i = j
  | i, x :: t, j => (tk T i).k ≠ 0 ∧ pE T i = 0 ∧ x = ((tk T i).p, dnA T i) ∧ goes T (pT T i).toNat t j
theorem goes_snoc {T : List Tok} : ∀ (t : List (Int × Dn)) (i j : Nat), goes T i t j → (tk T j).k ≠ 0 → pE T j = 0 → goes T i (t ++ [((tk T j).p, dnA T j)]) (pT T j).toNat
  | [], i, j, h, h1, h2 => by
    have e : i = j := h
    subst e
    exact ⟨h1, h2, rfl, rfl⟩
  | x :: t, i, j, h, h1, h2 => ⟨h.1, h.2.1, h.2.2.1, goes_snoc t _ j h.2.2.2 h1 h2⟩
theorem goes_lt {T : List Tok} (h80 : ckE T ≠ 80) : ∀ (t : List (Int × Dn)) (i j : Nat), i < T.length → goes T i t j → j < T.length ∧ i + t.length ≤ j
  | [], i, j, hi, h => by
    have e : i = j := h
    subst e; exact ⟨hi, by simp⟩
  | x :: t, i, j, hi, h => by
    obtain ⟨a, b, _⟩ := pT_in h80 h.2.1
    obtain ⟨c, d⟩ := goes_lt h80 t _ j b h.2.2.2
    refine ⟨c, ?_⟩
    rw [List.length_cons]; omega
theorem goes_RD {T : List Tok} (h80 : ckE T ≠ 80) : ∀ (t : List (Int × Dn)) (i j : Nat) (D : List Dn), goes T i t j → addE D (t.map (·.2)) = 0 → RD T i D = RD T j (addD D (t.map (·.2)))
  | [], i, j, D, h, _ => by
    have e : i = j := h
    subst e; rfl
  | x :: t, i, j, D, h, ha => by
    obtain ⟨h1, h2, rfl, h4⟩ := h
    simp only [List.map_cons, addE, addD] at ha ⊢
    by_cases hp : putE D (dnA T i) = 0
    · rw [if_pos hp] at ha ⊢
      rw [RD_go h80 D h1 h2 hp]
      exact goes_RD h80 t _ j _ h4 ha
    · rw [if_neg hp] at ha; exact absurd ha hp
theorem goes_cut {T : List Tok} : ∀ (t : List (Int × Dn)) (x : Int × Dn) (i j : Nat), goes T i (t ++ [x]) j → ∃ k, goes T i t k ∧ (tk T k).k ≠ 0 ∧ pE T k = 0 ∧ x = ((tk T k).p, dnA T k)
  | [], x, i, j, h => ⟨i, rfl, h.1, h.2.1, h.2.2.1⟩
  | y :: t, x, i, j, h => by
    obtain ⟨k, h1, h2⟩ := goes_cut t x _ j h.2.2.2
    exact ⟨k, ⟨h.1, h.2.1, h.2.2.1, h1⟩, h2⟩
theorem RD_may {T : List Tok} (h80 : ckE T ≠ 80) : ∀ (f i : Nat) (D : List Dn), mayB D = true → mayB (rd T f i D).2.2 = true
  | 0, _, D, h => h
  | f + 1, i, D, h => by
    unfold rd
    split
    · exact h
    · split
      · exact may_nil
      · split
        · exact may_nil
        · rename_i h1 h2 h3
          exact RD_may h80 f _ _ (ins_may h (by simpa using h3))
def rE (l : List UInt8) : Int := if scF l ≠ 0 then scF l else (RD (scT l) 0 []).1
def rA (l : List UInt8) : Int := if scF l ≠ 0 then scA l else (RD (scT l) 0 []).2.1
def rD (l : List UInt8) : List Dn := if scF l ≠ 0 then [] else (RD (scT l) 0 []).2.2
theorem rD_may (l : List UInt8) : mayB (rD l) = true := by
  unfold rD
  split
  · exact may_nil
  · rename_i h
    exact RD_may (ck_scan (by simpa using h)) _ _ _ may_nil
end Bk
end Go.Proofs.YtfobfpigbfepoaaGreatDoor
namespace Pk
def numF : Nat → Nat → List UInt8
  | 0, n => [UInt8.ofNat n]
  | f + 1, n => if n < 128 then [UInt8.ofNat n] else UInt8.ofNat (n % 128 + 128) :: numF f (n / 128)
def num (n : Nat) : List UInt8 := numF 9 n
def takeF : Nat → Nat → Nat → List UInt8 → Nat × Nat × Nat
  | 0, _, _, _ => (0, 0, 11)
  | _ + 1, _, _, [] => (0, 0, 10)
  | f + 1, i, a, b :: r =>
    if 128 ≤ b.toNat then takeF f (i + 1) (a + b.toNat % 128 * 128 ^ i) r
    else if (i = 9 ∧ 1 < b.toNat) ∨ (i ≠ 0 ∧ b.toNat = 0) then (0, 0, 11)
    else (a + b.toNat * 128 ^ i, i + 1, 0)
def take (l : List UInt8) : Nat × Nat × Nat := takeF 10 0 0 l
def text (s : List UInt8) : List UInt8 := num s.length ++ s
def body (l : List ByteArray) : List UInt8 := l.flatMap fun s => text s.data.toList
end Pk
namespace Go.Proofs.YtfobfpigbfepoaaGreatDoor
open Go.RowKit
structure Gr (w w' : World) : Prop where
  below : Below w.heap.size w w'
theorem Gr.refl (w : World) : Gr w w := ⟨Below.refl _ _⟩
theorem Gr.trans {a b c : World} (h : Gr a b) (k : Gr b c) : Gr a c := ⟨h.below.trans (k.below.mono h.below.size)⟩
theorem Gr.alloc {a b : World} (h : Gr a b) {o : Obj} : Gr a (b.alloc o) := ⟨h.below.alloc h.below.size _⟩
theorem Gr.drew {a b : World} (h : Gr a b) : Gr a b.drew := ⟨h.below.drew⟩
theorem Gr.size {a b : World} (h : Gr a b) : a.heap.size ≤ b.heap.size := h.below.size
theorem Gr.cells {W w1 : World} (h : Gr W w1) : (∀ b o, b < W.heap.size → w1.cell? ⟨b, o, none⟩ = W.cell? ⟨b, o, none⟩) ∧ (∀ b o, b < W.heap.size → w1.frozen? ⟨b, o, none⟩ = W.frozen? ⟨b, o, none⟩) :=
  ⟨fun b o hb => h.below.cell (p := ⟨b, o, none⟩) hb, fun b o hb => h.below.frozen (p := ⟨b, o, none⟩) hb⟩
theorem add_lists (x y : List UInt8) (h : x.length + y.length ≤ 9223372036854775807) (w : World) : (Op.stringOp .add ⟨x.toArray⟩ ⟨y.toArray⟩).run Tryz.prog w = .ok (.string ⟨(x ++ y).toArray⟩) w := by
  rw [run_string_add_sum w _ _ (by simpa [ByteArray.size] using h), ByteArray.mk_append_mk]
end Go.Proofs.YtfobfpigbfepoaaGreatDoor
namespace Go.Proofs.YtfobfpigbfepoaaGreatDoor
open Go.RowKit
theorem Gr.grownBy {w w' : World} (h : Gr w w') : w.grownBy w' none := ⟨h.below.os, h.below.tape, h.below.output, h.below.size, fun k hk _ => h.below.block k hk⟩
theorem Gr.keep {W w1 : World} (g : Gr W w1) {p : Addr} {v : Value} (h : W.cell? p = some v) : w1.cell? p = some v :=
  (g.below.cell (World.block_lt_of_cell? W p h)).trans h
def IntsAt (w : World) (ad : Option Addr) (l : List Int) : Prop :=
  ∀ j (h : j < l.length), ∃ b off, ad = some ⟨b, off, none⟩ ∧ b < w.heap.size ∧ w.cell? ⟨b, off + j, none⟩ = some (.int .i64 l[j])
theorem IntsAt.gr {w w' : World} {ad : Option Addr} {l : List Int} (h : IntsAt w ad l) (g : Gr w w') : IntsAt w' ad l := by
  intro j hj
  obtain ⟨b, off, e, hb, hc⟩ := h j hj
  exact ⟨b, off, e, Nat.lt_of_lt_of_le hb g.size, g.keep hc⟩
theorem IntsAt.take {w : World} {ad : Option Addr} {l : List Int} (h : IntsAt w ad l) (k : Nat) : IntsAt w ad (l.take k) := by
  intro j hj
  have hj' : j < l.length := by rw [List.length_take] at hj; omega
  obtain ⟨b, off, e, hb, hc⟩ := h j hj'
  exact ⟨b, off, e, hb, by rw [List.getElem_take]; exact hc⟩
theorem IntsAt.drop {w : World} {b off : Nat} {l : List Int} (h : IntsAt w (some ⟨b, off, none⟩) l) (k : Nat) : IntsAt w (some ⟨b, off + k, none⟩) (l.drop k) := by
  intro j hj
  rw [List.length_drop] at hj
  obtain ⟨b', off', e, hb, hc⟩ := h (k + j) (by omega)
  cases e
  exact ⟨b, off + k, rfl, hb, by rw [List.getElem_drop, Nat.add_assoc]; exact hc⟩
theorem IntsAt.nil {w : World} {ad : Option Addr} : IntsAt w ad [] := fun j h => absurd h (by simp)
theorem own_or (v : Value) : v.ownBlock = none ∨ v.ownBlock ≠ none := by
  cases v.ownBlock with
  | none => exact Or.inl rfl
  | some q => exact Or.inr (by simp)
end Go.Proofs.YtfobfpigbfepoaaGreatDoor
namespace Go.Proofs.YtfobfpigbfepoaaGreatDoor
open Go.RowKit
theorem Gr.set {a b : World} (h : Gr a b) (p : Addr) (hp : a.heap.size ≤ p.block) (v : Value) : Gr a (b.setCell p v) := ⟨h.below.setCell hp v⟩
theorem Gr.keepF {W w1 : World} (g : Gr W w1) {p : Addr} (hb : p.block < W.heap.size) (h : W.frozen? p = false) : w1.frozen? p = false := (g.below.frozen hb).trans h
structure BoxAt (w : World) (g : Nat) (a b c : Value) : Prop where
  c0 : w.cell? ⟨g, 0, none⟩ = some a
  c1 : w.cell? ⟨g, 1, none⟩ = some b
  c2 : w.cell? ⟨g, 2, none⟩ = some c
  f0 : w.frozen? ⟨g, 0, none⟩ = false
  f1 : w.frozen? ⟨g, 1, none⟩ = false
  f2 : w.frozen? ⟨g, 2, none⟩ = false
  lt : g < w.heap.size
theorem BoxAt.gr {w w' : World} {g : Nat} {a b c : Value} (h : BoxAt w g a b c) (k : Gr w w') : BoxAt w' g a b c :=
  ⟨k.keep h.c0, k.keep h.c1, k.keep h.c2, k.keepF h.lt h.f0, k.keepF h.lt h.f1, k.keepF h.lt h.f2, Nat.lt_of_lt_of_le h.lt k.size⟩
theorem BoxAt.new (w : World) (a b c : Value) (t : TypeId) (g : Nat) (hg : g = w.heap.size) : BoxAt (w.alloc (.cells #[a, b, c] t)) g a b c := by
  subst hg
  exact ⟨by simp, by simp, by simp, by simp [go_sem], by simp [go_sem], by simp [go_sem], by simp⟩
def RoomAt (w : World) (g : Nat) : Prop := ∃ a b c, BoxAt w g a b c
theorem RoomAt.gr {w w' : World} {g : Nat} (h : RoomAt w g) (k : Gr w w') : RoomAt w' g := by
  obtain ⟨a, b, c, h⟩ := h
  exact ⟨a, b, c, h.gr k⟩
theorem RoomAt.drew {w : World} {g : Nat} (h : RoomAt w g) : RoomAt w.drew g := h.gr (Gr.refl _).drew
theorem RoomAt.new (w : World) (a b c : Value) (t : TypeId) (g : Nat) (hg : g = w.heap.size) : RoomAt (w.alloc (.cells #[a, b, c] t)) g := ⟨a, b, c, BoxAt.new w a b c t g hg⟩
end Go.Proofs.YtfobfpigbfepoaaGreatDoor
namespace Go.Proofs.YtfobfpigbfepoaaGreatDoor
open Go.RowKit
theorem step_append_own {P : Program} {w : World} {ops : Array Oper} {o : Oper} {a : Act} {K : Act → World → Prop} {Q : Exit → Act → World → Prop} {E : Prop} (hgd : o.guard = none) (s x : Operand) (t : TypeId)
    (ho : o.op = .call { callee := .builtin .append, args := #[s, x], argTypes := #[t, t] })
    (base : Nat) (e : TypeId) (i : TypeInfo) (z : Value) (size bytes : Nat) (ht : P.underlying t = some (.slice e)) (hi : P.info? e = some i) (hz : i.zero = some z)
    (hsize : i.size = size) (hby : i.bytes = bytes) (hzs : z.cells.size = size) (hsz : 0 < size)
    (v : Value) (n : Nat) (xs : List Value) (hs : a.eval s = v) (hown : w.ownsRow base e size v n xs)
    (ad : Addr) (m c : Nat) (news : List Value) (hx : a.eval x = .slice (some ad) m c) (hl : news.length = m * size) (hnews : ∀ j u, news[j]? = some u → w.cell? (ad.add j) = some u) (h1 : ∀ u ∈ news, u.oneCell' = true)
    (h63 : n + m ≤ maxLen) (hbytes : (n + m) * bytes ≤ 140737488355328) (hbase : base ≤ w.heap.size)
    (h : ∀ v' w', w'.ownsRow base e size v' (n + m) (xs ++ news) → w.grownBy w' v.ownBlock → (v' = .slice none 0 0 ↔ v = .slice none 0 0 ∧ m = 0) → K (a.put o.dst v') w') :
    if Region.wanted o (yielded ops a.tmps) = true then Oper.wp P o a w K Q else E := by
  have hw : Region.wanted o (yielded ops a.tmps) = true := by simp [Region.wanted, hgd]
  rw [if_pos hw]
  exact wp_append_own w s x t ho base e i z size bytes ht hi hz hsize hby hzs hsz v n xs hs hown ad m c news hx hl hnews h1 h63 hbytes hbase h
theorem own_low {w : World} {base base' : Nat} {e : TypeId} {size n : Nat} {v : Value} {xs : List Value} (h : w.ownsRow base e size v n xs) (hb : base' ≤ base) : w.ownsRow base' e size v n xs := by
  obtain ⟨h1, ⟨rfl, h2⟩ | ⟨g, cap, cur, rfl, h3, h4⟩⟩ := h
  · exact ⟨h1, Or.inl ⟨rfl, h2⟩⟩
  · exact ⟨h1, Or.inr ⟨g, cap, cur, rfl, Nat.le_trans hb h3, h4⟩⟩
theorem Gr.grown {a b c : World} (h : Gr a b) {r : Option Nat} (k : b.grownBy c r) (hr : ∀ g, r = some g → a.heap.size ≤ g) : Gr a c := ⟨h.below.grown k h.below.size hr⟩
end Go.Proofs.YtfobfpigbfepoaaGreatDoor
namespace Go.Proofs.YtfobfpigbfepoaaGreatDoor
open Go.RowKit
def RowAt {α : Type} (f : α → List Value) (w : World) (ad : Option Addr) (L : List α) : Prop :=
  ∀ j u, (L.flatMap f)[j]? = some u → ∃ b off, ad = some ⟨b, off, none⟩ ∧ b < w.heap.size ∧ w.cell? ⟨b, off + j, none⟩ = some u
theorem flat_len {α : Type} {f : α → List Value} {c : Nat} (hc : ∀ x, (f x).length = c) (L : List α) : (L.flatMap f).length = L.length * c := by
  induction L with
  | nil => simp
  | cons x t ih => rw [List.flatMap_cons, List.length_append, ih, hc, List.length_cons, Nat.add_mul]; omega
theorem flat_get {α : Type} {f : α → List Value} {c : Nat} (hc : ∀ x, (f x).length = c) (L : List α) : ∀ j (h : j < L.length) i, i < c → (L.flatMap f)[j * c + i]? = (f L[j])[i]? := by
  induction L with
  | nil => intro j h; simp at h
  | cons x t ih =>
    intro j h i hi
    rw [List.flatMap_cons]
    cases j with
    | zero => rw [Nat.zero_mul, Nat.zero_add, List.getElem?_append_left (by rw [hc]; exact hi)]; rfl
    | succ j =>
      rw [Nat.add_mul, Nat.one_mul, List.getElem?_append_right (by rw [hc]; omega), hc, show j * c + c + i - c = j * c + i by omega, ih j (by simpa using h) i hi]; rfl
theorem RowAt.gr {α : Type} {f : α → List Value} {w w' : World} {ad : Option Addr} {L : List α} (h : RowAt f w ad L) (g : Gr w w') : RowAt f w' ad L := by
  intro j u hu
  obtain ⟨b, off, e, hb, h1⟩ := h j u hu
  exact ⟨b, off, e, Nat.lt_of_lt_of_le hb g.size, g.keep h1⟩
theorem RowAt.alloc {α : Type} {f : α → List Value} {w : World} {ad : Option Addr} {L : List α} (h : RowAt f w ad L) {o : Obj} : RowAt f (w.alloc o) ad L := h.gr (Gr.refl _).alloc
theorem RowAt.drew {α : Type} {f : α → List Value} {w : World} {ad : Option Addr} {L : List α} (h : RowAt f w ad L) : RowAt f w.drew ad L := h.gr (Gr.refl _).drew
theorem RowAt.nil {α : Type} {f : α → List Value} {w : World} {ad : Option Addr} : RowAt f w ad [] := fun j u h => by simp at h
theorem RowAt.setFar {α : Type} {f : α → List Value} {w : World} {ad : Option Addr} {L : List α} (h : RowAt f w ad L) (p : Addr) (v : Value) (hp : ∀ a, ad = some a → p.block ≠ a.block) : RowAt f (w.setCell p v) ad L := by
  intro j u hu
  obtain ⟨b, off, e, hb, h1⟩ := h j u hu
  exact ⟨b, off, e, by simpa using hb, by rw [World.cell?_setCell_far _ _ _ _ (by simpa using hp _ e)]; exact h1⟩
theorem RowAt.news {α : Type} {f : α → List Value} {w : World} {a : Addr} {L : List α} (h : RowAt f w (some a) L) : ∀ j u, (L.flatMap f)[j]? = some u → w.cell? (a.add j) = some u := by
  intro j u hu
  obtain ⟨b, off, e, _, h1⟩ := h j u hu
  cases e
  rw [Addr.add_lit]; exact h1
theorem RowAt.none {α : Type} {f : α → List Value} {c : Nat} (hc : ∀ x, (f x).length = c) (h0 : 0 < c) {w : World} {L : List α} (h : RowAt f w none L) : L = [] := by
  cases L with
  | nil => rfl
  | cons x t =>
    have hl := flat_len hc (x :: t)
    have : 0 < ((x :: t).flatMap f).length := by rw [hl, List.length_cons]; exact Nat.mul_pos (by omega) h0
    obtain ⟨b, off, e, _⟩ := h 0 _ (List.getElem?_eq_getElem this)
    cases e
theorem own_row {α : Type} {f : α → List Value} {c : Nat} {base : Nat} {t : TypeId} {v : Value} {L : List α} {w : World} (h : w.ownsRow base t c v L.length (L.flatMap f)) :
    ∃ ad cap, v = .slice ad L.length cap ∧ L.length ≤ cap ∧ cap ≤ 9223372036854775807 ∧ RowAt f w ad L ∧ (∀ a, ad = some a → base ≤ a.block) ∧ (ad = none → cap = 0) := by
  have hcell := fun g (hg : v.ownBlock = some g) => h.cells hg
  have hlt := h.lt
  obtain ⟨_, ⟨rfl, h0⟩ | ⟨g, cap, cur, rfl, hx⟩⟩ := h
  · have : L = [] := List.length_eq_zero_iff.1 h0
    subst this
    exact ⟨none, 0, rfl, by simp, by omega, RowAt.nil, (fun a e => by cases e), fun _ => rfl⟩
  · have hm : cap ≤ 9223372036854775807 := by have := hx.2.2.2.1; unfold maxLen at this; omega
    refine ⟨some ⟨g, 0, none⟩, cap, rfl, hx.2.2.1, hm, ?_, (fun a e => by cases e; exact (hlt g rfl).1), fun e => by cases e⟩
    intro j u hu
    have c1 := hcell g rfl _ _ hu
    rw [Addr.add_lit] at c1
    exact ⟨g, 0, rfl, (hlt g rfl).2, c1⟩
end Go.Proofs.YtfobfpigbfepoaaGreatDoor
