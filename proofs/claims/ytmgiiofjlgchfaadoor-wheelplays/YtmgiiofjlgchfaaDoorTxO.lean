
/- Plain mathematics: the order of texts. -/

import Derived.Lib.Bytealg
namespace Go.Proofs.YtmgiiofjlgchfaaDoor.Wh

/- the order of texts -/
def lt (x y : ByteArray) : Bool := Op.bytesLess x.toList y.toList
theorem bl_irrefl : ∀ l : List UInt8, Op.bytesLess l l = false
  | [] => rfl
  | a :: x => by simp [Op.bytesLess, bl_irrefl x]
theorem bl_trans : ∀ x y z : List UInt8, Op.bytesLess x y = true → Op.bytesLess y z = true → Op.bytesLess x z = true
  | x, [], _, h, _ => by cases x <;> simp [Op.bytesLess] at h
  | _, b :: y, [], _, h => by simp [Op.bytesLess] at h
  | [], _ :: _, _ :: _, _, _ => rfl
  | a :: x, b :: y, c :: z, h1, h2 => by
    simp only [Op.bytesLess, Bool.or_eq_true, Bool.and_eq_true, decide_eq_true_eq, beq_iff_eq] at h1 h2 ⊢
    rcases h1 with h1 | ⟨rfl, h1⟩
    · rcases h2 with h2 | ⟨rfl, h2⟩
      · exact Or.inl (UInt8.lt_trans h1 h2)
      · exact Or.inl h1
    · rcases h2 with h2 | ⟨rfl, h2⟩
      · exact Or.inl h2
      · exact Or.inr ⟨rfl, bl_trans x y z h1 h2⟩
theorem bl_tri : ∀ x y : List UInt8, Op.bytesLess x y = false → Op.bytesLess y x = false → x = y
  | [], [], _, _ => rfl
  | [], _ :: _, h, _ => by simp [Op.bytesLess] at h
  | _ :: _, [], _, h => by simp [Op.bytesLess] at h
  | a :: x, b :: y, h1, h2 => by
    simp only [Op.bytesLess, Bool.or_eq_false_iff, Bool.and_eq_false_iff, decide_eq_false_iff_not] at h1 h2
    have e : a = b := UInt8.le_antisymm (UInt8.not_lt.1 h2.1) (UInt8.not_lt.1 h1.1)
    subst e
    rw [bl_tri x y (by simpa using h1.2) (by simpa using h2.2)]
theorem cmp_sign : ∀ x y : List UInt8, (Lib.compareBytes x y < 0 ↔ Op.bytesLess x y = true) ∧ (Lib.compareBytes x y = 0 ↔ x = y)
  | [], [] => by simp [Lib.compareBytes, Op.bytesLess]
  | [], _ :: _ => by simp [Lib.compareBytes, Op.bytesLess]
  | _ :: _, [] => by simp [Lib.compareBytes, Op.bytesLess]
  | a :: x, b :: y => by
    obtain ⟨h1, h2⟩ := cmp_sign x y
    unfold Lib.compareBytes Op.bytesLess
    by_cases hab : a < b
    · rw [if_pos hab]
      refine ⟨by simp [hab], ?_⟩
      simp
      intro e; subst e; exact absurd hab (UInt8.lt_irrefl a)
    · rw [if_neg hab]
      by_cases hba : b < a
      · rw [if_pos hba]
        have : ¬ a = b := fun e => by subst e; exact hab hba
        simp [hab, this]
      · rw [if_neg hba]
        have e : a = b := UInt8.le_antisymm (UInt8.not_lt.1 hba) (UInt8.not_lt.1 hab)
        subst e
        simp [h1, h2, hab]
theorem toL (x : ByteArray) : x.toList = x.data.toList := ByteArray.toList_eq x
theorem lt_irrefl (x : ByteArray) : lt x x = false := bl_irrefl _
theorem lt_trans {x y z : ByteArray} (h : lt x y = true) (k : lt y z = true) : lt x z = true := bl_trans _ _ _ h k
theorem toL_inj {x y : ByteArray} (h : x.toList = y.toList) : x = y := by
  rw [toL, toL] at h
  cases x; cases y
  simp at h
  rw [h]
theorem lt_tri {x y : ByteArray} (h : lt x y = false) (k : lt y x = false) : x = y := toL_inj (bl_tri _ _ h k)
theorem lt_asymm {x y : ByteArray} (h : lt x y = true) : lt y x = false := by
  cases k : lt y x with
  | false => rfl
  | true => have := lt_trans h k; rw [lt_irrefl] at this; cases this
theorem lt_ne {x y : ByteArray} (h : lt x y = true) : x ≠ y := fun e => by rw [e, lt_irrefl] at h; cases h
theorem ge_trans {x y z : ByteArray} (h : lt x z = false) (k : lt x y = true) : lt y z = false := by
  cases e : lt y z with
  | false => rfl
  | true => rw [lt_trans k e] at h; cases h
theorem le_not (x y : ByteArray) : (Op.bytesLess x.toList y.toList || x.toList == y.toList) = !lt y x := by
  cases h : lt y x with
  | true =>
    have h1 : Op.bytesLess x.toList y.toList = false := lt_asymm h
    have h2 : (x.toList == y.toList) = false := by
      rw [beq_eq_false_iff_ne]
      intro e; exact lt_ne h (toL_inj e).symm
    rw [h1, h2]; rfl
  | false =>
    cases h1 : Op.bytesLess x.toList y.toList with
    | true => rfl
    | false =>
      have e : x = y := lt_tri h1 h
      subst e; simp
def cmpE (x y : ByteArray) : Int := Lib.compareBytes x.data.toList y.data.toList
theorem cmp_neg (x y : ByteArray) : cmpE x y < 0 ↔ lt x y = true := by unfold cmpE lt; rw [toL, toL]; exact (cmp_sign _ _).1
theorem cmp_zero (x y : ByteArray) : cmpE x y = 0 ↔ x = y := by
  unfold cmpE
  rw [(cmp_sign _ _).2]
  constructor
  · intro h; exact toL_inj (by rw [toL, toL]; exact h)
  · intro h; rw [h]

end Go.Proofs.YtmgiiofjlgchfaaDoor.Wh
