
/- Plain mathematics of activities: names, what may be, what an activity moves. -/
import Derived.Test.YtilkfgpcibdikaaPotM
namespace Go.Proofs.Ytilkfgpcibdikaa.Act

def letB (b : UInt8) : Bool := decide ((97 : Int) ≤ (b.toNat : Int)) && decide ((b.toNat : Int) ≤ 122)
def digB (b : UInt8) : Bool := decide ((48 : Int) ≤ (b.toNat : Int)) && decide ((b.toNat : Int) ≤ 57)
def sgnB (b : UInt8) : Bool := letB b || digB b
def headB : List UInt8 → Bool
  | [] => false
  | b :: _ => letB b
def nameB (s : ByteArray) : Bool := decide (s.size ≤ 16) && headB s.data.toList && s.data.toList.all sgnB

theorem head_get (s : ByteArray) (h : 0 < s.size) : headB s.data.toList = letB (s[0]'h) := by
  have hl : s.data.toList.length = s.size := by simp
  have h0 : s.data.toList[0]'(by omega) = s[0]'h := rfl
  cases hc : s.data.toList with
  | nil => rw [hc] at hl; simp at hl; omega
  | cons b t => simp only [hc] at h0; rw [← h0]; rfl
theorem head_none (s : ByteArray) (h : s.size = 0) : headB s.data.toList = false := by
  have hl : s.data.toList.length = s.size := by simp
  cases hc : s.data.toList with
  | nil => rfl
  | cons b t => rw [hc] at hl; simp at hl; omega
theorem name_empty (s : ByteArray) (h : s.size = 0) : nameB s = false := by unfold nameB; rw [head_none s h]; simp
theorem name_long (s : ByteArray) (h : 16 < s.size) : nameB s = false := by unfold nameB; rw [decide_eq_false (by omega)]; rfl
theorem name_head (s : ByteArray) (h : 0 < s.size) (hb : letB (s[0]'h) = false) : nameB s = false := by unfold nameB; rw [head_get s h, hb]; simp
theorem name_sign (s : ByteArray) (k : Nat) (h : k < s.size) (hb : sgnB (s[k]'h) = false) : nameB s = false := by
  have hl : s.data.toList.length = s.size := by simp
  have hk : s.data.toList[k]'(by omega) = s[k]'h := rfl
  have : s.data.toList.all sgnB = false := by
    rw [List.all_eq_false]
    exact ⟨_, List.getElem_mem (by omega : k < s.data.toList.length), by rw [hk, hb]; simp⟩
  unfold nameB; rw [this]; simp
theorem name_yes (s : ByteArray) (h : 0 < s.size) (h16 : s.size ≤ 16) (hb : letB (s[0]'h) = true) (ha : ∀ j (hj : j < s.size), sgnB (s[j]'hj) = true) : nameB s = true := by
  have hl : s.data.toList.length = s.size := by simp
  have : s.data.toList.all sgnB = true := by
    rw [List.all_eq_true]
    intro b hm
    obtain ⟨j, hj, rfl⟩ := List.getElem_of_mem hm
    exact ha j (by omega)
  unfold nameB; rw [this, head_get s h, hb, decide_eq_true h16]; rfl
theorem sgn_let {b : UInt8} (h : letB b = true) : sgnB b = true := by unfold sgnB; rw [h]; rfl
theorem sgn_dig {b : UInt8} (h : digB b = true) : sgnB b = true := by unfold sgnB; rw [h]; simp
theorem sgn_no {b : UInt8} (h : letB b = false) (h2 : digB b = false) : sgnB b = false := by unfold sgnB; rw [h, h2]; rfl
theorem dig_let {b : UInt8} (h : digB b = true) : letB b = false := by
  unfold digB at h
  unfold letB
  simp only [Bool.and_eq_true, decide_eq_true_eq] at h
  rw [decide_eq_false (by omega)]; rfl
theorem name_pos {s : ByteArray} (h : nameB s = true) : 0 < s.size ∧ s.size ≤ 16 := by
  refine ⟨?_, ?_⟩
  · by_cases hz : s.size = 0
    · rw [name_empty s hz] at h; cases h
    · omega
  · by_cases hz : 16 < s.size
    · rw [name_long s hz] at h; cases h
    · omega

/- an activity, an account -/
def actB (k : Int) (s : ByteArray) (n : Int) : Bool := decide (1 ≤ k) && decide (k ≤ 4) && nameB s && decide (1 ≤ n) && decide (n ≤ 1000000000000000)
def chkE (k : Int) (s : ByteArray) (n : Int) : Int := if actB k s n = true then 0 else 60
theorem act_iff (k : Int) (s : ByteArray) (n : Int) : actB k s n = true ↔ (1 ≤ k ∧ k ≤ 4) ∧ nameB s = true ∧ 1 ≤ n ∧ n ≤ 1000000000000000 := by
  unfold actB; simp only [Bool.and_eq_true, decide_eq_true_eq]; constructor
  · rintro ⟨⟨⟨⟨a, b⟩, c⟩, d⟩, e⟩; exact ⟨⟨a, b⟩, c, d, e⟩
  · rintro ⟨⟨a, b⟩, c, d, e⟩; exact ⟨⟨⟨⟨a, b⟩, c⟩, d⟩, e⟩
theorem chk_yes {k : Int} {s : ByteArray} {n : Int} (h : actB k s n = true) : chkE k s n = 0 := by unfold chkE; rw [if_pos h]
theorem chk_no {k : Int} {s : ByteArray} {n : Int} (h : actB k s n = false) : chkE k s n = 60 := by unfold chkE; rw [h]; rfl
def accB (s : ByteArray) (a b c x y z : Int) : Bool := nameB s && Pot.mayB a b c && Pot.mayB x y z
def mayE (s : ByteArray) (a b c x y z : Int) : Int := if accB s a b c x y z = true then 0 else 2
theorem may_yes {s : ByteArray} {a b c x y z : Int} (h : accB s a b c x y z = true) : mayE s a b c x y z = 0 := by unfold mayE; rw [if_pos h]
theorem may_no {s : ByteArray} {a b c x y z : Int} (h : accB s a b c x y z = false) : mayE s a b c x y z = 2 := by unfold mayE; rw [h]; rfl

/- what keeps an activity from an account, whatever its pots have -/
def fitE (s : ByteArray) (a b c x y z : Int) (k : Int) (t : ByteArray) (n : Int) : Int := if accB s a b c x y z = true then (if (actB k t n && decide (t = s)) = true then 0 else 60) else 2

/- the ways of an activity: of Free, of Kept -/
def wF (k : Int) : Int := if k = 1 ∨ k = 3 then -1 else if k = 2 ∨ k = 4 then 1 else 0
def wK (k : Int) : Int := if k = 3 then 1 else if k = 4 then -1 else 0
theorem way_unit (k : Int) : Pot.unit (Act.wF k) ∧ Pot.unit (Act.wK k) := by
  unfold Act.wF Act.wK Pot.unit
  refine ⟨?_, ?_⟩ <;> (repeat' split) <;> simp
theorem way_rng (k n : Int) (h0 : 1 ≤ n) (h1 : n ≤ 1000000000000000) : (-9223372036854775808 ≤ Act.wF k * n ∧ Act.wF k * n ≤ 9223372036854775807) ∧ (-9223372036854775808 ≤ Act.wK k * n ∧ Act.wK k * n ≤ 9223372036854775807) :=
  ⟨(Pot.unit_rng 0 _ n (way_unit k).1 (by omega) (by omega) h0 h1).1, (Pot.unit_rng 0 _ n (way_unit k).2 (by omega) (by omega) h0 h1).1⟩
def dF (k : Int) (s : ByteArray) (n : Int) : Int := if actB k s n = true then wF k * n else 0
def dK (k : Int) (s : ByteArray) (n : Int) : Int := if actB k s n = true then wK k * n else 0

/- what one of pot's calls answers -/
structure Ch where
  h : Bool → Int → Int → Int → Int → Int
  i : Bool → Int → Int → Int → Int → Int
  o : Bool → Int → Int → Int → Int → Int
  e : Bool → Int → Int → Int → Int → Int
def chDo : Ch := ⟨fun out h i o a => Pot.pick (Pot.eDo out h i o a) (h + Pot.sg out (-1) 1 * a), fun out h i o a => Pot.pick (Pot.eDo out h i o a) (i + Pot.sg out 0 1 * a), fun out h i o a => Pot.pick (Pot.eDo out h i o a) (o + Pot.sg out 1 0 * a), fun out h i o a => Pot.eDo out h i o a⟩
def chUn : Ch := ⟨fun out h i o a => Pot.pick (Pot.eUn out h i o a) (h + Pot.sg out 1 (-1) * a), fun out h i o a => Pot.pick (Pot.eUn out h i o a) (i + Pot.sg out 0 (-1) * a), fun out h i o a => Pot.pick (Pot.eUn out h i o a) (o + Pot.sg out (-1) 0 * a), fun out h i o a => Pot.eUn out h i o a⟩
def chKe : Ch := ⟨fun out h i o a => Pot.pick (Pot.eUn out h i o a) (h + Pot.sg out 0 0 * a), fun out h i o a => Pot.pick (Pot.eUn out h i o a) (i + Pot.sg out 0 (-1) * a), fun out h i o a => Pot.pick (Pot.eUn out h i o a) (o + Pot.sg out (-1) 0 * a), fun out h i o a => Pot.eUn out h i o a⟩
/- the way of an activity with each pot, as a call of pot's takes it -/
def oF (k : Int) : Bool := decide (wF k < 0)
def oK (k : Int) : Bool := decide (wK k < 0)
def eK (C : Ch) (k x y z n : Int) : Int := if wK k = 0 then 0 else C.e (oK k) x y z n
def hK (C : Ch) (k x y z n : Int) : Int := if wK k = 0 then x else C.h (oK k) x y z n
def iK (C : Ch) (k x y z n : Int) : Int := if wK k = 0 then y else C.i (oK k) x y z n
def uK (C : Ch) (k x y z n : Int) : Int := if wK k = 0 then z else C.o (oK k) x y z n
/- the error of a call with an account, and the account -/
def mvE (C : Ch) (s : ByteArray) (a b c x y z : Int) (k : Int) (t : ByteArray) (n : Int) : Int :=
  if fitE s a b c x y z k t n = 0 then (if C.e (oF k) a b c n = 0 then eK C k x y z n else C.e (oF k) a b c n) else fitE s a b c x y z k t n
def both (e1 e2 : Int) : Int := if e1 = 0 then e2 else e1
def pickS (e : Int) (s : ByteArray) : ByteArray := if e = 0 then s else ⟨#[]⟩
theorem fit_cases (s : ByteArray) (a b c x y z : Int) (k : Int) (t : ByteArray) (n : Int) :
    (fitE s a b c x y z k t n = 0 ∧ accB s a b c x y z = true ∧ actB k t n = true ∧ t = s) ∨ fitE s a b c x y z k t n = 2 ∨ fitE s a b c x y z k t n = 60 := by
  unfold fitE
  by_cases h1 : accB s a b c x y z = true
  · rw [if_pos h1]
    by_cases h2 : (actB k t n && decide (t = s)) = true
    · rw [if_pos h2]
      rw [Bool.and_eq_true, decide_eq_true_eq] at h2
      exact Or.inl ⟨rfl, h1, h2.1, h2.2⟩
    · rw [if_neg h2]; exact Or.inr (Or.inr rfl)
  · rw [if_neg h1]; exact Or.inr (Or.inl rfl)
theorem acc_iff (s : ByteArray) (a b c x y z : Int) : accB s a b c x y z = true ↔ nameB s = true ∧ Pot.mayB a b c = true ∧ Pot.mayB x y z = true := by
  unfold accB; rw [Bool.and_eq_true, Bool.and_eq_true]; constructor
  · rintro ⟨⟨p, q⟩, r⟩; exact ⟨p, q, r⟩
  · rintro ⟨p, q, r⟩; exact ⟨⟨p, q⟩, r⟩
theorem wF_ne {k : Int} (h0 : 1 ≤ k) (h1 : k ≤ 4) : wF k ≠ 0 := by
  have : k = 1 ∨ k = 2 ∨ k = 3 ∨ k = 4 := by omega
  rcases this with rfl | rfl | rfl | rfl <;> simp [wF]
end Go.Proofs.Ytilkfgpcibdikaa.Act
