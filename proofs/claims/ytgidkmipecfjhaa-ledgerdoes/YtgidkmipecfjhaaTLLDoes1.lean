/- What the proof is made of, part 1. -/
import Derived.Lib.ItoaNum
import Derived.Lib.Bytealg
import Derived.Test.YtgidkmipecfjhaaProg
import Derived.WalkKit
import Derived.WalkSpells
import Derived.WalkLawsBesides
import Derived.Laws.IdiomStrings
import Derived.Lib.UnsafeStr
import Derived.KernelRfl
import Derived.Deep.RegionWith
import Derived.Deep.DrawnRows
import Derived.Laws.OwnMore
import Derived.Maps.AppendAt
namespace Go.Proofs.Ytgidkmipecfjhaa.Csh
def okB (s : Int) : Bool := decide (-9223372036854775808 ≤ s) && decide (s ≤ 9223372036854775807)
def errE (s : Int) : Int := if okB s = true then 0 else 40
end Go.Proofs.Ytgidkmipecfjhaa.Csh
namespace Go.Proofs.Ytgidkmipecfjhaa.Pot
def mayB (h i o : Int) : Bool := decide (0 ≤ i) && decide (i ≤ h) && decide (0 ≤ o) && decide (h + o ≤ 1000000000000000)
def chkE (h i o : Int) : Int := if mayB h i o = true then 0 else 2
def freeE (h i o : Int) : Int := if mayB h i o = true then h - i else 0
def roomE (h i o : Int) : Int := if mayB h i o = true then 1000000000000000 - h - o else 0
def argB (h i o a : Int) : Bool := mayB h i o && decide (1 ≤ a) && decide (a ≤ 1000000000000000)
def errE (h i o a m : Int) : Int := if argB h i o a = true then (if m < a then 50 else 0) else 2
def pick (e x : Int) : Int := if e = 0 then x else 0
theorem may_iff (h i o : Int) : mayB h i o = true ↔ 0 ≤ i ∧ i ≤ h ∧ 0 ≤ o ∧ h + o ≤ 1000000000000000 := by
  unfold mayB; simp only [Bool.and_eq_true, decide_eq_true_eq]; omega
theorem arg_iff (h i o a : Int) : argB h i o a = true ↔ (0 ≤ i ∧ i ≤ h ∧ 0 ≤ o ∧ h + o ≤ 1000000000000000) ∧ 1 ≤ a ∧ a ≤ 1000000000000000 := by
  unfold argB; rw [Bool.and_eq_true, Bool.and_eq_true, may_iff, decide_eq_true_eq, decide_eq_true_eq]; omega
theorem may_no (h i o : Int) (e : mayB h i o = false) : i < 0 ∨ h < i ∨ o < 0 ∨ 1000000000000000 < h + o := by
  have := may_iff h i o
  rw [e] at this
  simp at this
  omega
theorem arg_no (h i o a : Int) (e : argB h i o a = false) : mayB h i o = false ∨ a < 1 ∨ 1000000000000000 < a := by
  unfold argB at e
  cases hm : mayB h i o with
  | false => exact Or.inl rfl
  | true =>
    rw [hm] at e
    simp at e
    omega
theorem err_ok {h i o a m : Int} (h1 : argB h i o a = true) (h2 : ¬ m < a) : errE h i o a m = 0 := by unfold errE; rw [if_pos h1, if_neg h2]
theorem err_pot {h i o a m : Int} (h1 : argB h i o a = true) (h2 : m < a) : errE h i o a m = 50 := by unfold errE; rw [if_pos h1, if_pos h2]
theorem err_arg {h i o a m : Int} (h1 : argB h i o a = false) : errE h i o a m = 2 := by unfold errE; rw [if_neg (by rw [h1]; simp)]
theorem pick0 (x : Int) : pick 0 x = x := rfl
theorem pick50 (x : Int) : pick 50 x = 0 := rfl
theorem pick2 (x : Int) : pick 2 x = 0 := rfl
theorem err_cases (h i o a m : Int) : (errE h i o a m = 0 ∧ argB h i o a = true ∧ a ≤ m) ∨ (errE h i o a m = 50 ∧ argB h i o a = true ∧ m < a) ∨ (errE h i o a m = 2 ∧ argB h i o a = false) := by
  cases h1 : argB h i o a with
  | true =>
    by_cases h2 : m < a
    · exact Or.inr (Or.inl ⟨err_pot h1 h2, rfl, h2⟩)
    · exact Or.inl ⟨err_ok h1 h2, rfl, by omega⟩
  | false => exact Or.inr (Or.inr ⟨err_arg h1, rfl⟩)
def unit (d : Int) : Prop := d = -1 ∨ d = 0 ∨ d = 1
theorem unit_rng (x d a : Int) (hd : unit d) (h0 : 0 ≤ x) (h1 : x ≤ 1000000000000000) (a0 : 1 ≤ a) (a1 : a ≤ 1000000000000000) :
    (-9223372036854775808 ≤ d * a ∧ d * a ≤ 9223372036854775807) ∧ (-9223372036854775808 ≤ x + d * a ∧ x + d * a ≤ 9223372036854775807) := by
  rcases hd with rfl | rfl | rfl
  · rw [Int.neg_mul, Int.one_mul]; omega
  · rw [Int.zero_mul]; omega
  · rw [Int.one_mul]; omega
def mostDo (out : Bool) (h i o : Int) : Int := if out = true then freeE h i o else roomE h i o
def mostUn (out : Bool) (i o : Int) : Int := if out = true then o else i
def eDo (out : Bool) (h i o a : Int) : Int := errE h i o a (mostDo out h i o)
def eUn (out : Bool) (h i o a : Int) : Int := errE h i o a (mostUn out i o)
def sg (out : Bool) (x y : Int) : Int := if out = true then x else y
end Go.Proofs.Ytgidkmipecfjhaa.Pot
namespace Go.Proofs.Ytgidkmipecfjhaa.Act
def letB (b : UInt8) : Bool := decide ((97 : Int) ≤ (b.toNat : Int)) && decide ((b.toNat : Int) ≤ 122)
def digB (b : UInt8) : Bool := decide ((48 : Int) ≤ (b.toNat : Int)) && decide ((b.toNat : Int) ≤ 57)
def sgnB (b : UInt8) : Bool := letB b || digB b
def headB : List UInt8 → Bool
  | [] => false
  | b :: _ => letB b
def nameB (s : ByteArray) : Bool := decide (s.size ≤ 16) && headB s.data.toList && s.data.toList.all sgnB
theorem head_get (s : ByteArray) (h : 0 < s.size) : headB s.data.toList = letB (s[0]'h) := by
  have hl : s.data.toList.length = s.size := by simp
  have h0 : s.data.toList[0]'(by omega) = s[0]'h := rfl
  cases hc : s.data.toList with
  | nil => rw [hc] at hl; simp at hl; omega
  | cons b t => simp only [hc] at h0; rw [← h0]; rfl
theorem head_none (s : ByteArray) (h : s.size = 0) : headB s.data.toList = false := by
  have hl : s.data.toList.length = s.size := by simp
  cases hc : s.data.toList with
  | nil => rfl
  | cons b t => rw [hc] at hl; simp at hl; omega
theorem name_empty (s : ByteArray) (h : s.size = 0) : nameB s = false := by unfold nameB; rw [head_none s h]; simp
theorem name_long (s : ByteArray) (h : 16 < s.size) : nameB s = false := by unfold nameB; rw [decide_eq_false (by omega)]; rfl
theorem name_head (s : ByteArray) (h : 0 < s.size) (hb : letB (s[0]'h) = false) : nameB s = false := by unfold nameB; rw [head_get s h, hb]; simp
theorem name_sign (s : ByteArray) (k : Nat) (h : k < s.size) (hb : sgnB (s[k]'h) = false) : nameB s = false := by
  have hl : s.data.toList.length = s.size := by simp
  have hk : s.data.toList[k]'(by omega) = s[k]'h := rfl
  have : s.data.toList.all sgnB = false := by
    rw [List.all_eq_false]
    exact ⟨_, List.getElem_mem (by omega : k < s.data.toList.length), by rw [hk, hb]; simp⟩
  unfold nameB; rw [this]; simp
theorem name_yes (s : ByteArray) (h : 0 < s.size) (h16 : s.size ≤ 16) (hb : letB (s[0]'h) = true) (ha : ∀ j (hj : j < s.size), sgnB (s[j]'hj) = true) : nameB s = true := by
  have hl : s.data.toList.length = s.size := by simp
  have : s.data.toList.all sgnB = true := by
    rw [List.all_eq_true]
    intro b hm
    obtain ⟨j, hj, rfl⟩ := List.getElem_of_mem hm
    exact ha j (by omega)
  unfold nameB; rw [this, head_get s h, hb, decide_eq_true h16]; rfl
theorem sgn_let {b : UInt8} (h : letB b = true) : sgnB b = true := by unfold sgnB; rw [h]; rfl
theorem sgn_dig {b : UInt8} (h : digB b = true) : sgnB b = true := by unfold sgnB; rw [h]; simp
theorem sgn_no {b : UInt8} (h : letB b = false) (h2 : digB b = false) : sgnB b = false := by unfold sgnB; rw [h, h2]; rfl
theorem name_pos {s : ByteArray} (h : nameB s = true) : 0 < s.size ∧ s.size ≤ 16 := by
  refine ⟨?_, ?_⟩
  · by_cases hz : s.size = 0
    · rw [name_empty s hz] at h; cases h
    · omega
  · by_cases hz : 16 < s.size
    · rw [name_long s hz] at h; cases h
    · omega
def actB (k : Int) (s : ByteArray) (n : Int) : Bool := decide (1 ≤ k) && decide (k ≤ 4) && nameB s && decide (1 ≤ n) && decide (n ≤ 1000000000000000)
def chkE (k : Int) (s : ByteArray) (n : Int) : Int := if actB k s n = true then 0 else 60
theorem act_iff (k : Int) (s : ByteArray) (n : Int) : actB k s n = true ↔ (1 ≤ k ∧ k ≤ 4) ∧ nameB s = true ∧ 1 ≤ n ∧ n ≤ 1000000000000000 := by
  unfold actB; simp only [Bool.and_eq_true, decide_eq_true_eq]; constructor
  · rintro ⟨⟨⟨⟨a, b⟩, c⟩, d⟩, e⟩; exact ⟨⟨a, b⟩, c, d, e⟩
  · rintro ⟨⟨a, b⟩, c, d, e⟩; exact ⟨⟨⟨⟨a, b⟩, c⟩, d⟩, e⟩
theorem chk_yes {k : Int} {s : ByteArray} {n : Int} (h : actB k s n = true) : chkE k s n = 0 := by unfold chkE; rw [if_pos h]
theorem chk_no {k : Int} {s : ByteArray} {n : Int} (h : actB k s n = false) : chkE k s n = 60 := by unfold chkE; rw [h]; rfl
def accB (s : ByteArray) (a b c x y z : Int) : Bool := nameB s && Pot.mayB a b c && Pot.mayB x y z
def mayE (s : ByteArray) (a b c x y z : Int) : Int := if accB s a b c x y z = true then 0 else 2
theorem may_yes {s : ByteArray} {a b c x y z : Int} (h : accB s a b c x y z = true) : mayE s a b c x y z = 0 := by unfold mayE; rw [if_pos h]
theorem may_no {s : ByteArray} {a b c x y z : Int} (h : accB s a b c x y z = false) : mayE s a b c x y z = 2 := by unfold mayE; rw [h]; rfl
def fitE (s : ByteArray) (a b c x y z : Int) (k : Int) (t : ByteArray) (n : Int) : Int := if accB s a b c x y z = true then (if (actB k t n && decide (t = s)) = true then 0 else 60) else 2
def wF (k : Int) : Int := if k = 1 ∨ k = 3 then -1 else if k = 2 ∨ k = 4 then 1 else 0
def wK (k : Int) : Int := if k = 3 then 1 else if k = 4 then -1 else 0
theorem way_unit (k : Int) : Pot.unit (Act.wF k) ∧ Pot.unit (Act.wK k) := by
  unfold Act.wF Act.wK Pot.unit
  refine ⟨?_, ?_⟩ <;> (repeat' split) <;> simp
theorem way_rng (k n : Int) (h0 : 1 ≤ n) (h1 : n ≤ 1000000000000000) : (-9223372036854775808 ≤ Act.wF k * n ∧ Act.wF k * n ≤ 9223372036854775807) ∧ (-9223372036854775808 ≤ Act.wK k * n ∧ Act.wK k * n ≤ 9223372036854775807) :=
  ⟨(Pot.unit_rng 0 _ n (way_unit k).1 (by omega) (by omega) h0 h1).1, (Pot.unit_rng 0 _ n (way_unit k).2 (by omega) (by omega) h0 h1).1⟩
def dF (k : Int) (s : ByteArray) (n : Int) : Int := if actB k s n = true then wF k * n else 0
def dK (k : Int) (s : ByteArray) (n : Int) : Int := if actB k s n = true then wK k * n else 0
structure Ch where
  h : Bool → Int → Int → Int → Int → Int
  i : Bool → Int → Int → Int → Int → Int
  o : Bool → Int → Int → Int → Int → Int
  e : Bool → Int → Int → Int → Int → Int
def chDo : Ch := ⟨fun out h i o a => Pot.pick (Pot.eDo out h i o a) (h + Pot.sg out (-1) 1 * a), fun out h i o a => Pot.pick (Pot.eDo out h i o a) (i + Pot.sg out 0 1 * a), fun out h i o a => Pot.pick (Pot.eDo out h i o a) (o + Pot.sg out 1 0 * a), fun out h i o a => Pot.eDo out h i o a⟩
def chUn : Ch := ⟨fun out h i o a => Pot.pick (Pot.eUn out h i o a) (h + Pot.sg out 1 (-1) * a), fun out h i o a => Pot.pick (Pot.eUn out h i o a) (i + Pot.sg out 0 (-1) * a), fun out h i o a => Pot.pick (Pot.eUn out h i o a) (o + Pot.sg out (-1) 0 * a), fun out h i o a => Pot.eUn out h i o a⟩
def chKe : Ch := ⟨fun out h i o a => Pot.pick (Pot.eUn out h i o a) (h + Pot.sg out 0 0 * a), fun out h i o a => Pot.pick (Pot.eUn out h i o a) (i + Pot.sg out 0 (-1) * a), fun out h i o a => Pot.pick (Pot.eUn out h i o a) (o + Pot.sg out (-1) 0 * a), fun out h i o a => Pot.eUn out h i o a⟩
def oF (k : Int) : Bool := decide (wF k < 0)
def oK (k : Int) : Bool := decide (wK k < 0)
def eK (C : Ch) (k x y z n : Int) : Int := if wK k = 0 then 0 else C.e (oK k) x y z n
def hK (C : Ch) (k x y z n : Int) : Int := if wK k = 0 then x else C.h (oK k) x y z n
def iK (C : Ch) (k x y z n : Int) : Int := if wK k = 0 then y else C.i (oK k) x y z n
def uK (C : Ch) (k x y z n : Int) : Int := if wK k = 0 then z else C.o (oK k) x y z n
def mvE (C : Ch) (s : ByteArray) (a b c x y z : Int) (k : Int) (t : ByteArray) (n : Int) : Int :=
  if fitE s a b c x y z k t n = 0 then (if C.e (oF k) a b c n = 0 then eK C k x y z n else C.e (oF k) a b c n) else fitE s a b c x y z k t n
def both (e1 e2 : Int) : Int := if e1 = 0 then e2 else e1
def pickS (e : Int) (s : ByteArray) : ByteArray := if e = 0 then s else ⟨#[]⟩
theorem fit_cases (s : ByteArray) (a b c x y z : Int) (k : Int) (t : ByteArray) (n : Int) :
    (fitE s a b c x y z k t n = 0 ∧ accB s a b c x y z = true ∧ actB k t n = true ∧ t = s) ∨ fitE s a b c x y z k t n = 2 ∨ fitE s a b c x y z k t n = 60 := by
  unfold fitE
  by_cases h1 : accB s a b c x y z = true
  · rw [if_pos h1]
    by_cases h2 : (actB k t n && decide (t = s)) = true
    · rw [if_pos h2]
      rw [Bool.and_eq_true, decide_eq_true_eq] at h2
      exact Or.inl ⟨rfl, h1, h2.1, h2.2⟩
    · rw [if_neg h2]; exact Or.inr (Or.inr rfl)
  · rw [if_neg h1]; exact Or.inr (Or.inl rfl)
theorem acc_iff (s : ByteArray) (a b c x y z : Int) : accB s a b c x y z = true ↔ nameB s = true ∧ Pot.mayB a b c = true ∧ Pot.mayB x y z = true := by
  unfold accB; rw [Bool.and_eq_true, Bool.and_eq_true]; constructor
  · rintro ⟨⟨p, q⟩, r⟩; exact ⟨p, q, r⟩
  · rintro ⟨p, q, r⟩; exact ⟨⟨p, q⟩, r⟩
theorem wF_ne {k : Int} (h0 : 1 ≤ k) (h1 : k ≤ 4) : wF k ≠ 0 := by
  have : k = 1 ∨ k = 2 ∨ k = 3 ∨ k = 4 := by omega
  rcases this with rfl | rfl | rfl | rfl <;> simp [wF]
end Go.Proofs.Ytgidkmipecfjhaa.Act
namespace Go.Proofs.Ytgidkmipecfjhaa.Act
theorem pot_done (out : Bool) (h i o a : Int) (he : Pot.eDo out h i o a = 0) :
    Pot.mayB (h + Pot.sg out (-1) 1 * a) (i + Pot.sg out 0 1 * a) (o + Pot.sg out 1 0 * a) = true ∧ Pot.mayB (h + Pot.sg out (-1) 1 * a) i o = true ∧
    Pot.eUn out (h + Pot.sg out (-1) 1 * a) (i + Pot.sg out 0 1 * a) (o + Pot.sg out 1 0 * a) a = 0 := by
  have hm : Pot.argB h i o a = true ∧ a ≤ Pot.mostDo out h i o := by
    unfold Pot.eDo at he
    rcases Pot.err_cases h i o a (Pot.mostDo out h i o) with ⟨_, e2, e3⟩ | ⟨e1, _⟩ | ⟨e1, _⟩
    · exact ⟨e2, e3⟩
    · rw [e1] at he; cases he
    · rw [e1] at he; cases he
  obtain ⟨ha, hmo⟩ := hm
  obtain ⟨⟨h1, h2, h3, h4⟩, h5, h6⟩ := (Pot.arg_iff h i o a).1 ha
  have hmay : Pot.mayB h i o = true := (Pot.may_iff h i o).2 ⟨h1, h2, h3, h4⟩
  cases out with
  | true =>
    have e1 : Pot.mostDo true h i o = h - i := by unfold Pot.mostDo Pot.freeE; rw [if_pos rfl, if_pos hmay]
    rw [e1] at hmo
    have k1 : h + Pot.sg true (-1) 1 * a = h - a := by simp [Pot.sg]; omega
    have k2 : i + Pot.sg true 0 1 * a = i := by simp [Pot.sg]
    have k3 : o + Pot.sg true 1 0 * a = o + a := by simp [Pot.sg]
    rw [k1, k2, k3]
    refine ⟨(Pot.may_iff _ _ _).2 (by omega), (Pot.may_iff _ _ _).2 (by omega), ?_⟩
    unfold Pot.eUn
    refine Pot.err_ok ((Pot.arg_iff _ _ _ _).2 (by omega)) ?_
    rw [show Pot.mostUn true i (o + a) = o + a from rfl]; omega
  | false =>
    have e1 : Pot.mostDo false h i o = 1000000000000000 - h - o := by unfold Pot.mostDo Pot.roomE; rw [if_neg (by decide), if_pos hmay]
    rw [e1] at hmo
    have k1 : h + Pot.sg false (-1) 1 * a = h + a := by simp [Pot.sg]
    have k2 : i + Pot.sg false 0 1 * a = i + a := by simp [Pot.sg]
    have k3 : o + Pot.sg false 1 0 * a = o := by simp [Pot.sg]
    rw [k1, k2, k3]
    refine ⟨(Pot.may_iff _ _ _).2 (by omega), (Pot.may_iff _ _ _).2 (by omega), ?_⟩
    unfold Pot.eUn
    refine Pot.err_ok ((Pot.arg_iff _ _ _ _).2 (by omega)) ?_
    rw [show Pot.mostUn false (i + a) o = i + a from rfl]; omega
theorem ch_done (out : Bool) (h i o a : Int) (he : chDo.e out h i o a = 0) (d : Int) (hd : d = Pot.sg out (-1) 1 * a) :
    ∃ i' o', chDo.h out h i o a = h + d ∧ chDo.i out h i o a = i' ∧ chDo.o out h i o a = o' ∧ Pot.mayB (h + d) i' o' = true ∧ Pot.mayB (h + d) i o = true ∧
      chUn.e out (h + d) i' o' a = 0 ∧ chUn.h out (h + d) i' o' a = h ∧ chUn.i out (h + d) i' o' a = i ∧ chUn.o out (h + d) i' o' a = o ∧
      chKe.e out (h + d) i' o' a = 0 ∧ chKe.h out (h + d) i' o' a = h + d ∧ chKe.i out (h + d) i' o' a = i ∧ chKe.o out (h + d) i' o' a = o := by
  subst hd
  have he' : Pot.eDo out h i o a = 0 := he
  obtain ⟨m1, m2, m3⟩ := pot_done out h i o a he'
  refine ⟨i + Pot.sg out 0 1 * a, o + Pot.sg out 1 0 * a, ?_, ?_, ?_, m1, m2, m3, ?_, ?_, ?_, m3, ?_, ?_, ?_⟩
  · show Pot.pick (Pot.eDo out h i o a) _ = _; rw [he', Pot.pick0]
  · show Pot.pick (Pot.eDo out h i o a) _ = _; rw [he', Pot.pick0]
  · show Pot.pick (Pot.eDo out h i o a) _ = _; rw [he', Pot.pick0]
  · show Pot.pick (Pot.eUn out _ _ _ a) _ = _; rw [m3, Pot.pick0]; cases out <;> simp [Pot.sg] <;> omega
  · show Pot.pick (Pot.eUn out _ _ _ a) _ = _; rw [m3, Pot.pick0]; cases out <;> simp [Pot.sg] <;> omega
  · show Pot.pick (Pot.eUn out _ _ _ a) _ = _; rw [m3, Pot.pick0]; cases out <;> simp [Pot.sg] <;> omega
  · show Pot.pick (Pot.eUn out _ _ _ a) _ = _; rw [m3, Pot.pick0]; cases out <;> simp [Pot.sg]
  · show Pot.pick (Pot.eUn out _ _ _ a) _ = _; rw [m3, Pot.pick0]; cases out <;> simp [Pot.sg] <;> omega
  · show Pot.pick (Pot.eUn out _ _ _ a) _ = _; rw [m3, Pot.pick0]; cases out <;> simp [Pot.sg] <;> omega
theorem kept_done (k x y z n : Int) (hm : Pot.mayB x y z = true) (he : eK chDo k x y z n = 0) (hk : 1 ≤ k ∧ k ≤ 4) (d : Int) (hd : d = wK k * n) :
    ∃ i' o', hK chDo k x y z n = x + d ∧ iK chDo k x y z n = i' ∧ uK chDo k x y z n = o' ∧ Pot.mayB (x + d) i' o' = true ∧ Pot.mayB (x + d) y z = true ∧
      eK chUn k (x + d) i' o' n = 0 ∧ hK chUn k (x + d) i' o' n = x ∧ iK chUn k (x + d) i' o' n = y ∧ uK chUn k (x + d) i' o' n = z ∧
      eK chKe k (x + d) i' o' n = 0 ∧ hK chKe k (x + d) i' o' n = x + d ∧ iK chKe k (x + d) i' o' n = y ∧ uK chKe k (x + d) i' o' n = z := by
  by_cases h0 : wK k = 0
  · have hd0 : d = 0 := by rw [hd, h0, Int.zero_mul]
    subst hd0
    rw [Int.add_zero]
    refine ⟨y, z, ?_, ?_, ?_, hm, hm, ?_, ?_, ?_, ?_, ?_, ?_, ?_, ?_⟩ <;> (first | unfold eK | unfold hK | unfold iK | unfold uK) <;> rw [if_pos h0]
  · have hs : wK k * n = Pot.sg (oK k) (-1) 1 * n := by
      have : k = 1 ∨ k = 2 ∨ k = 3 ∨ k = 4 := by omega
      rcases this with rfl | rfl | rfl | rfl
      · exact absurd rfl h0
      · exact absurd rfl h0
      · rfl
      · rfl
    have he' : chDo.e (oK k) x y z n = 0 := by unfold eK at he; rwa [if_neg h0] at he
    have := ch_done (oK k) x y z n he' d (hd.trans hs)
    unfold eK hK iK uK
    simpa only [if_neg h0] using this
theorem done_parts {s : ByteArray} {a b c x y z k n : Int} {t : ByteArray} (h : mvE chDo s a b c x y z k t n = 0) :
    t = s ∧ accB s a b c x y z = true ∧ actB k t n = true ∧ chDo.e (oF k) a b c n = 0 ∧ eK chDo k x y z n = 0 := by
  rcases fit_cases s a b c x y z k t n with ⟨h0, h1, h2, h3⟩ | h2
  · unfold mvE at h
    rw [if_pos h0] at h
    by_cases he : chDo.e (oF k) a b c n = 0
    · rw [if_pos he] at h
      exact ⟨h3, h1, h2, he, h⟩
    · rw [if_neg he] at h
      exact absurd h he
  · unfold mvE at h
    rcases h2 with h2 | h2 <;> rw [h2, if_neg (by decide)] at h <;> exact absurd h (by decide)
theorem fit_yes {s : ByteArray} {a b c x y z k n : Int} (h1 : accB s a b c x y z = true) (h2 : actB k s n = true) : fitE s a b c x y z k s n = 0 := by
  unfold fitE
  rw [if_pos h1, if_pos]
  rw [Bool.and_eq_true]
  exact ⟨h2, decide_eq_true rfl⟩
theorem mv_yes {C : Ch} {s : ByteArray} {a b c x y z k n : Int} (h1 : accB s a b c x y z = true) (h2 : actB k s n = true) (h3 : C.e (oF k) a b c n = 0) (h4 : eK C k x y z n = 0) : mvE C s a b c x y z k s n = 0 := by
  unfold mvE; rw [if_pos (fit_yes h1 h2), if_pos h3, h4]
theorem undone {s : ByteArray} {a b c x y z k n : Int} {t : ByteArray} (h : mvE chDo s a b c x y z k t n = 0) :
    t = s ∧ accB s a b c x y z = true ∧ actB k t n = true ∧ ∃ b' c' y' z',
      (chDo.h (oF k) a b c n = a + dF k t n ∧ chDo.i (oF k) a b c n = b' ∧ chDo.o (oF k) a b c n = c' ∧ hK chDo k x y z n = x + dK k t n ∧ iK chDo k x y z n = y' ∧ uK chDo k x y z n = z') ∧
      accB s (a + dF k t n) b' c' (x + dK k t n) y' z' = true ∧ accB s (a + dF k t n) b c (x + dK k t n) y z = true ∧
      (mvE chUn s (a + dF k t n) b' c' (x + dK k t n) y' z' k t n = 0 ∧ chUn.h (oF k) (a + dF k t n) b' c' n = a ∧ chUn.i (oF k) (a + dF k t n) b' c' n = b ∧ chUn.o (oF k) (a + dF k t n) b' c' n = c ∧ hK chUn k (x + dK k t n) y' z' n = x ∧ iK chUn k (x + dK k t n) y' z' n = y ∧ uK chUn k (x + dK k t n) y' z' n = z) ∧
      (mvE chKe s (a + dF k t n) b' c' (x + dK k t n) y' z' k t n = 0 ∧ chKe.h (oF k) (a + dF k t n) b' c' n = a + dF k t n ∧ chKe.i (oF k) (a + dF k t n) b' c' n = b ∧ chKe.o (oF k) (a + dF k t n) b' c' n = c ∧ hK chKe k (x + dK k t n) y' z' n = x + dK k t n ∧ iK chKe k (x + dK k t n) y' z' n = y ∧ uK chKe k (x + dK k t n) y' z' n = z) := by
  obtain ⟨rfl, h1, h2, h3, h4⟩ := done_parts h
  obtain ⟨hn, hf, hk⟩ := (acc_iff t a b c x y z).1 h1
  obtain ⟨hkk, _, _⟩ := (act_iff k t n).1 h2
  have eF : dF k t n = Pot.sg (oF k) (-1) 1 * n := by
    unfold dF; rw [if_pos h2]
    have : k = 1 ∨ k = 2 ∨ k = 3 ∨ k = 4 := by omega
    rcases this with rfl | rfl | rfl | rfl <;> rfl
  have eKd : dK k t n = wK k * n := by unfold dK; rw [if_pos h2]
  obtain ⟨b', c', f1, f2, f3, f4, f5, f6, f7, f8, f9, g1, g2, g3, g4⟩ := ch_done (oF k) a b c n h3 (dF k t n) eF
  obtain ⟨y', z', p1, p2, p3, p4, p5, p6, p7, p8, p9, q1, q2, q3, q4⟩ := kept_done k x y z n hk h4 hkk (dK k t n) eKd
  have A1 : accB t (a + dF k t n) b' c' (x + dK k t n) y' z' = true := (acc_iff _ _ _ _ _ _ _).2 ⟨hn, f4, p4⟩
  have A2 : accB t (a + dF k t n) b c (x + dK k t n) y z = true := (acc_iff _ _ _ _ _ _ _).2 ⟨hn, f5, p5⟩
  exact ⟨rfl, h1, h2, b', c', y', z', ⟨f1, f2, f3, p1, p2, p3⟩, A1, A2, ⟨mv_yes A1 h2 f6 p6, f7, f8, f9, p7, p8, p9⟩, ⟨mv_yes A1 h2 g1 q1, g2, g3, g4, q2, q3, q4⟩⟩
theorem acc_rng {s : ByteArray} {a b c x y z : Int} (h : accB s a b c x y z = true) : (0 ≤ a ∧ a ≤ 1000000000000000) ∧ (0 ≤ b ∧ b ≤ 1000000000000000) ∧ (0 ≤ c ∧ c ≤ 1000000000000000) ∧ (0 ≤ x ∧ x ≤ 1000000000000000) ∧ (0 ≤ y ∧ y ≤ 1000000000000000) ∧ (0 ≤ z ∧ z ≤ 1000000000000000) := by
  obtain ⟨_, h1, h2⟩ := (acc_iff s a b c x y z).1 h
  have := (Pot.may_iff a b c).1 h1
  have := (Pot.may_iff x y z).1 h2
  omega
end Go.Proofs.Ytgidkmipecfjhaa.Act
namespace Go.Proofs.Ytgidkmipecfjhaa.Led
def lt (x y : ByteArray) : Bool := Op.bytesLess x.toList y.toList
theorem bl_irrefl : ∀ l : List UInt8, Op.bytesLess l l = false
  | [] => rfl
  | a :: x => by simp [Op.bytesLess, bl_irrefl x]
theorem bl_trans : ∀ x y z : List UInt8, Op.bytesLess x y = true → Op.bytesLess y z = true → Op.bytesLess x z = true
  | x, [], _, h, _ => by cases x <;> simp [Op.bytesLess] at h
  | _, b :: y, [], _, h => by simp [Op.bytesLess] at h
  | [], _ :: _, _ :: _, _, _ => rfl
  | a :: x, b :: y, c :: z, h1, h2 => by
    simp only [Op.bytesLess, Bool.or_eq_true, Bool.and_eq_true, decide_eq_true_eq, beq_iff_eq] at h1 h2 ⊢
    rcases h1 with h1 | ⟨rfl, h1⟩
    · rcases h2 with h2 | ⟨rfl, h2⟩
      · exact Or.inl (UInt8.lt_trans h1 h2)
      · exact Or.inl h1
    · rcases h2 with h2 | ⟨rfl, h2⟩
      · exact Or.inl h2
      · exact Or.inr ⟨rfl, bl_trans x y z h1 h2⟩
theorem bl_tri : ∀ x y : List UInt8, Op.bytesLess x y = false → Op.bytesLess y x = false → x = y
  | [], [], _, _ => rfl
  | [], _ :: _, h, _ => by simp [Op.bytesLess] at h
  | _ :: _, [], _, h => by simp [Op.bytesLess] at h
  | a :: x, b :: y, h1, h2 => by
    simp only [Op.bytesLess, Bool.or_eq_false_iff, Bool.and_eq_false_iff, decide_eq_false_iff_not] at h1 h2
    have e : a = b := UInt8.le_antisymm (UInt8.not_lt.1 h2.1) (UInt8.not_lt.1 h1.1)
    subst e
    rw [bl_tri x y (by simpa using h1.2) (by simpa using h2.2)]
theorem cmp_sign : ∀ x y : List UInt8, (Lib.compareBytes x y < 0 ↔ Op.bytesLess x y = true) ∧ (Lib.compareBytes x y = 0 ↔ x = y)
  | [], [] => by simp [Lib.compareBytes, Op.bytesLess]
  | [], _ :: _ => by simp [Lib.compareBytes, Op.bytesLess]
  | _ :: _, [] => by simp [Lib.compareBytes, Op.bytesLess]
  | a :: x, b :: y => by
    obtain ⟨h1, h2⟩ := cmp_sign x y
    unfold Lib.compareBytes Op.bytesLess
    by_cases hab : a < b
    · rw [if_pos hab]
      refine ⟨by simp [hab], ?_⟩
      simp
      intro e; subst e; exact absurd hab (UInt8.lt_irrefl a)
    · rw [if_neg hab]
      by_cases hba : b < a
      · rw [if_pos hba]
        have : ¬ a = b := fun e => by subst e; exact hab hba
        simp [hab, this]
      · rw [if_neg hba]
        have e : a = b := UInt8.le_antisymm (UInt8.not_lt.1 hba) (UInt8.not_lt.1 hab)
        subst e
        simp [h1, h2, hab]
theorem toL (x : ByteArray) : x.toList = x.data.toList := ByteArray.toList_eq x
theorem lt_irrefl (x : ByteArray) : lt x x = false := bl_irrefl _
theorem lt_trans {x y z : ByteArray} (h : lt x y = true) (k : lt y z = true) : lt x z = true := bl_trans _ _ _ h k
theorem toL_inj {x y : ByteArray} (h : x.toList = y.toList) : x = y := by
  rw [toL, toL] at h
  cases x; cases y
  simp at h
  rw [h]
theorem lt_tri {x y : ByteArray} (h : lt x y = false) (k : lt y x = false) : x = y := toL_inj (bl_tri _ _ h k)
theorem lt_asymm {x y : ByteArray} (h : lt x y = true) : lt y x = false := by
  cases k : lt y x with
  | false => rfl
  | true => have := lt_trans h k; rw [lt_irrefl] at this; cases this
theorem lt_ne {x y : ByteArray} (h : lt x y = true) : x ≠ y := fun e => by rw [e, lt_irrefl] at h; cases h
theorem ge_trans {x y z : ByteArray} (h : lt x z = false) (k : lt x y = true) : lt y z = false := by
  cases e : lt y z with
  | false => rfl
  | true => rw [lt_trans k e] at h; cases h
def cmpE (x y : ByteArray) : Int := Lib.compareBytes x.data.toList y.data.toList
theorem cmp_neg (x y : ByteArray) : cmpE x y < 0 ↔ lt x y = true := by unfold cmpE lt; rw [toL, toL]; exact (cmp_sign _ _).1
theorem cmp_zero (x y : ByteArray) : cmpE x y = 0 ↔ x = y := by
  unfold cmpE
  rw [(cmp_sign _ _).2]
  constructor
  · intro h; exact toL_inj (by rw [toL, toL]; exact h)
  · intro h; rw [h]
def upB : List ByteArray → Bool
  | [] => true
  | [_] => true
  | x :: y :: t => lt x y && upB (y :: t)
theorem up_iff : ∀ L : List ByteArray, upB L = true ↔ ∀ j (h : j + 1 < L.length), lt L[j] L[j + 1] = true
  | [] => by simp [upB]
  | [_] => by simp [upB]
  | x :: y :: t => by
    rw [upB, Bool.and_eq_true, up_iff (y :: t)]
    constructor
    · rintro ⟨h1, h2⟩ j hj
      cases j with
      | zero => exact h1
      | succ j => exact h2 j (by simpa using hj)
    · intro h
      exact ⟨h 0 (by simp), fun j hj => h (j + 1) (by simpa using hj)⟩
theorem up_lt {L : List ByteArray} (h : upB L = true) : ∀ i j (hi : i < j) (hj : j < L.length), lt L[i] L[j] = true := by
  rw [up_iff] at h
  intro i j hij
  induction j with
  | zero => omega
  | succ j ih =>
    intro hj
    by_cases e : i = j
    · subst e; exact h i hj
    · exact lt_trans (ih (by omega) (by omega)) (h j hj)
def hasB (L : List ByteArray) (s : ByteArray) : Bool := L.any (fun x => decide (x = s))
theorem has_iff (L : List ByteArray) (s : ByteArray) : hasB L s = true ↔ s ∈ L := by
  unfold hasB; rw [List.any_eq_true]
  constructor
  · rintro ⟨x, hx, e⟩; rw [decide_eq_true_eq] at e; rw [← e]; exact hx
  · intro h; exact ⟨s, h, decide_eq_true rfl⟩
def pos (L : List ByteArray) (s : ByteArray) : Nat := (L.takeWhile (fun x => lt x s)).length
theorem pos_le (L : List ByteArray) (s : ByteArray) : pos L s ≤ L.length := by
  unfold pos; exact (List.takeWhile_sublist _).length_le
theorem pos_iff : ∀ (L : List ByteArray) (s : ByteArray), upB L = true → ∀ j (h : j < L.length), (lt L[j] s = true ↔ j < pos L s)
  | [], _, _, j, h => by simp at h
  | x :: t, s, hu, j, h => by
    have hut : upB t = true := by
      cases t with
      | nil => rfl
      | cons y t => rw [upB, Bool.and_eq_true] at hu; exact hu.2
    cases hx : lt x s with
    | true =>
      have hp : pos (x :: t) s = pos t s + 1 := by unfold pos; rw [List.takeWhile_cons, hx]; simp
      rw [hp]
      cases j with
      | zero => simp [hx]
      | succ j => rw [List.getElem_cons_succ, pos_iff t s hut j (by simpa using h)]; omega
    | false =>
      have hp : pos (x :: t) s = 0 := by unfold pos; rw [List.takeWhile_cons, hx]; simp
      rw [hp]
      have : lt (x :: t)[j] s = false := by
        cases j with
        | zero => exact hx
        | succ j => exact ge_trans hx (up_lt hu 0 (j + 1) (by omega) h)
      simp [this]
theorem pos_eq {L : List ByteArray} {s : ByteArray} (hu : upB L = true) (j : Nat) (h : j < L.length) (e : L[j] = s) : pos L s = j := by
  have h1 : ¬ j < pos L s := by rw [← pos_iff L s hu j h, e, lt_irrefl]; simp
  by_cases h2 : pos L s < j
  · have := (pos_iff L s hu (pos L s) (by omega))
    have h3 := up_lt hu _ _ h2 h
    rw [e] at h3
    rw [h3] at this; simp at this
  · omega
theorem pos_mem {L : List ByteArray} {s : ByteArray} (hu : upB L = true) (hm : s ∈ L) : ∃ h : pos L s < L.length, L[pos L s] = s := by
  obtain ⟨j, hj, e⟩ := List.getElem_of_mem hm
  have := pos_eq hu j hj e
  exact ⟨by omega, by simp only [this, e]⟩
theorem pos_gt {L : List ByteArray} {s : ByteArray} (hu : upB L = true) (hm : s ∉ L) : ∀ j (h : j < L.length), pos L s ≤ j → lt s L[j] = true := by
  intro j h hj
  have h1 : lt L[j] s = false := by
    cases e : lt L[j] s with
    | false => rfl
    | true => have := (pos_iff L s hu j h).1 e; omega
  cases e : lt s L[j] with
  | true => rfl
  | false => exact absurd (List.getElem_mem h) (by rw [lt_tri h1 e]; exact hm)
theorem up_one {L : List ByteArray} (hu : upB L = true) {i j : Nat} (hi : i < L.length) (hj : j < L.length) (e : L[i] = L[j]) : i = j := by
  rw [← pos_eq hu i hi e, pos_eq hu j hj rfl]
theorem up_ins {L : List ByteArray} {s : ByteArray} (hu : upB L = true) (hm : s ∉ L) : upB (L.take (pos L s) ++ s :: L.drop (pos L s)) = true := by
  have hp := pos_le L s
  rw [up_iff]
  intro j hj
  have hlen : (L.take (pos L s)).length = pos L s := by rw [List.length_take]; omega
  rw [List.length_append, List.length_cons, List.length_drop, hlen] at hj
  by_cases h1 : j + 1 < pos L s
  · rw [List.getElem_append_left (by omega), List.getElem_append_left (by omega), List.getElem_take, List.getElem_take]
    exact up_lt hu _ _ (by omega) _
  · by_cases h2 : j + 1 = pos L s
    · rw [List.getElem_append_left (by omega), List.getElem_append_right (by omega), List.getElem_take]
      simp only [hlen, h2, Nat.sub_self, List.getElem_cons_zero]
      exact (pos_iff L s hu j (by omega)).2 (by omega)
    · rw [List.getElem_append_right (by omega), List.getElem_append_right (by omega)]
      simp only [hlen]
      have e1 : j + 1 - pos L s = (j - pos L s) + 1 := by omega
      simp only [e1, List.getElem_cons_succ, List.getElem_drop]
      by_cases h3 : j = pos L s
      · simp only [h3, Nat.sub_self, List.getElem_cons_zero]
        exact pos_gt hu hm _ _ (by omega)
      · have e2 : j - pos L s = (j - pos L s - 1) + 1 := by omega
        rw [List.getElem_cons, dif_neg (by omega), List.getElem_drop]
        exact up_lt hu _ _ (by omega) _
structure Acc where
  s : ByteArray
  a : Int
  b : Int
  c : Int
  x : Int
  y : Int
  z : Int
structure Mk where
  key : ByteArray
  k : Int
  t : ByteArray
  n : Int
  st : Int
def nm (A : List Acc) : List ByteArray := A.map Acc.s
def ky (M : List Mk) : List ByteArray := M.map Mk.key
theorem nm_len (A : List Acc) : (nm A).length = A.length := by simp [nm]
theorem ky_len (M : List Mk) : (ky M).length = M.length := by simp [ky]
theorem nm_get (A : List Acc) (j : Nat) (h : j < A.length) : (nm A)[j]'(by rw [nm_len]; exact h) = A[j].s := by simp [nm]
theorem ky_get (M : List Mk) (j : Nat) (h : j < M.length) : (ky M)[j]'(by rw [ky_len]; exact h) = M[j].key := by simp [ky]
def accOk (x : Acc) : Bool := Act.accB x.s x.a x.b x.c x.x x.y x.z
def accsB (A : List Acc) : Bool := decide (A.length ≤ 12) && A.all accOk && upB (nm A)
def keyB (s : ByteArray) : Bool := decide (0 < s.size) && decide (s.size ≤ 100)
def mkOk (A : List Acc) (m : Mk) : Bool := keyB m.key && Act.actB m.k m.t m.n && hasB (nm A) m.t && (decide (1 ≤ m.st) && decide (m.st ≤ 3))
def mksB (A : List Acc) (M : List Mk) : Bool := decide (M.length ≤ 500) && M.all (mkOk A) && upB (ky M)
def amF (m : Mk) : Int := Act.dF m.k m.t m.n
def amK (m : Mk) : Int := Act.dK m.k m.t m.n
def sm (g : Mk → Int) : List Mk → Int
  | [] => 0
  | m :: t => g m + sm g t
theorem sm_app (g : Mk → Int) (L M : List Mk) : sm g (L ++ M) = sm g L + sm g M := by
  induction L with
  | nil => simp [sm]
  | cons m t ih => simp only [List.cons_append, sm, ih]; omega
theorem sm_take (g : Mk → Int) (M : List Mk) (k : Nat) (h : k < M.length) : sm g (M.take (k + 1)) = sm g (M.take k) + g M[k] := by
  rw [List.take_succ_eq_append_getElem h, sm_app]; simp [sm]
theorem sm_zero {g : Mk → Int} {M : List Mk} (h : ∀ m ∈ M, g m = 0) : sm g M = 0 := by
  induction M with
  | nil => rfl
  | cons m t ih => simp only [sm]; rw [h m (by simp), ih (fun x hx => h x (by simp [hx]))]; rfl
theorem sm_nonneg {g : Mk → Int} {M : List Mk} (h : ∀ m ∈ M, 0 ≤ g m) : 0 ≤ sm g M := by
  induction M with
  | nil => exact Int.le_refl 0
  | cons m t ih =>
    simp only [sm]
    have := h m (by simp)
    have := ih (fun x hx => h x (by simp [hx]))
    omega
theorem sm_bound {g : Mk → Int} {M : List Mk} (B : Int) (h : ∀ m ∈ M, -B ≤ g m ∧ g m ≤ B) : -(B * M.length) ≤ sm g M ∧ sm g M ≤ B * M.length := by
  induction M with
  | nil => simp [sm]
  | cons m t ih =>
    simp only [sm]
    have h1 := h m (by simp)
    have h2 := ih (fun x hx => h x (by simp [hx]))
    rw [List.length_cons, Int.natCast_add, Int.mul_add]
    simp only [Int.natCast_one, Int.mul_one]
    omega
theorem sm_mem {g : Mk → Int} {M : List Mk} (h : ∀ m ∈ M, 0 ≤ g m) {m : Mk} (hm : m ∈ M) : g m ≤ sm g M := by
  induction M with
  | nil => cases hm
  | cons x t ih =>
    simp only [sm]
    have h0 := h x (by simp)
    have h1 := sm_nonneg (g := g) (M := t) (fun y hy => h y (by simp [hy]))
    rcases List.mem_cons.1 hm with rfl | hm
    · omega
    · have := ih (fun y hy => h y (by simp [hy])) hm
      omega
theorem sm_set (g : Mk → Int) (M : List Mk) (p : Nat) (h : p < M.length) (m : Mk) : sm g (M.set p m) = sm g M - g M[p] + g m := by
  induction M generalizing p with
  | nil => simp at h
  | cons x t ih =>
    cases p with
    | zero => simp [sm]; omega
    | succ p =>
      have := ih p (by simpa using h)
      simp only [List.set_cons_succ, sm, List.getElem_cons_succ]
      omega
theorem sm_ins (g : Mk → Int) (M : List Mk) (p : Nat) (m : Mk) : sm g (M.take p ++ m :: M.drop p) = sm g M + g m := by
  have h := sm_app g (M.take p) (M.drop p)
  rw [List.take_append_drop] at h
  rw [sm_app]; simp only [sm]; omega
def hit (s : ByteArray) (m : Mk) : Bool := decide (m.t = s) && decide (m.st = 1)
def gFI (s : ByteArray) (m : Mk) : Int := if hit s m = true then max (amF m) 0 else 0
def gFO (s : ByteArray) (m : Mk) : Int := if hit s m = true then max (-amF m) 0 else 0
def gKI (s : ByteArray) (m : Mk) : Int := if hit s m = true then max (amK m) 0 else 0
def gKO (s : ByteArray) (m : Mk) : Int := if hit s m = true then max (-amK m) 0 else 0
def potsB (M : List Mk) (x : Acc) : Bool := decide (x.b = sm (gFI x.s) M) && decide (x.c = sm (gFO x.s) M) && decide (x.y = sm (gKI x.s) M) && decide (x.z = sm (gKO x.s) M)
def mayB (A : List Acc) (M : List Mk) : Bool := accsB A && mksB A M && A.all (potsB M)
structure May (A : List Acc) (M : List Mk) : Prop where
  la : A.length ≤ 12
  oa : ∀ x ∈ A, accOk x = true
  ua : upB (nm A) = true
  lm : M.length ≤ 500
  om : ∀ m ∈ M, mkOk A m = true
  um : upB (ky M) = true
  po : ∀ x ∈ A, potsB M x = true
theorem accs_iff (A : List Acc) : accsB A = true ↔ A.length ≤ 12 ∧ (∀ x ∈ A, accOk x = true) ∧ upB (nm A) = true := by
  unfold accsB; rw [Bool.and_eq_true, Bool.and_eq_true, decide_eq_true_eq, List.all_eq_true]
  constructor
  · rintro ⟨⟨h1, h2⟩, h3⟩; exact ⟨h1, h2, h3⟩
  · rintro ⟨h1, h2, h3⟩; exact ⟨⟨h1, h2⟩, h3⟩
theorem mks_iff (A : List Acc) (M : List Mk) : mksB A M = true ↔ M.length ≤ 500 ∧ (∀ m ∈ M, mkOk A m = true) ∧ upB (ky M) = true := by
  unfold mksB; rw [Bool.and_eq_true, Bool.and_eq_true, decide_eq_true_eq, List.all_eq_true]
  constructor
  · rintro ⟨⟨h1, h2⟩, h3⟩; exact ⟨h1, h2, h3⟩
  · rintro ⟨h1, h2, h3⟩; exact ⟨⟨h1, h2⟩, h3⟩
theorem may_iff (A : List Acc) (M : List Mk) : mayB A M = true ↔ May A M := by
  unfold mayB; rw [Bool.and_eq_true, Bool.and_eq_true, accs_iff, mks_iff, List.all_eq_true]
  constructor
  · rintro ⟨⟨⟨h1, h2, h3⟩, h4, h5, h6⟩, h7⟩; exact ⟨h1, h2, h3, h4, h5, h6, h7⟩
  · rintro ⟨h1, h2, h3, h4, h5, h6, h7⟩; exact ⟨⟨⟨h1, h2, h3⟩, h4, h5, h6⟩, h7⟩
theorem mk_iff (A : List Acc) (m : Mk) : mkOk A m = true ↔ (0 < m.key.size ∧ m.key.size ≤ 100) ∧ Act.actB m.k m.t m.n = true ∧ m.t ∈ nm A ∧ 1 ≤ m.st ∧ m.st ≤ 3 := by
  unfold mkOk keyB
  simp only [Bool.and_eq_true, decide_eq_true_eq, has_iff]
  constructor
  · rintro ⟨⟨⟨h1, h2⟩, h3⟩, h4, h5⟩; exact ⟨h1, h2, h3, h4, h5⟩
  · rintro ⟨h1, h2, h3, h4, h5⟩; exact ⟨⟨⟨h1, h2⟩, h3⟩, h4, h5⟩
theorem pots_iff (M : List Mk) (x : Acc) : potsB M x = true ↔ x.b = sm (gFI x.s) M ∧ x.c = sm (gFO x.s) M ∧ x.y = sm (gKI x.s) M ∧ x.z = sm (gKO x.s) M := by
  unfold potsB
  simp only [Bool.and_eq_true, decide_eq_true_eq]
  constructor
  · rintro ⟨⟨⟨h1, h2⟩, h3⟩, h4⟩; exact ⟨h1, h2, h3, h4⟩
  · rintro ⟨h1, h2, h3, h4⟩; exact ⟨⟨⟨h1, h2⟩, h3⟩, h4⟩
theorem am_rng {m : Mk} (h : Act.actB m.k m.t m.n = true) : (-1000000000000000 ≤ amF m ∧ amF m ≤ 1000000000000000) ∧ (-1000000000000000 ≤ amK m ∧ amK m ≤ 1000000000000000) := by
  obtain ⟨_, _, h1, h2⟩ := (Act.act_iff _ _ _).1 h
  unfold amF amK Act.dF Act.dK
  rw [if_pos h, if_pos h]
  obtain ⟨u1, u2⟩ := Act.way_unit m.k
  refine ⟨?_, ?_⟩
  · rcases u1 with e | e | e <;> rw [e] <;> omega
  · rcases u2 with e | e | e <;> rw [e] <;> omega
end Go.Proofs.Ytgidkmipecfjhaa.Led
namespace Pk
def takeF : Nat → Nat → Nat → List UInt8 → Nat × Nat × Nat
  | 0, _, _, _ => (0, 0, 11)
  | _ + 1, _, _, [] => (0, 0, 10)
  | f + 1, i, a, b :: r =>
    if 128 ≤ b.toNat then takeF f (i + 1) (a + b.toNat % 128 * 128 ^ i) r
    else if (i = 9 ∧ 1 < b.toNat) ∨ (i ≠ 0 ∧ b.toNat = 0) then (0, 0, 11)
    else (a + b.toNat * 128 ^ i, i + 1, 0)
def take (l : List UInt8) : Nat × Nat × Nat := takeF 10 0 0 l
end Pk
namespace Go.Proofs.Ytgidkmipecfjhaa
open Go.RowKit
structure Gr (w w' : World) : Prop where
  below : Below w.heap.size w w'
theorem Gr.refl (w : World) : Gr w w := ⟨Below.refl _ _⟩
theorem Gr.trans {a b c : World} (h : Gr a b) (k : Gr b c) : Gr a c := ⟨h.below.trans (k.below.mono h.below.size)⟩
theorem Gr.alloc {a b : World} (h : Gr a b) {o : Obj} : Gr a (b.alloc o) := ⟨h.below.alloc h.below.size _⟩
theorem Gr.drew {a b : World} (h : Gr a b) : Gr a b.drew := ⟨h.below.drew⟩
theorem Gr.size {a b : World} (h : Gr a b) : a.heap.size ≤ b.heap.size := h.below.size
theorem Gr.cells {W w1 : World} (h : Gr W w1) : (∀ b o, b < W.heap.size → w1.cell? ⟨b, o, none⟩ = W.cell? ⟨b, o, none⟩) ∧ (∀ b o, b < W.heap.size → w1.frozen? ⟨b, o, none⟩ = W.frozen? ⟨b, o, none⟩) :=
  ⟨fun b o hb => h.below.cell (p := ⟨b, o, none⟩) hb, fun b o hb => h.below.frozen (p := ⟨b, o, none⟩) hb⟩
theorem w8 (n : Int) (h0 : 0 ≤ n) (h1 : n < 256) : IntKind.u8.wrap n = n := by rw [IntKind.wrap_u8]; omega
end Go.Proofs.Ytgidkmipecfjhaa
namespace Go.Proofs.Ytgidkmipecfjhaa
open Go.RowKit
theorem Gr.grownBy {w w' : World} (h : Gr w w') : w.grownBy w' none := ⟨h.below.os, h.below.tape, h.below.output, h.below.size, fun k hk _ => h.below.block k hk⟩
theorem Gr.keep {W w1 : World} (g : Gr W w1) {p : Addr} {v : Value} (h : W.cell? p = some v) : w1.cell? p = some v :=
  (g.below.cell (World.block_lt_of_cell? W p h)).trans h
def IntsAt (w : World) (ad : Option Addr) (l : List Int) : Prop :=
  ∀ j (h : j < l.length), ∃ b off, ad = some ⟨b, off, none⟩ ∧ b < w.heap.size ∧ w.cell? ⟨b, off + j, none⟩ = some (.int .i64 l[j])
theorem IntsAt.gr {w w' : World} {ad : Option Addr} {l : List Int} (h : IntsAt w ad l) (g : Gr w w') : IntsAt w' ad l := by
  intro j hj
  obtain ⟨b, off, e, hb, hc⟩ := h j hj
  exact ⟨b, off, e, Nat.lt_of_lt_of_le hb g.size, g.keep hc⟩
theorem IntsAt.take {w : World} {ad : Option Addr} {l : List Int} (h : IntsAt w ad l) (k : Nat) : IntsAt w ad (l.take k) := by
  intro j hj
  have hj' : j < l.length := by rw [List.length_take] at hj; omega
  obtain ⟨b, off, e, hb, hc⟩ := h j hj'
  exact ⟨b, off, e, hb, by rw [List.getElem_take]; exact hc⟩
theorem IntsAt.drop {w : World} {b off : Nat} {l : List Int} (h : IntsAt w (some ⟨b, off, none⟩) l) (k : Nat) : IntsAt w (some ⟨b, off + k, none⟩) (l.drop k) := by
  intro j hj
  rw [List.length_drop] at hj
  obtain ⟨b', off', e, hb, hc⟩ := h (k + j) (by omega)
  cases e
  exact ⟨b, off + k, rfl, hb, by rw [List.getElem_drop, Nat.add_assoc]; exact hc⟩
theorem IntsAt.nil {w : World} {ad : Option Addr} : IntsAt w ad [] := fun j h => absurd h (by simp)
theorem own_or (v : Value) : v.ownBlock = none ∨ v.ownBlock ≠ none := by
  cases v.ownBlock with
  | none => exact Or.inl rfl
  | some q => exact Or.inr (by simp)
end Go.Proofs.Ytgidkmipecfjhaa
namespace Go.Proofs.Ytgidkmipecfjhaa
open Go.RowKit
theorem Gr.set {a b : World} (h : Gr a b) (p : Addr) (hp : a.heap.size ≤ p.block) (v : Value) : Gr a (b.setCell p v) := ⟨h.below.setCell hp v⟩
theorem Gr.keepF {W w1 : World} (g : Gr W w1) {p : Addr} (hb : p.block < W.heap.size) (h : W.frozen? p = false) : w1.frozen? p = false := (g.below.frozen hb).trans h
structure BoxAt (w : World) (g : Nat) (a b c : Value) : Prop where
  c0 : w.cell? ⟨g, 0, none⟩ = some a
  c1 : w.cell? ⟨g, 1, none⟩ = some b
  c2 : w.cell? ⟨g, 2, none⟩ = some c
  f0 : w.frozen? ⟨g, 0, none⟩ = false
  f1 : w.frozen? ⟨g, 1, none⟩ = false
  f2 : w.frozen? ⟨g, 2, none⟩ = false
  lt : g < w.heap.size
theorem BoxAt.gr {w w' : World} {g : Nat} {a b c : Value} (h : BoxAt w g a b c) (k : Gr w w') : BoxAt w' g a b c :=
  ⟨k.keep h.c0, k.keep h.c1, k.keep h.c2, k.keepF h.lt h.f0, k.keepF h.lt h.f1, k.keepF h.lt h.f2, Nat.lt_of_lt_of_le h.lt k.size⟩
theorem BoxAt.new (w : World) (a b c : Value) (t : TypeId) (g : Nat) (hg : g = w.heap.size) : BoxAt (w.alloc (.cells #[a, b, c] t)) g a b c := by
  subst hg
  exact ⟨by simp, by simp, by simp, by simp [go_sem], by simp [go_sem], by simp [go_sem], by simp⟩
theorem BoxAt.set3 {w : World} {g : Nat} {a b c : Value} (h : BoxAt w g a b c) (x y z : Value) :
    BoxAt (((w.setCell ⟨g, 0, none⟩ x).setCell ⟨g, 1, none⟩ y).setCell ⟨g, 2, none⟩ z) g x y z := by
  obtain ⟨h0, h1, h2, f0, f1, f2, hl⟩ := h
  exact ⟨by simp [go_sem, *], by simp [go_sem, *], by simp [go_sem, *], by simp [go_sem, *], by simp [go_sem, *], by simp [go_sem, *], by simpa using hl⟩
def RoomAt (w : World) (g : Nat) : Prop := ∃ a b c, BoxAt w g a b c
theorem RoomAt.gr {w w' : World} {g : Nat} (h : RoomAt w g) (k : Gr w w') : RoomAt w' g := by
  obtain ⟨a, b, c, h⟩ := h
  exact ⟨a, b, c, h.gr k⟩
theorem RoomAt.drew {w : World} {g : Nat} (h : RoomAt w g) : RoomAt w.drew g := h.gr (Gr.refl _).drew
theorem RoomAt.new (w : World) (a b c : Value) (t : TypeId) (g : Nat) (hg : g = w.heap.size) : RoomAt (w.alloc (.cells #[a, b, c] t)) g := ⟨a, b, c, BoxAt.new w a b c t g hg⟩
theorem RoomAt.set3 {w : World} {g : Nat} (h : RoomAt w g) (x y z : Value) : RoomAt (((w.setCell ⟨g, 0, none⟩ x).setCell ⟨g, 1, none⟩ y).setCell ⟨g, 2, none⟩ z) g := by
  obtain ⟨a, b, c, h⟩ := h
  exact ⟨x, y, z, h.set3 x y z⟩
end Go.Proofs.Ytgidkmipecfjhaa
