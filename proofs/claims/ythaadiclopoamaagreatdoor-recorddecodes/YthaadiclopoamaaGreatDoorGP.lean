/- Parts of these proofs, laid together. -/
import Derived.Test.YthaadiclopoamaaGreatDoorGJ
import Derived.Test.YthaadiclopoamaaGreatDoorGO
import Derived.Test.YthaadiclopoamaaGreatDoorGM
import Derived.Test.YthaadiclopoamaaGreatDoorGB
import Derived.Test.YthaadiclopoamaaGreatDoorGN
/- More laws of the plain functions: what is taken, laid, is what it was taken from; the value of groups, the lowest first. -/
set_option maxRecDepth 100000
set_option maxHeartbeats 8000000
namespace Pk

theorem takeF_form1 (i a : Nat) (b : UInt8) (r : List UInt8) (v q g : Nat) (hb : b.toNat < 128)
  (h : (if (i = 9 /\ 1 < b.toNat) ∨ (i ≠ 0 /\ b.toNat = 0) then ((0, 0, 11) : Nat × Nat × Nat) else (a + b.toNat * 128 ^ i, i + 1, 0)) = (v, q, 0)) :
  ∃ x, v = a + x * 128 ^ i /\ i < q /\ (b :: r).take (q - i) = numF g x /\ (i ≠ 0 -> x ≠ 0) := by
 split at h
 ·simp at h
 ·rename_i hl
  simp only [Prod.mk.injEq, and_true] at h
  obtain ⟨rfl, rfl⟩ := h
  refine ⟨b.toNat, rfl, by omega, ?_, by omega⟩
  rw [numF_lt g _ hb, show i + 1 - i = 0 + 1 from by omega, List.take_succ_cons]
  simp
theorem takeF_form (f : Nat) : ∀ (i a : Nat) (l : List UInt8) (v q : Nat), takeF (f + 1) i a l = (v, q, 0) ->
  ∃ x, v = a + x * 128 ^ i /\ i < q /\ l.take (q - i) = numF f x /\ (i ≠ 0 -> x ≠ 0) := by
 induction f with
 | zero =>
  intro i a l v q h
  cases l with
  | nil => simp [takeF] at h
  | cons b r =>
   rw [takeF] at h
   split at h
   ·simp [takeF] at h
   ·exact takeF_form1 i a b r v q 0 (by omega) h
 | succ f ih =>
  intro i a l v q h
  cases l with
  | nil => simp [takeF] at h
  | cons b r =>
   rw [takeF] at h
   split at h
   ·rename_i hge
    obtain ⟨y, hv, hq, ht, hy⟩ := ih (i + 1) _ r v q h
    have hy0 := hy (by omega)
    have hb : b.toNat < 256 := b.toNat_lt
    refine ⟨b.toNat % 128 + 128 * y, ?_, by omega, ?_, by omega⟩
    ·rw [hv, Nat.pow_succ, Nat.add_mul, Nat.mul_comm (128 ^ i) 128, <- Nat.mul_assoc, Nat.mul_comm y 128]
     omega
    ·rw [numF_ge f _ (by omega)]
     have e1 : (b.toNat % 128 + 128 * y) % 128 + 128 = b.toNat := by omega
     have e2 : (b.toNat % 128 + 128 * y) / 128 = y := by omega
     have e3 : q - i = (q - (i + 1)) + 1 := by omega
     rw [e1, e2, e3, List.take_succ_cons, ht]
     simp
   ·exact takeF_form1 i a b r v q (f + 1) (by omega) h
theorem take_form (l : List UInt8) (v q : Nat) (h : take l = (v, q, 0)) : l.take q = num v := by
 obtain ⟨x, hv, _, ht, _⟩ := takeF_form 9 0 0 l v q h
 simp at hv ht
 rw [hv]; exact ht

def val : List UInt8 -> Nat
 | [] => 0
 | b :: r => b.toNat % 128 + 128 * val r
theorem val_snoc (l : List UInt8) (b : UInt8) : val (l ++ [b]) = val l + b.toNat % 128 * 128 ^ l.length := by
 induction l with
 | nil => simp [val]
 | cons c r ih =>
  simp only [List.cons_append, val, ih, List.length_cons, Nat.pow_succ, Nat.mul_add]
  have : 128 * (b.toNat % 128 * 128 ^ r.length) = b.toNat % 128 * (128 ^ r.length * 128) := by
   rw [Nat.mul_left_comm, Nat.mul_comm 128 (128 ^ r.length)]
  omega
theorem val_lt (l : List UInt8) : val l < 128 ^ l.length := by
 induction l with
 | nil => simp [val]
 | cons b r ih => simp only [val, List.length_cons, Nat.pow_succ]; omega
theorem val_drop (l : List UInt8) : ∀ j, 128 ^ j * val (l.drop j) <= val l := by
 induction l with
 | nil => intro j; simp [val]
 | cons b r ih =>
  intro j
  cases j with
  | zero => simp
  | succ j =>
   have := ih j
   simp only [List.drop_succ_cons, val, Nat.pow_succ]
   have e : 128 ^ j * 128 * val (r.drop j) = 128 * (128 ^ j * val (r.drop j)) := by rw [Nat.mul_comm (128 ^ j) 128, Nat.mul_assoc]
   omega

/- how the run of bytes that are 128 or more ends -/
theorem take_run (l : List UInt8) : ∀ j, j <= 10 -> (∀ i (h : i < l.length), i < j -> 128 <= l[i].toNat) -> j <= l.length ->
  take l = takeF (10 - j) j (val (l.take j)) (l.drop j) := by
 intro j
 induction j with
 | zero => intro _ _ _; simp [take, val]
 | succ j ih =>
  intro hj hall hl
  have hjl : j < l.length := by omega
  rw [ih (by omega) (fun i h hi => hall i h (by omega)) (by omega), List.drop_eq_getElem_cons hjl, show 10 - j = (10 - (j + 1)) + 1 from by omega, takeF, if_pos (hall j hjl (by omega)),
   List.take_succ_eq_append_getElem hjl, val_snoc, List.length_take, Nat.min_eq_left (by omega)]
theorem take_ten (l : List UInt8) (h : ∀ i (h : i < l.length), i < 10 -> 128 <= l[i].toNat) (hl : 10 <= l.length) : take l = (0, 0, 11) := by
 rw [take_run l 10 (by omega) h hl]; simp [takeF]
theorem take_short (l : List UInt8) (h : ∀ i (h : i < l.length), 128 <= l[i].toNat) (hl : l.length < 10) : take l = (0, 0, 10) := by
 rw [take_run l l.length (by omega) (fun i hi _ => h i hi) (by omega), List.drop_length]
 rw [show 10 - l.length = (9 - l.length) + 1 from by omega, takeF]
theorem take_end (l : List UInt8) (j : Nat) (hj : j < l.length) (hj9 : j <= 9) (h : ∀ i (h : i < l.length), i < j -> 128 <= l[i].toNat) (hb : l[j].toNat < 128) :
  take l = if (j = 9 /\ 1 < l[j].toNat) ∨ (j ≠ 0 /\ l[j].toNat = 0) then (0, 0, 11) else (val (l.take (j + 1)), j + 1, 0) := by
 rw [take_run l j (by omega) h (by omega), List.drop_eq_getElem_cons hj, show 10 - j = (9 - j) + 1 from by omega, takeF, if_neg (by omega),
  List.take_succ_eq_append_getElem hj, val_snoc, List.length_take, Nat.min_eq_left (by omega), Nat.mod_eq_of_lt hb]
theorem val_small (l : List UInt8) (j : Nat) (hj : j < l.length) (hj9 : j <= 9) (hb : l[j].toNat < 128) :
  val (l.take (j + 1)) < 18446744073709551616 ↔ ¬ (j = 9 /\ 1 < l[j].toNat) := by
 have hv := val_lt (l.take j)
 rw [List.length_take, Nat.min_eq_left (by omega)] at hv
 rw [List.take_succ_eq_append_getElem hj, val_snoc, List.length_take, Nat.min_eq_left (by omega), Nat.mod_eq_of_lt hb]
 by_cases h9 : j = 9
 ·subst h9
  simp only [true_and]
  constructor
  ·intro h1 h2
   have := Nat.mul_le_mul_right (128 ^ 9) (show 2 <= l[9].toNat by omega)
   omega
  ·intro h1
   have := Nat.mul_le_mul_right (128 ^ 9) (show l[9].toNat <= 1 by omega)
   omega
 ·simp only [h9, false_and, not_false_iff, iff_true]
  have h1 := Nat.mul_le_mul_right (128 ^ j) (show l[j].toNat <= 127 by omega)
  have h2 : 128 ^ (j + 1) <= 128 ^ 9 := Nat.pow_le_pow_right (by omega) (by omega)
  rw [Nat.pow_succ] at h2
  omega
theorem val_form (l : List UInt8) (j : Nat) (hj : j < l.length) (hj9 : j <= 9) (h : ∀ i (h : i < l.length), i < j -> 128 <= l[i].toNat) (hb : l[j].toNat < 128) (hv : ¬ (j = 9 /\ 1 < l[j].toNat)) :
  num (val (l.take (j + 1))) = l.take (j + 1) ↔ ¬ (j ≠ 0 /\ l[j].toNat = 0) := by
 have ht := take_end l j hj hj9 h hb
 constructor
 ·intro e hz
  rw [if_pos (Or.inr hz)] at ht
  have h1 := take_num (val (l.take (j + 1))) (l.drop (j + 1)) ((val_small l j hj hj9 hb).2 hv)
  rw [e, List.take_append_drop, ht] at h1
  simp at h1
 ·intro hz
  rw [if_neg (by omega)] at ht
  exact (take_form l _ _ ht).symm
end Pk
/- Taking a text, and texts. -/
set_option maxRecDepth 100000
set_option maxHeartbeats 8000000
namespace Pk
def takeText (s : List UInt8) (p : Int) : List UInt8 × Nat × Nat :=
 if (takeNum s p).2.2 ≠ 0 then ([], 0, (takeNum s p).2.2)
 else if s.length - (takeNum s p).2.1 < (takeNum s p).1 then ([], 0, 10)
 else ((s.drop (takeNum s p).2.1).take (takeNum s p).1, (takeNum s p).2.1 + (takeNum s p).1, 0)
end Pk
/- Lists of texts that are together small. -/
set_option maxRecDepth 100000
set_option maxHeartbeats 8000000
namespace Pk
end Pk
/- Taking texts, one behind the other. -/
set_option maxRecDepth 100000
set_option maxHeartbeats 8000000
namespace Pk
theorem takeText_spec (s : List UInt8) (p : Int) :
  ((takeText s p).2.2 = 0 /\ 0 <= p /\ p < (takeText s p).2.1 /\ (takeText s p).2.1 <= s.length /\ (takeText s p).1.length <= s.length) ∨
  ((takeText s p).1 = [] /\ (takeText s p).2.1 = 0 /\ ((takeText s p).2.2 = 2 ∨ (takeText s p).2.2 = 10 ∨ (takeText s p).2.2 = 11)) := by
 unfold takeText
 rcases takeNum_spec s p with ⟨h1, h2, h3, h4, h5⟩ | h | h | h
 ·rw [if_neg (by simp [h1])]
  by_cases hb : s.length - (takeNum s p).2.1 < (takeNum s p).1
  ·rw [if_pos hb]; right; simp
  ·rw [if_neg hb]
   left
   refine ⟨rfl, h3, ?_, ?_, ?_⟩
   ·show p < (((takeNum s p).2.1 + (takeNum s p).1 : Nat) : Int); omega
   ·show (takeNum s p).2.1 + (takeNum s p).1 <= s.length; omega
   ·show ((s.drop (takeNum s p).2.1).take (takeNum s p).1).length <= s.length
    rw [List.length_take, List.length_drop]; omega
 all_goals
  rw [if_pos (by rw [h]; simp)]
  right; rw [h]; simp
end Pk
/- What was laid is taken again, wherever it stands; what is taken, laid, is the bytes that it was taken from, and a beginning of these is not taken. -/
set_option maxRecDepth 100000
set_option maxHeartbeats 8000000
namespace Pk

theorem takeNum_at (A R : List UInt8) (n : Nat) (h : n < 18446744073709551616) : takeNum (A ++ (num n ++ R)) (A.length : Int) = (n, A.length + (num n).length, 0) := by
 unfold takeNum
 rw [if_pos ⟨by omega, by simp; omega⟩, Int.toNat_natCast, List.drop_left, take_num n R h]
 simp
theorem takeText_at (A R t : List UInt8) (h : t.length < 18446744073709551616) : takeText (A ++ (text t ++ R)) (A.length : Int) = (t, A.length + (text t).length, 0) := by
 have e : A ++ (text t ++ R) = A ++ (num t.length ++ (t ++ R)) := by simp [text]
 unfold takeText
 rw [e, takeNum_at A (t ++ R) t.length h]
 simp only [ne_eq, not_true_eq_false, if_false]
 rw [if_neg (by simp; omega)]
 have e2 : A ++ (num t.length ++ (t ++ R)) = (A ++ num t.length) ++ (t ++ R) := by simp
 rw [e2, show A.length + (num t.length).length = (A ++ num t.length).length by simp, List.drop_left]
 simp [text]; omega
theorem unsg_sgn (m : Int) : unsg (sgn m) = m := by
 unfold unsg sgn
 split <;> split <;> omega

/- a beginning of what is taken is not taken -/
/- what is taken, laid, is the bytes that it was taken from -/
end Pk
/- Plain mathematics of moves and records: which may be, their bytes, what is read of bytes. -/
set_option maxRecDepth 100000
set_option maxHeartbeats 8000000
namespace Go.Proofs.YthaadiclopoamaaGreatDoor
open Df (Stp defB)

/- a move: kind, the id's root, number and hops, step, reason, definition -/
structure Mv where
 k : Int
 r : Int
 n : Int
 L : List (Int × Int)
 s : Int
 y : Int
 d : ByteArray
 S : List Stp
/- a record: kind, move, name, amount, definition, text -/
structure Rc where
 k : Int
 m : Mv
 a : ByteArray
 v : Int
 d : ByteArray
 S : List Stp
 t : ByteArray
namespace Rc
def zM : Mv := ⟨0, 0, 0, [], 0, 0, ⟨#[]⟩, []⟩
def zR : Rc := ⟨0, zM, ⟨#[]⟩, 0, ⟨#[]⟩, [], ⟨#[]⟩⟩
def inB (n l h : Int) : Bool := decide (l <= n) && decide (n <= h)
def baB (d : ByteArray) (S : List Stp) : Bool := decide (d = ⟨#[]⟩) && decide (S.length = 0)
/- how many steps a kind has -/
def stK (k : Int) : Int := if k = 3 ∨ k = 4 ∨ k = 5 ∨ k = 6 ∨ k = 7 ∨ k = 11 ∨ k = 12 ∨ k = 15 then 8 else if k = 16 then 2 else 0
def wyK (k : Int) : Bool := decide (k = 2) || decide (k = 10)
def idB (c : Bool) (m : Mv) : Bool := Idn.mayB m.r m.n m.L && (!c || decide (0 < m.L.length))
def dfB (h : Bool) (d : ByteArray) (S : List Stp) : Bool := if h = true then defB d S else baB d S
def wyB (h : Bool) (y : Int) : Bool := if h = true then inB y 1 9 else decide (y = 0)
def stB (c s : Int) : Bool := if 0 < c then inB s 0 (c - 1) else decide (s = 0)
def mvF (m : Mv) : Bool := idB (decide (m.k = 2)) m && dfB (decide (m.k = 1)) m.d m.S && wyB (wyK m.k) m.y && stB (stK m.k) m.s
def mvB (m : Mv) : Bool := inB m.k 1 16 && mvF m
def mvE (m : Mv) : Int := if mvB m = true then 0 else 140
def emB (m : Mv) : Bool := decide (m.k = 0) && decide (m.r = 0) && decide (m.n = 0) && decide (m.L.length = 0) && decide (m.s = 0) && decide (m.y = 0) && baB m.d m.S
def fiB (v : Int) : Bool := decide (0 <= v) && decide (v <= 1000000000000000)
def rcB (x : Rc) : Bool := inB x.k 1 5 && (if x.k = 1 then mvB x.m else emB x.m) && (if x.k = 2 then Act.nameB x.a else decide (x.a = ⟨#[]⟩)) && (if x.k = 2 then fiB x.v else decide (x.v = 0)) && (if x.k = 3 then defB x.d x.S else baB x.d x.S) && (if x.k = 5 then decide (x.t.size <= 29000) else decide (x.t = ⟨#[]⟩))
def rcE (x : Rc) : Int := if rcB x = true then 0 else 140

/- bytes -/
def nm (z : Int) : List UInt8 := Pk.num z.toNat
def dt (d : ByteArray) (S : List Stp) : List UInt8 := if defB d S = true then shT d S else []
def bdM (m : Mv) : List UInt8 := nm m.k ++ Pk.text (Idn.showT m.r m.n m.L) ++ nm m.s ++ nm m.y ++ Pk.text (dt m.d m.S)
def bd (x : Rc) : List UInt8 := nm x.k ++ (if x.k = 1 then bdM x.m else if x.k = 2 then Pk.text x.a.data.toList ++ Pk.num (Pk.sgn x.v) else if x.k = 3 then Pk.text (dt x.d x.S) else if x.k = 5 then Pk.text x.t.data.toList else [])
def encL (x : Rc) : List UInt8 := if rcB x = true then bd x else []

/- a move's text -/
def wordL (k : Int) : List UInt8 :=
 if k = 1 then [98, 101, 103, 105, 110] else if k = 2 then [114, 101, 102, 117, 115, 101] else if k = 3 then [102, 97, 105, 108] else if k = 4 then [100, 111] else if k = 5 then [97, 115, 107] else if k = 6 then [103, 111, 116] else if k = 7 then [108, 111, 115, 116] else if k = 8 then [104, 111, 108, 100] else if k = 9 then [99, 111, 109, 109, 105, 116] else if k = 10 then [98, 97, 99, 107] else if k = 11 then [117, 110, 100, 111] else if k = 12 then [106, 97, 109] else if k = 13 then [97, 103, 97, 105, 110] else if k = 14 then [101, 110, 100] else if k = 15 then [107, 101, 112, 116] else if k = 16 then [102, 111, 114, 99, 101] else []
def shB (m : Mv) : List UInt8 := wordL m.k ++ [32] ++ Idn.showT m.r m.n m.L ++ (if 0 < stK m.k then [32] ++ Lib.decDigits m.s.toNat else []) ++ (if wyK m.k = true then [32] ++ Lib.decDigits m.y.toNat else []) ++ (if m.k = 1 then [32] ++ m.d.data.toList else [])
def shL (m : Mv) : List UInt8 := if mvB m = true then shB m else []

/- a reader: what it takes at a place, and the place behind (its own, if nothing is taken) -/
def nv (l : List UInt8) (p : Nat) : Int := IntKind.i64.wrap ((Pk.takeNum l p).1 : Int)
def np (l : List UInt8) (p : Nat) : Nat := if (Pk.takeNum l p).2.2 = 0 then (Pk.takeNum l p).2.1 else p
def av (l : List UInt8) (p : Nat) : Int := Pk.unsg (Pk.takeNum l p).1
def tv (l : List UInt8) (p : Nat) : List UInt8 := (Pk.takeText l p).1
def tp (l : List UInt8) (p : Nat) : Nat := if (Pk.takeText l p).2.2 = 0 then (Pk.takeText l p).2.1 else p
def ivR (t : List UInt8) : Int := if parB t = true then (readR t).1 else 0
def ivN (t : List UInt8) : Int := if parB t = true then (readR t).2 else 0
def ivL (t : List UInt8) : List (Int × Int) := if parB t = true then readL t else []
def rdM (l : List UInt8) (p : Nat) : Mv := ⟨nv l p, ivR (tv l (np l p)), ivN (tv l (np l p)), ivL (tv l (np l p)), nv l (tp l (np l p)), nv l (np l (tp l (np l p))), tN (tv l (np l (np l (tp l (np l p))))), tL (tv l (np l (np l (tp l (np l p)))))⟩
def rd (l : List UInt8) : Rc :=
 if nv l 0 = 1 then ⟨nv l 0, rdM l (np l 0), ⟨#[]⟩, 0, ⟨#[]⟩, [], ⟨#[]⟩⟩
 else if nv l 0 = 2 then ⟨nv l 0, zM, ⟨(tv l (np l 0)).toArray⟩, av l (tp l (np l 0)), ⟨#[]⟩, [], ⟨#[]⟩⟩
 else if nv l 0 = 3 then ⟨nv l 0, zM, ⟨#[]⟩, 0, tN (tv l (np l 0)), tL (tv l (np l 0)), ⟨#[]⟩⟩
 else if nv l 0 = 5 then ⟨nv l 0, zM, ⟨#[]⟩, 0, ⟨#[]⟩, [], ⟨(tv l (np l 0)).toArray⟩⟩
 else ⟨nv l 0, zM, ⟨#[]⟩, 0, ⟨#[]⟩, [], ⟨#[]⟩⟩
/- what Decode answers -/
def dcB (l : List UInt8) : Bool := rcB (rd l) && decide (bd (rd l) = l)
def dcR (l : List UInt8) : Rc := if dcB l = true then rd l else zR
def dcE (l : List UInt8) : Int := if dcB l = true then 0 else 140

theorem inB_iff {n l h : Int} : inB n l h = true ↔ l <= n /\ n <= h := by unfold inB; simp
theorem num_le (z : Int) : (nm z).length <= 10 := (Pk.num_len z.toNat).2
theorem text_le (t : List UInt8) : (Pk.text t).length <= 10 + t.length := by
 unfold Pk.text
 rw [List.length_append]
 have := (Pk.num_len t.length).2
 omega
theorem ba_iff {d : ByteArray} {S : List Stp} : baB d S = true ↔ d = ⟨#[]⟩ /\ S = [] := by
 unfold baB; simp
theorem ba_not : defB ⟨#[]⟩ [] = false := by decide
theorem dt_le (d : ByteArray) (S : List Stp) : (dt d S).length <= 600 := by
 unfold dt; split
 ·exact shT_len (by assumption)
 ·simp
theorem stK_rng (k : Int) : stK k = 8 ∨ stK k = 2 ∨ stK k = 0 := by unfold stK; split <;> (try split) <;> simp
theorem may_move {m : Mv} (h : mvB m = true) : (1 <= m.k /\ m.k <= 16) /\ Idn.mayB m.r m.n m.L = true /\ dfB (decide (m.k = 1)) m.d m.S = true /\ (0 <= m.y /\ m.y <= 9) /\ (0 <= m.s /\ m.s <= 7) := by
 unfold mvB mvF idB at h
 simp only [Bool.and_eq_true, inB_iff] at h
 obtain ⟨hk, ⟨⟨hi, _⟩, hd⟩, hy, hs⟩ : (1 <= m.k /\ m.k <= 16) /\ (((Idn.mayB m.r m.n m.L = true /\ _) /\ dfB (decide (m.k = 1)) m.d m.S = true) /\ wyB (wyK m.k) m.y = true /\ stB (stK m.k) m.s = true) := ⟨h.1, ⟨h.2.1.1.1, h.2.1.1.2⟩, h.2.1.2, h.2.2⟩
 refine ⟨hk, hi, hd, ?_, ?_⟩
 ·unfold wyB at hy
  split at hy
  ·have := inB_iff.1 hy; omega
  ·have := of_decide_eq_true hy; omega
 ·unfold stB at hs
  have := stK_rng m.k
  split at hs
  ·have := inB_iff.1 hs; omega
  ·have := of_decide_eq_true hs; omega
theorem em_zero {m : Mv} (h : emB m = true) : m = zM := by
 unfold emB at h
 simp only [Bool.and_eq_true, decide_eq_true_eq, ba_iff] at h
 obtain ⟨k, r, n, L, s, y, d, S⟩ := m
 simp only at h
 obtain ⟨⟨⟨⟨⟨⟨rfl, rfl⟩, rfl⟩, hl⟩, rfl⟩, rfl⟩, rfl, rfl⟩ := h
 rw [List.length_eq_zero_iff.1 hl]; rfl

/- what was laid is read again -/
theorem nv_at (A R l : List UInt8) (z : Int) (p : Nat) (hl : l = A ++ (nm z ++ R)) (hp : p = A.length) (h0 : 0 <= z) (h1 : z <= 1000000) : Pk.takeNum l p = (z.toNat, (A ++ nm z).length, 0) /\ nv l p = z /\ np l p = (A ++ nm z).length := by
 subst hp
 have ht := Pk.takeNum_at A R z.toNat (by omega)
 unfold nm at hl
 rw [<- hl] at ht
 have ht' : Pk.takeNum l (A.length : Int) = (z.toNat, (A ++ nm z).length, 0) := by rw [ht]; simp [nm]
 refine ⟨ht', ?_, ?_⟩
 ·unfold nv; rw [ht']
  show IntKind.i64.wrap ((z.toNat : Nat) : Int) = z
  rw [Int.toNat_of_nonneg h0]
  rw [IntKind.wrap_i64]; omega
 ·unfold np; rw [ht']; rfl
theorem tv_at (A R l t : List UInt8) (p : Nat) (hl : l = A ++ (Pk.text t ++ R)) (hp : p = A.length) (ht : t.length <= 1000000) : Pk.takeText l p = (t, (A ++ Pk.text t).length, 0) /\ tv l p = t /\ tp l p = (A ++ Pk.text t).length := by
 subst hp
 have h := Pk.takeText_at A R t (by omega)
 rw [<- hl] at h
 have h' : Pk.takeText l (A.length : Int) = (t, (A ++ Pk.text t).length, 0) := by rw [h]; simp
 refine ⟨h', ?_, ?_⟩
 ·unfold tv; rw [h']
 ·unfold tp; rw [h']; rfl
theorem av_at (A l : List UInt8) (v : Int) (p : Nat) (hl : l = A ++ Pk.num (Pk.sgn v)) (hp : p = A.length) (h : fiB v = true) : Pk.takeNum l p = (Pk.sgn v, (A ++ Pk.num (Pk.sgn v)).length, 0) /\ av l p = v := by
 subst hp
 unfold fiB at h
 simp only [Bool.and_eq_true, decide_eq_true_eq] at h
 have ht := Pk.takeNum_at A [] (Pk.sgn v) (Pk.sgn_lt v (by omega) (by omega))
 rw [List.append_nil, <- hl] at ht
 have ht' : Pk.takeNum l (A.length : Int) = (Pk.sgn v, (A ++ Pk.num (Pk.sgn v)).length, 0) := by rw [ht]; simp
 refine ⟨ht', ?_⟩
 unfold av; rw [ht']
 exact Pk.unsg_sgn v
theorem iv_at (r n : Int) (L : List (Int × Int)) (hm : Idn.mayB r n L = true) : parB (Idn.showT r n L) = true /\ ivR (Idn.showT r n L) = r /\ ivN (Idn.showT r n L) = n /\ ivL (Idn.showT r n L) = L := by
 have hp := par_show r n L hm
 obtain ⟨g1, g2⟩ := read_show r n L hm
 unfold ivR ivN ivL
 rw [if_pos hp, if_pos hp, if_pos hp, g1, g2]
 exact ⟨hp, rfl, rfl, rfl⟩
/- the empty text is no definition -/
theorem no_text : tN [] = ⟨#[]⟩ /\ tL [] = [] := by
 have h : tE [] ≠ 0 := by decide
 unfold tN tL
 rw [if_neg h, if_neg h]
 exact ⟨rfl, rfl⟩
theorem dt_back {d : ByteArray} {S : List Stp} (h : defB d S = true ∨ baB d S = true) : tN (dt d S) = d /\ tL (dt d S) = S := by
 rcases h with h | h
 ·unfold dt; rw [if_pos h]
  obtain ⟨h1, h2, _, _⟩ := back_text h
  exact ⟨h1, h2⟩
 ·obtain ⟨rfl, rfl⟩ := ba_iff.1 h
  unfold dt; rw [if_neg (by rw [ba_not]; decide)]
  exact no_text
theorem df_or {c : Bool} {d : ByteArray} {S : List Stp} (h : dfB c d S = true) : defB d S = true ∨ baB d S = true := by
 unfold dfB at h; split at h
 ·exact Or.inl h
 ·exact Or.inr h
theorem id_len {r n : Int} {L : List (Int × Int)} (hm : Idn.mayB r n L = true) : (Idn.showT r n L).length <= 100 := by
 obtain ⟨m1, m2, m3, m4, m5, m6⟩ := may_root hm
 have := show_len r n L m1 m2 m3 m4 m6
 omega
theorem bdM_len {m : Mv} (h : mvB m = true) : (bdM m).length <= 800 := by
 obtain ⟨hk, hm, hd, hy, hs⟩ := may_move h
 have a := num_le m.k
 have b := num_le m.s
 have c := num_le m.y
 have d := text_le (Idn.showT m.r m.n m.L)
 have e := text_le (dt m.d m.S)
 have f := id_len hm
 have g := dt_le m.d m.S
 unfold bdM
 simp only [List.length_append]
 omega
/- the places of a move's parts, one behind the other -/
structure MvAt (l : List UInt8) (m : Mv) (p p1 p2 p3 p4 : Nat) : Prop where
 e1 : Pk.takeNum l p = (m.k.toNat, p1, 0)
 e2 : Pk.takeText l p1 = (Idn.showT m.r m.n m.L, p2, 0)
 e3 : Pk.takeNum l p2 = (m.s.toNat, p3, 0)
 e4 : Pk.takeNum l p3 = (m.y.toNat, p4, 0)
 e5 : ∃ q, Pk.takeText l p4 = (dt m.d m.S, q, 0)
theorem mv_at (A l : List UInt8) (m : Mv) (p : Nat) (hl : l = A ++ bdM m) (hp : p = A.length) (h : mvB m = true) : (∃ p1 p2 p3 p4, MvAt l m p p1 p2 p3 p4) /\ rdM l p = m := by
 obtain ⟨hk, hm, hd, hy, hs⟩ := may_move h
 have hil := id_len hm
 have hdl := dt_le m.d m.S
 unfold bdM at hl
 obtain ⟨x1, v1, s1⟩ := nv_at A (Pk.text (Idn.showT m.r m.n m.L) ++ nm m.s ++ nm m.y ++ Pk.text (dt m.d m.S)) l m.k p (by rw [hl]; simp) hp (by omega) (by omega)
 obtain ⟨x2, v2, s2⟩ := tv_at (A ++ nm m.k) (nm m.s ++ nm m.y ++ Pk.text (dt m.d m.S)) l (Idn.showT m.r m.n m.L) (np l p) (by rw [hl]; simp) s1 (by omega)
 obtain ⟨x3, v3, s3⟩ := nv_at (A ++ nm m.k ++ Pk.text (Idn.showT m.r m.n m.L)) (nm m.y ++ Pk.text (dt m.d m.S)) l m.s (tp l (np l p)) (by rw [hl]; simp) s2 (by omega) (by omega)
 obtain ⟨x4, v4, s4⟩ := nv_at (A ++ nm m.k ++ Pk.text (Idn.showT m.r m.n m.L) ++ nm m.s) (Pk.text (dt m.d m.S)) l m.y (np l (tp l (np l p))) (by rw [hl]; simp) s3 (by omega) (by omega)
 obtain ⟨x5, v5, s5⟩ := tv_at (A ++ nm m.k ++ Pk.text (Idn.showT m.r m.n m.L) ++ nm m.s ++ nm m.y) [] l (dt m.d m.S) (np l (np l (tp l (np l p)))) (by rw [hl]; simp) s4 (by omega)
 obtain ⟨i0, i1, i2, i3⟩ := iv_at m.r m.n m.L hm
 obtain ⟨d1, d2⟩ := dt_back (df_or hd)
 refine ⟨⟨_, _, _, _, ⟨x1, by rw [<- s1]; exact x2, by rw [<- s2]; exact x3, by rw [<- s3]; exact x4, ⟨_, by rw [<- s4]; exact x5⟩⟩⟩, ?_⟩
 unfold rdM
 rw [v1, v2, v3, v4, v5, i1, i2, i3, d1, d2]
theorem may_rec {x : Rc} (h : rcB x = true) : (1 <= x.k /\ x.k <= 5) /\ (if x.k = 1 then mvB x.m else emB x.m) = true /\ (if x.k = 2 then Act.nameB x.a else decide (x.a = ⟨#[]⟩)) = true /\ (if x.k = 2 then fiB x.v else decide (x.v = 0)) = true /\ (if x.k = 3 then defB x.d x.S else baB x.d x.S) = true /\ (if x.k = 5 then decide (x.t.size <= 29000) else decide (x.t = ⟨#[]⟩)) = true := by
 unfold rcB at h
 simp only [Bool.and_eq_true, inB_iff] at h
 exact ⟨h.1.1.1.1.1, h.1.1.1.1.2, h.1.1.1.2, h.1.1.2, h.1.2, h.2⟩
/- the five kinds of records that may be -/
theorem rec_kinds {x : Rc} (h : rcB x = true) : (∃ m, x = ⟨1, m, ⟨#[]⟩, 0, ⟨#[]⟩, [], ⟨#[]⟩⟩ /\ mvB m = true) ∨ (∃ a v, x = ⟨2, zM, a, v, ⟨#[]⟩, [], ⟨#[]⟩⟩ /\ Act.nameB a = true /\ fiB v = true) ∨ (∃ d S, x = ⟨3, zM, ⟨#[]⟩, 0, d, S, ⟨#[]⟩⟩ /\ defB d S = true) ∨ x = ⟨4, zM, ⟨#[]⟩, 0, ⟨#[]⟩, [], ⟨#[]⟩⟩ ∨ (∃ t, x = ⟨5, zM, ⟨#[]⟩, 0, ⟨#[]⟩, [], t⟩ /\ t.size <= 29000) := by
 obtain ⟨hk, h1, h2, h3, h4, h5⟩ := may_rec h
 obtain ⟨k, m, a, v, d, S, t⟩ := x
 simp only at hk h1 h2 h3 h4 h5
 rcases (show k = 1 ∨ k = 2 ∨ k = 3 ∨ k = 4 ∨ k = 5 by omega) with rfl | rfl | rfl | rfl | rfl
 ·simp only [if_true, if_neg (show ¬ (1 : Int) = 2 by decide), if_neg (show ¬ (1 : Int) = 3 by decide), if_neg (show ¬ (1 : Int) = 5 by decide), decide_eq_true_eq, ba_iff] at h1 h2 h3 h4 h5
  obtain ⟨rfl, rfl⟩ := h4; subst h2 h3 h5
  exact Or.inl ⟨m, rfl, h1⟩
 ·simp only [if_true, if_neg (show ¬ (2 : Int) = 1 by decide), if_neg (show ¬ (2 : Int) = 3 by decide), if_neg (show ¬ (2 : Int) = 5 by decide), decide_eq_true_eq, ba_iff] at h1 h2 h3 h4 h5
  obtain ⟨rfl, rfl⟩ := h4; subst h5; obtain rfl := em_zero h1
  exact Or.inr (Or.inl ⟨a, v, rfl, h2, h3⟩)
 ·simp only [if_true, if_neg (show ¬ (3 : Int) = 1 by decide), if_neg (show ¬ (3 : Int) = 2 by decide), if_neg (show ¬ (3 : Int) = 5 by decide), decide_eq_true_eq] at h1 h2 h3 h4 h5
  subst h2 h3 h5; obtain rfl := em_zero h1
  exact Or.inr (Or.inr (Or.inl ⟨d, S, rfl, h4⟩))
 ·simp only [if_neg (show ¬ (4 : Int) = 1 by decide), if_neg (show ¬ (4 : Int) = 2 by decide), if_neg (show ¬ (4 : Int) = 3 by decide), if_neg (show ¬ (4 : Int) = 5 by decide), decide_eq_true_eq, ba_iff] at h1 h2 h3 h4 h5
  obtain ⟨rfl, rfl⟩ := h4; subst h2 h3 h5; obtain rfl := em_zero h1
  exact Or.inr (Or.inr (Or.inr (Or.inl rfl)))
 ·simp only [if_true, if_neg (show ¬ (5 : Int) = 1 by decide), if_neg (show ¬ (5 : Int) = 2 by decide), if_neg (show ¬ (5 : Int) = 3 by decide), decide_eq_true_eq, ba_iff] at h1 h2 h3 h4 h5
  obtain ⟨rfl, rfl⟩ := h4; subst h2 h3; obtain rfl := em_zero h1
  exact Or.inr (Or.inr (Or.inr (Or.inr ⟨t, rfl, h5⟩)))
theorem bd1 (m : Mv) : bd ⟨1, m, ⟨#[]⟩, 0, ⟨#[]⟩, [], ⟨#[]⟩⟩ = nm 1 ++ bdM m := rfl
theorem bd2 (a : ByteArray) (v : Int) : bd ⟨2, zM, a, v, ⟨#[]⟩, [], ⟨#[]⟩⟩ = nm 2 ++ (Pk.text a.data.toList ++ Pk.num (Pk.sgn v)) := rfl
theorem bd3 (d : ByteArray) (S : List Stp) : bd ⟨3, zM, ⟨#[]⟩, 0, d, S, ⟨#[]⟩⟩ = nm 3 ++ Pk.text (dt d S) := rfl
theorem bd4 : bd ⟨4, zM, ⟨#[]⟩, 0, ⟨#[]⟩, [], ⟨#[]⟩⟩ = nm 4 ++ [] := rfl
theorem bd5 (t : ByteArray) : bd ⟨5, zM, ⟨#[]⟩, 0, ⟨#[]⟩, [], t⟩ = nm 5 ++ Pk.text t.data.toList := rfl
theorem bd_len {x : Rc} (h : rcB x = true) : (bd x).length <= 30000 := by
 rcases rec_kinds h with ⟨m, rfl, hm⟩ | ⟨a, v, rfl, ha, hv⟩ | ⟨d, S, rfl, hd⟩ | rfl | ⟨t, rfl, ht⟩
 ·have a := num_le 1
  have b := bdM_len hm
  rw [bd1, List.length_append]; omega
 ·have c := num_le 2
  have d := text_le a.data.toList
  have e := (Act.name_pos ha).2
  have f := (Pk.num_len (Pk.sgn v)).2
  have hsz : a.data.toList.length = a.size := by simp
  rw [bd2]; simp only [List.length_append]; omega
 ·have a := num_le 3
  have b := text_le (dt d S)
  have c := dt_le d S
  rw [bd3, List.length_append]; omega
 ·have a := num_le 4
  rw [bd4, List.length_append]; simp; omega
 ·have a := num_le 5
  have b := text_le t.data.toList
  have hsz : t.data.toList.length = t.size := by simp
  rw [bd5, List.length_append]; omega
theorem rd_back {x : Rc} (h : rcB x = true) : rd (bd x) = x := by
 rcases rec_kinds h with ⟨m, rfl, hm⟩ | ⟨a, v, rfl, ha, hv⟩ | ⟨d, S, rfl, hd⟩ | rfl | ⟨t, rfl, ht⟩
 ·obtain ⟨_, v1, s1⟩ := nv_at [] (bdM m) (bd ⟨1, m, ⟨#[]⟩, 0, ⟨#[]⟩, [], ⟨#[]⟩⟩) 1 0 (by rw [bd1]; rfl) rfl (by decide) (by decide)
  obtain ⟨_, v2⟩ := mv_at (nm 1) (bd ⟨1, m, ⟨#[]⟩, 0, ⟨#[]⟩, [], ⟨#[]⟩⟩) m _ (bd1 m) s1 hm
  unfold rd
  rw [v1, if_pos rfl, v2]
 ·have hsz : a.data.toList.length = a.size := by simp
  have hn := (Act.name_pos ha).2
  obtain ⟨_, v1, s1⟩ := nv_at [] (Pk.text a.data.toList ++ Pk.num (Pk.sgn v)) (bd ⟨2, zM, a, v, ⟨#[]⟩, [], ⟨#[]⟩⟩) 2 0 (by rw [bd2]; rfl) rfl (by decide) (by decide)
  obtain ⟨_, v2, s2⟩ := tv_at (nm 2) (Pk.num (Pk.sgn v)) (bd ⟨2, zM, a, v, ⟨#[]⟩, [], ⟨#[]⟩⟩) a.data.toList _ (bd2 a v) s1 (by omega)
  obtain ⟨_, v3⟩ := av_at (nm 2 ++ Pk.text a.data.toList) (bd ⟨2, zM, a, v, ⟨#[]⟩, [], ⟨#[]⟩⟩) v _ (by rw [bd2]; simp) s2 hv
  unfold rd
  rw [v1, if_neg (by decide), if_pos rfl, v2, v3]
 ·obtain ⟨_, v1, s1⟩ := nv_at [] (Pk.text (dt d S)) (bd ⟨3, zM, ⟨#[]⟩, 0, d, S, ⟨#[]⟩⟩) 3 0 (by rw [bd3]; rfl) rfl (by decide) (by decide)
  have hl := dt_le d S
  obtain ⟨_, v2, s2⟩ := tv_at (nm 3) [] (bd ⟨3, zM, ⟨#[]⟩, 0, d, S, ⟨#[]⟩⟩) (dt d S) _ (by rw [bd3]; simp) s1 (by omega)
  obtain ⟨d1, d2⟩ := dt_back (Or.inl hd)
  unfold rd
  rw [v1, if_neg (by decide), if_neg (by decide), if_pos rfl, v2, d1, d2]
 ·obtain ⟨_, v1, s1⟩ := nv_at [] [] (bd ⟨4, zM, ⟨#[]⟩, 0, ⟨#[]⟩, [], ⟨#[]⟩⟩) 4 0 (by rw [bd4]; rfl) rfl (by decide) (by decide)
  unfold rd
  rw [v1]; rfl
 ·have hsz : t.data.toList.length = t.size := by simp
  obtain ⟨_, v1, s1⟩ := nv_at [] (Pk.text t.data.toList) (bd ⟨5, zM, ⟨#[]⟩, 0, ⟨#[]⟩, [], t⟩) 5 0 (by rw [bd5]; rfl) rfl (by decide) (by decide)
  obtain ⟨_, v2, s2⟩ := tv_at (nm 5) [] (bd ⟨5, zM, ⟨#[]⟩, 0, ⟨#[]⟩, [], t⟩) t.data.toList _ (by rw [bd5]; simp) s1 (by omega)
  unfold rd
  rw [v1, if_neg (by decide), if_neg (by decide), if_neg (by decide), if_pos rfl, v2]
theorem dec_enc {x : Rc} (h : rcB x = true) : dcR (encL x) = x /\ dcE (encL x) = 0 := by
 have e : encL x = bd x := by unfold encL; rw [if_pos h]
 have hb : dcB (bd x) = true := by
  unfold dcB; rw [rd_back h, h]; simp
 rw [e]
 unfold dcR dcE
 rw [if_pos hb, if_pos hb, rd_back h]
 exact ⟨rfl, rfl⟩
theorem dec_form {l : List UInt8} (h : dcE l = 0) : rcB (dcR l) = true /\ encL (dcR l) = l := by
 unfold dcE at h
 split at h
 ·rename_i hb
  have e : dcR l = rd l := by unfold dcR; rw [if_pos hb]
  unfold dcB at hb
  simp only [Bool.and_eq_true, decide_eq_true_eq] at hb
  rw [e]
  exact ⟨hb.1, by unfold encL; rw [if_pos hb.1, hb.2]⟩
 ·cases h
theorem dec_zero {l : List UInt8} (h : ¬ dcE l = 0) : dcR l = zR := by
 unfold dcE at h
 split at h
 ·exact absurd rfl h
 ·unfold dcR; rw [if_neg (by assumption)]
theorem enc_inj {x y : Rc} (hx : rcB x = true) (hy : rcB y = true) (h : encL x = encL y) : x = y := by
 rw [<- (dec_enc hx).1, <- (dec_enc hy).1, h]
end Rc
end Go.Proofs.YthaadiclopoamaaGreatDoor
/- pack.Text lays Pk.text. -/
set_option maxRecDepth 100000
set_option maxHeartbeats 8000000
namespace Go.Proofs.YthaadiclopoamaaGreatDoor
open Go.RowKit

theorem text_any (s : ByteArray) (w : World) (hs : s.size <= 140737488355328) :
  Calls Tryz.prog 42 #[.string s] w fun e w' => e = .returned (.string ⟨(Pk.text s.data.toList).toArray⟩) /\ Gr w w' := by
 have hsz : s.data.toList.length = s.size := by simp
 have hl := Pk.num_len s.size
 have hadd := add_lists (Pk.num s.size) s.data.toList (by omega)
 rw [mk_data] at hadd
 have he : Pk.text s.data.toList = Pk.num s.size ++ s.data.toList := by rw [Pk.text, hsz]
 rw [he]
 have HN : Hid (∀ w : World, Calls Tryz.prog 64 #[.int .u64 s.size] w fun e w' => e = .returned (.string ⟨(Pk.num s.size).toArray⟩) /\ Gr w w') := fun w => number_any s.size w (by omega)
 generalize Pk.num s.size = t at *
 clear he hsz hl
 go_enter Tryz.func42, Tryz.ntmps42
 go_wp2_with fail
 refine (HN.out _).mono ?_
 rintro e w1 ⟨rfl, hg1⟩
 go_wp2
 go_ret
 exact ⟨rfl, (by repeat(first|exact Gr.r _|refine Gr.a ?_|refine Gr.d ?_|refine Gr.t ?_ (by assumption)))⟩
end Go.Proofs.YthaadiclopoamaaGreatDoor
/- pack.Signed and the document's Signed lay the number that stands for theirs. -/
set_option maxRecDepth 100000
set_option maxHeartbeats 8000000
namespace Go.Proofs.YthaadiclopoamaaGreatDoor
open Go.RowKit

theorem signed_any (m : Int) (w : World) (h0 : -9223372036854775808 <= m) (h1 : m < 9223372036854775808) :
  Calls Tryz.prog 43 #[.int .i64 m] w fun e w' => e = .returned (.string ⟨(Pk.num (Pk.sgn m)).toArray⟩) /\ Gr w w' := by
 have hs := Pk.sgn_lt m h0 h1
 by_cases hp : 0 <= m
 ·have hc : ∀ w : World, Calls Tryz.prog 64 #[.int .u64 (m * 2)] w fun e w' => e = .returned (.string ⟨(Pk.num (Pk.sgn m)).toArray⟩) /\ Gr w w' := by
   intro w; rw [<- Pk.sgn_pos m hp]; exact number_any _ w hs
  generalize Pk.num (Pk.sgn m) = t at *
  have HC : Hid (∀ w : World, Calls Tryz.prog 64 #[.int .u64 (m * 2)] w fun e w' => e = .returned (.string ⟨t.toArray⟩) /\ Gr w w') := hc
  clear hc hs
  go_enter Tryz.func43, Tryz.ntmps43
  go_wp2_with fail
  refine (HC.out _).mono ?_
  rintro e w1 ⟨rfl, hg1⟩
  go_wp2
  go_ret
  exact ⟨rfl, (by repeat(first|exact Gr.r _|refine Gr.a ?_|refine Gr.d ?_|refine Gr.t ?_ (by assumption)))⟩
 ·have hc : ∀ w : World, Calls Tryz.prog 64 #[.int .u64 (-(m + 1) * 2 + 1)] w fun e w' => e = .returned (.string ⟨(Pk.num (Pk.sgn m)).toArray⟩) /\ Gr w w' := by
   intro w; rw [<- Pk.sgn_neg m hp]; exact number_any _ w hs
  generalize Pk.num (Pk.sgn m) = t at *
  have HC : Hid (∀ w : World, Calls Tryz.prog 64 #[.int .u64 (-(m + 1) * 2 + 1)] w fun e w' => e = .returned (.string ⟨t.toArray⟩) /\ Gr w w') := hc
  clear hc hs
  go_enter Tryz.func43, Tryz.ntmps43
  go_wp2_with fail
  refine (HC.out _).mono ?_
  rintro e w1 ⟨rfl, hg1⟩
  go_wp2
  go_ret
  exact ⟨rfl, (by repeat(first|exact Gr.r _|refine Gr.a ?_|refine Gr.d ?_|refine Gr.t ?_ (by assumption)))⟩
theorem refSigned_any (m : Int) (w : World) (h0 : -9223372036854775808 <= m) (h1 : m < 9223372036854775808) :
  Calls Tryz.prog 48 #[.int .i64 m] w fun e w' => e = .returned (.string ⟨(Pk.num (Pk.sgn m)).toArray⟩) /\ Gr w w' := by
 have hs := Pk.sgn_lt m h0 h1
 by_cases hp : 0 <= m
 ·have hc : ∀ w : World, Calls Tryz.prog 66 #[.int .u64 (2 * m)] w fun e w' => e = .returned (.string ⟨(Pk.num (Pk.sgn m)).toArray⟩) /\ Gr w w' := by
   intro w; rw [show 2 * m = (Pk.sgn m : Int) from by rw [Pk.sgn_pos m hp]; omega]; exact refNumber_any 9 _ w (by omega) (by omega) hs
  generalize Pk.num (Pk.sgn m) = t at *
  have HC : Hid (∀ w : World, Calls Tryz.prog 66 #[.int .u64 (2 * m)] w fun e w' => e = .returned (.string ⟨t.toArray⟩) /\ Gr w w') := hc
  clear hc hs
  go_enter Tryz.func48, Tryz.ntmps48
  go_wp2_with fail
  refine (HC.out _).mono ?_
  rintro e w1 ⟨rfl, hg1⟩
  go_wp2
  go_ret
  exact ⟨rfl, (by repeat(first|exact Gr.r _|refine Gr.a ?_|refine Gr.d ?_|refine Gr.t ?_ (by assumption)))⟩
 ·have hc : ∀ w : World, Calls Tryz.prog 66 #[.int .u64 (2 * -(m + 1) + 1)] w fun e w' => e = .returned (.string ⟨(Pk.num (Pk.sgn m)).toArray⟩) /\ Gr w w' := by
   intro w; rw [show 2 * -(m + 1) + 1 = (Pk.sgn m : Int) from by rw [Pk.sgn_neg m hp]; omega]; exact refNumber_any 9 _ w (by omega) (by omega) hs
  generalize Pk.num (Pk.sgn m) = t at *
  have HC : Hid (∀ w : World, Calls Tryz.prog 66 #[.int .u64 (2 * -(m + 1) + 1)] w fun e w' => e = .returned (.string ⟨t.toArray⟩) /\ Gr w w') := hc
  clear hc hs
  go_enter Tryz.func48, Tryz.ntmps48
  go_wp2_with fail
  refine (HC.out _).mono ?_
  rintro e w1 ⟨rfl, hg1⟩
  go_wp2
  go_ret
  exact ⟨rfl, (by repeat(first|exact Gr.r _|refine Gr.a ?_|refine Gr.d ?_|refine Gr.t ?_ (by assumption)))⟩
end Go.Proofs.YthaadiclopoamaaGreatDoor
