/- Parts of these proofs, laid together. -/
import Derived.Test.YthaadiclopoamaaGreatDoorGA
import Derived.Test.YthaadiclopoamaaGreatDoorGB
import Derived.Test.YthaadiclopoamaaGreatDoorGD
import Derived.Test.YthaadiclopoamaaGreatDoorGF
import Derived.Deep.RegionHeld3
/- The document's names. -/
set_option maxRecDepth 100000
set_option maxHeartbeats 8000000
namespace Go.Proofs.YthaadiclopoamaaGreatDoor
open Go.RowKit

theorem let_parts {b : UInt8} (h : Act.letB b = true) : (97 : Int) <= (b.toNat : Int) /\ (b.toNat : Int) <= 122 := by
 unfold Act.letB at h; simpa only [Bool.and_eq_true, decide_eq_true_eq] using h
theorem dig_parts {b : UInt8} (h : Act.digB b = true) : (48 : Int) <= (b.toNat : Int) /\ (b.toNat : Int) <= 57 := by
 unfold Act.digB at h; simpa only [Bool.and_eq_true, decide_eq_true_eq] using h

theorem refName_any (s : ByteArray) (w : World) (hs : s.size <= 9223372036854775807) : Calls Tryz.prog 38 #[.string s] w fun e w' => e = .returned (.bool (Act.nameB s)) /\ w' = w := by
 by_cases hz : (s.size : Int) < 1
 ·have HE : Hid (Act.nameB s = false) := Act.name_empty s (by omega)
  go_enter Tryz.func38, Tryz.ntmps38
  go_wp2
  go_ret
  exact ⟨by rw [HE.out]; rfl, rfl⟩
 have hp : 0 < s.size := by omega
 by_cases h16 : (16 : Int) < (s.size : Int)
 ·have HE : Hid (Act.nameB s = false) := Act.name_long s (by omega)
  go_enter Tryz.func38, Tryz.ntmps38
  go_wp2
  go_ret
  exact ⟨by rw [HE.out]; rfl, rfl⟩
 go_enter Tryz.func38, Tryz.ntmps38
 go_wp2
 go_loop [3] (fun i => ∃ k : Nat, k <= s.size /\ i = .int .i64 k /\ (0 < k -> Act.letB (s[0]'hp) = true) /\ ∀ j (hj : j < s.size), j < k -> Act.sgnB (s[j]'hj) = true) (fun i => s.size - (intOf i).toNat)
 case atStart => exact ⟨0, by omega, rfl, fun h => absurd h (by omega), fun j hj h => absurd h (by omega)⟩
 case round =>
  obtain ⟨k, hk, rfl, hfirst, hall⟩ := hrel
  have HA : Hid (∀ j (hj : j < s.size), j < k -> Act.sgnB (s[j]'hj) = true) := hall
  have HF : Hid (0 < k -> Act.letB (s[0]'hp) = true) := hfirst
  clear hall hfirst
  by_cases hlt : k < s.size
  ·cases hlk : Act.letB (s[k]'hlt) with
   | true =>
    have HS : Hid (Act.sgnB (s[k]'hlt) = true) := Act.sgn_let hlk
    have HK : Hid (Act.letB (s[k]'hlt) = true) := hlk
    obtain ⟨h1, h2⟩ := let_parts hlk
    have h3 : ¬ (((s[k]'hlt).toNat : Int) <= 57) := by omega
    have h4 : (48 : Int) <= ((s[k]'hlt).toNat : Int) := by omega
    clear hlk
    obtain ⟨b, hb⟩ : ∃ b, s[k]'hlt = b := ⟨_, rfl⟩
    have hb' : ((s[k]'hlt).toNat : Int) = (b.toNat : Int) := by rw [hb]
    rw [hb] at h1 h2 h3 h4
    clear hb
    by_cases hk0 : k = 0
    ·subst hk0
     go_wp2
     go_round
     case rel => exact ⟨0 + 1, by omega, by go_num, fun _ => HK.out, fun j hj h => if e : j = 0 then by subst e; exact HS.out else HA.out j hj (by omega)⟩
     case measure => simp [intOf]; omega
    ·have hk1 : ((k : Int) == 0) = false := by rw [beq_eq_false_iff_ne]; omega
     go_wp2
     go_round
     case rel => exact ⟨k + 1, by omega, by go_num, fun _ => HF.out (by omega), fun j hj h => if e : j = k then by subst e; exact HS.out else HA.out j hj (by omega)⟩
     case measure => simp [intOf]; omega
   | false =>
    cases hdk : Act.digB (s[k]'hlt) with
    | true =>
     have HS : Hid (Act.sgnB (s[k]'hlt) = true) := Act.sgn_dig hdk
     obtain ⟨h1, h2⟩ := dig_parts hdk
     have h3 : ¬ ((97 : Int) <= ((s[k]'hlt).toNat : Int)) := by omega
     have HK : Hid (Act.letB (s[k]'hlt) = false) := hlk
     clear hlk hdk
     obtain ⟨b, hb⟩ : ∃ b, s[k]'hlt = b := ⟨_, rfl⟩
     have hb' : ((s[k]'hlt).toNat : Int) = (b.toNat : Int) := by rw [hb]
     rw [hb] at h1 h2 h3
     clear hb
     by_cases hk0 : k = 0
     ·subst hk0
      have HE : Hid (Act.nameB s = false) := Act.name_head s hp HK.out
      go_wp2
      go_ret
      exact ⟨by rw [HE.out]; rfl, rfl⟩
     ·have hk1 : ((k : Int) == 0) = false := by rw [beq_eq_false_iff_ne]; omega
      go_wp2
      go_round
      case rel => exact ⟨k + 1, by omega, by go_num, fun _ => HF.out (by omega), fun j hj h => if e : j = k then by subst e; exact HS.out else HA.out j hj (by omega)⟩
      case measure => simp [intOf]; omega
    | false =>
     have HE : Hid (Act.nameB s = false) := Act.name_sign s k hlt (Act.sgn_no hlk hdk)
     obtain ⟨x, hx⟩ : ∃ x, Act.letB (s[k]'hlt) = x := ⟨_, rfl⟩
     have hx1 : (decide ((97 : Int) <= ((s[k]'hlt).toNat : Int)) && decide (((s[k]'hlt).toNat : Int) <= 122)) = false := hlk
     have hx2 : (decide ((48 : Int) <= ((s[k]'hlt).toNat : Int)) && decide (((s[k]'hlt).toNat : Int) <= 57)) = false := hdk
     clear hlk hdk hx
     obtain ⟨b, hb⟩ : ∃ b, s[k]'hlt = b := ⟨_, rfl⟩
     have hb' : ((s[k]'hlt).toNat : Int) = (b.toNat : Int) := by rw [hb]
     rw [hb] at hx1 hx2
     clear hb
     have hor : ((b.toNat : Int) < 48 ∨ (57 < (b.toNat : Int) /\ (b.toNat : Int) < 97)) ∨ 122 < (b.toNat : Int) := by
      simp only [Bool.and_eq_false_iff, decide_eq_false_iff_not] at hx1 hx2
      omega
     clear hx1 hx2
     rcases hor with (h1 | ⟨h1, h2⟩) | h1
     ·have k1 : ¬ ((97 : Int) <= (b.toNat : Int)) := by omega
      have k2 : ¬ ((48 : Int) <= (b.toNat : Int)) := by omega
      clear h1
      go_wp2
      go_ret
      exact ⟨by rw [HE.out]; rfl, rfl⟩
     ·have k1 : ¬ ((97 : Int) <= (b.toNat : Int)) := by omega
      have k2 : (48 : Int) <= (b.toNat : Int) := by omega
      have k3 : ¬ ((b.toNat : Int) <= 57) := by omega
      clear h1 h2
      go_wp2
      go_ret
      exact ⟨by rw [HE.out]; rfl, rfl⟩
     ·have k1 : (97 : Int) <= (b.toNat : Int) := by omega
      have k2 : (48 : Int) <= (b.toNat : Int) := by omega
      have k3 : ¬ ((b.toNat : Int) <= 57) := by omega
      have k4 : ¬ ((b.toNat : Int) <= 122) := by omega
      clear h1
      go_wp2
      go_ret
      exact ⟨by rw [HE.out]; rfl, rfl⟩
  ·have HE : Hid (Act.nameB s = true) := Act.name_yes s hp (by omega) (HF.out (by omega)) (fun j hj => HA.out j hj (by omega))
   go_wp2
   go_ret
   exact ⟨by rw [HE.out]; rfl, rfl⟩
end Go.Proofs.YthaadiclopoamaaGreatDoor
/- Plain mathematics of the texts of amounts: what is shown, and what is read of it. -/
set_option maxRecDepth 100000
set_option maxHeartbeats 8000000
namespace Go.Proofs.YthaadiclopoamaaGreatDoor.Csh

def dig (n : Nat) : UInt8 := UInt8.ofNat (48 + n % 10)
def showN (n : Nat) : List UInt8 := Lib.decDigits (n / 100) ++ [46, dig (n / 10), dig n]
def showE (a : Int) : List UInt8 := if a < 0 then 45 :: showN a.natAbs else showN a.natAbs

def stepU (n : Nat) (b : UInt8) : Nat := if (b.toNat + 208) % 256 <= 9 then (n * 10 + (b.toNat + 208) % 256) % 18446744073709551616 else n
def readU (l : List UInt8) : Nat := l.foldl stepU 0
def readE (l : List UInt8) : Int := sgn (if l.head? = some 45 then (18446744073709551616 - (readU l : Int)) % 18446744073709551616 else readU l)
def parE (l : List UInt8) : Bool := decide (showE (readE l) = l)

theorem dig_toNat (n : Nat) : (dig n).toNat = 48 + n % 10 := by
 unfold dig; simp; omega
theorem stepU_dig (n m : Nat) : stepU n (dig m) = (n * 10 + m % 10) % 18446744073709551616 := by
 unfold stepU
 rw [dig_toNat, show (48 + m % 10 + 208) % 256 = m % 10 by omega, if_pos (by omega)]
theorem stepU_dot (n : Nat) : stepU n 46 = n := by unfold stepU; rw [if_neg (by decide)]
theorem stepU_minus (n : Nat) : stepU n 45 = n := by unfold stepU; rw [if_neg (by decide)]
theorem dec_snoc (n : Nat) (h : ¬ n < 10) : Lib.decDigits n = Lib.decDigits (n / 10) ++ [dig n] := by
 rw [Lib.decDigits, dif_neg h]; rfl
theorem dec_one (n : Nat) (h : n < 10) : Lib.decDigits n = [dig n] := by
 rw [Lib.decDigits, dif_pos h]; unfold dig; rw [Nat.mod_eq_of_lt h]
theorem read_dec (n : Nat) : (Lib.decDigits n).foldl stepU 0 = n % 18446744073709551616 := by
 induction n using Nat.strongRecOn with
 | ind n ih =>
  by_cases h : n < 10
  ·rw [dec_one n h]; simp only [List.foldl_cons, List.foldl_nil]; rw [stepU_dig]; omega
  ·rw [dec_snoc n h, List.foldl_append, ih (n / 10) (by omega)]
   simp only [List.foldl_cons, List.foldl_nil]; rw [stepU_dig]; omega
theorem read_showN (n : Nat) (h : n < 18446744073709551616) : readU (showN n) = n := by
 unfold readU showN
 rw [List.foldl_append, read_dec]
 simp only [List.foldl_cons, List.foldl_nil]
 have e := Nat.div_div_eq_div_mul n 10 10
 rw [stepU_dot, stepU_dig, stepU_dig]; omega
theorem dec_head (n : Nat) : ∃ m l, Lib.decDigits n = dig m :: l := by
 induction n using Nat.strongRecOn with
 | ind n ih =>
  by_cases h : n < 10
  ·exact ⟨n, [], dec_one n h⟩
  ·obtain ⟨m, l, e⟩ := ih (n / 10) (by omega)
   exact ⟨m, l ++ [dig n], by rw [dec_snoc n h, e]; rfl⟩
theorem dig_ne (n : Nat) : dig n ≠ 45 /\ dig n ≠ 46 := by
 constructor <;> (intro e; have := congrArg UInt8.toNat e; rw [dig_toNat] at this; simp at this; omega)
theorem read_show (a : Int) (h0 : -9223372036854775808 <= a) (h1 : a <= 9223372036854775807) : readE (showE a) = a := by
 unfold readE showE
 by_cases h : a < 0
 ·rw [if_pos h]
  have e : readU (45 :: showN a.natAbs) = a.natAbs := by
   have := read_showN a.natAbs (by omega)
   unfold readU at this ⊢
   rw [List.foldl_cons, stepU_minus, this]
  rw [e, List.head?_cons, if_pos rfl]
  unfold sgn; omega
 ·rw [if_neg h, read_showN _ (by omega)]
  have : (showN a.natAbs).head? ≠ some 45 := by
   obtain ⟨m, l, e⟩ := dec_head (a.natAbs / 100)
   unfold showN
   rw [e, List.cons_append, List.head?_cons]
   exact fun x => (dig_ne m).1 (Option.some.inj x)
  rw [if_neg this]
  unfold sgn; omega
theorem par_show (a : Int) (h0 : -9223372036854775808 <= a) (h1 : a <= 9223372036854775807) : parE (showE a) = true := by
 unfold parE; rw [read_show a h0 h1]; simp
theorem sgn_rng (n : Int) : -9223372036854775808 <= sgn n /\ sgn n <= 9223372036854775807 := by unfold sgn; omega
theorem readE_rng (l : List UInt8) : -9223372036854775808 <= readE l /\ readE l <= 9223372036854775807 := sgn_rng _
/- lengths -/
theorem dec_len (n : Nat) (k : Nat) (h : n < 10 ^ (k + 1)) : (Lib.decDigits n).length <= k + 1 := by
 induction k generalizing n with
 | zero => rw [dec_one n (by simpa using h)]; simp
 | succ k ih =>
  by_cases h9 : n < 10
  ·rw [dec_one n h9]; simp
  ·have := ih (n / 10) (by rw [Nat.div_lt_iff_lt_mul (by omega)]; rw [Nat.pow_succ] at h; exact h)
   rw [dec_snoc n h9]; simp; omega
theorem dec_pos (n : Nat) : 1 <= (Lib.decDigits n).length := by
 obtain ⟨m, l, e⟩ := dec_head n; rw [e]; simp
theorem showN_len (n : Nat) (h : n <= 9223372036854775808) : 4 <= (showN n).length /\ (showN n).length <= 20 := by
 have h1 := dec_len (n / 100) 16 (by omega)
 have h2 := dec_pos (n / 100)
 unfold showN
 simp; omega
theorem show_len (a : Int) (h0 : -9223372036854775808 <= a) (h1 : a <= 9223372036854775807) : 4 <= (showE a).length /\ (showE a).length <= 21 := by
 have := showN_len a.natAbs (by omega)
 unfold showE
 split
 ·rw [List.length_cons]; omega
 ·omega

/- the document's way of reading -/
def stepR (n : Int) (b : UInt8) : Option Int :=
 if b = 46 then some n else if (b.toNat : Int) - 48 < 0 ∨ (b.toNat : Int) - 48 > 9 ∨ n < -922337203685477580 ∨ (n = -922337203685477580 /\ (b.toNat : Int) - 48 > 8) then none else some (10 * n - ((b.toNat : Int) - 48))
def readR : Int -> List UInt8 -> Option Int
 | n, [] => some n
 | n, b :: l => match stepR n b with
  | none => none
  | some m => readR m l
theorem readR_cons (n : Int) (b : UInt8) (l : List UInt8) : readR n (b :: l) = match stepR n b with | none => none | some m => readR m l := rfl
theorem readR_append (l m : List UInt8) (n x : Int) (h : readR n l = some x) : readR n (l ++ m) = readR x m := by
 induction l generalizing n with
 | nil => simp [readR] at h; subst h; rfl
 | cons b l ih =>
  rw [List.cons_append, readR_cons]
  rw [readR_cons] at h
  cases hs : stepR n b with
  | none => rw [hs] at h; cases h
  | some y => rw [hs] at h; exact ih y h
theorem stepR_dig (n : Nat) (m : Nat) (h : n * 10 + m % 10 <= 9223372036854775808) : stepR (-(n : Int)) (dig m) = some (-((n * 10 + m % 10 : Nat) : Int)) := by
 unfold stepR
 rw [if_neg (dig_ne m).2, dig_toNat, if_neg (by omega)]
 congr 1; omega
theorem readR_dec (n : Nat) (h : n <= 9223372036854775808) : readR 0 (Lib.decDigits n) = some (-(n : Int)) := by
 induction n using Nat.strongRecOn with
 | ind n ih =>
  by_cases h9 : n < 10
  ·have := stepR_dig 0 n (by omega)
   rw [dec_one n h9]
   unfold readR
   simp only [Int.ofNat_zero, Int.neg_zero] at this
   rw [this]
   unfold readR
   simp only; congr 2; omega
  ·rw [dec_snoc n h9, readR_append _ _ _ _ (ih (n / 10) (by omega) (by omega))]
   unfold readR
   rw [stepR_dig (n / 10) n (by omega)]
   unfold readR
   simp only; congr 2; omega
theorem readR_showN (n : Nat) (h : n <= 9223372036854775808) : readR 0 (showN n) = some (-(n : Int)) := by
 unfold showN
 rw [readR_append _ _ _ _ (readR_dec (n / 100) (by omega))]
 have e := Nat.div_div_eq_div_mul n 10 10
 unfold readR
 have e1 : stepR (-((n / 100 : Nat) : Int)) 46 = some (-((n / 100 : Nat) : Int)) := by unfold stepR; rw [if_pos rfl]
 rw [e1]
 unfold readR
 simp only
 rw [stepR_dig (n / 100) (n / 10) (by omega)]
 unfold readR
 simp only
 rw [stepR_dig _ n (by omega)]
 unfold readR
 simp only; congr 2; omega
theorem stepR_rng (n m : Int) (b : UInt8) (h : stepR n b = some m) (h0 : -9223372036854775808 <= n) (h1 : n <= 0) : -9223372036854775808 <= m /\ m <= 0 := by
 unfold stepR at h
 split at h
 ·cases h; exact ⟨h0, h1⟩
 ·split at h
  ·cases h
  ·next h9 => cases h; omega
def bodyR (l : List UInt8) : List UInt8 := if l.head? = some 45 then l.tail else l
def lastR (l : List UInt8) (c : Int) : Option Int := if showE c = l then some c else none
def refE (l : List UInt8) : Option Int :=
 if l.length < 4 ∨ l.length > 21 then none else match readR 0 (bodyR l) with
  | none => none
  | some n => if l.head? = some 45 then lastR l n else if n < -9223372036854775807 then none else lastR l (-n)
theorem par_rng (l : List UInt8) (h : parE l = false) (c : Int) (h0 : -9223372036854775808 <= c) (h1 : c <= 9223372036854775807) : showE c ≠ l := by
 intro e
 have := par_show c h0 h1
 rw [e, h] at this
 cases this
theorem readR_rng (l : List UInt8) (n m : Int) (h : readR n l = some m) (h0 : -9223372036854775808 <= n) (h1 : n <= 0) : -9223372036854775808 <= m /\ m <= 0 := by
 induction l generalizing n with
 | nil => simp [readR] at h; subst h; exact ⟨h0, h1⟩
 | cons b l ih =>
  rw [readR_cons] at h
  cases hs : stepR n b with
  | none => rw [hs] at h; cases h
  | some y =>
   rw [hs] at h
   have := stepR_rng n y b hs h0 h1
   exact ih y h this.1 this.2
theorem ref_par (l : List UInt8) : refE l = if parE l = true then some (readE l) else none := by
 by_cases hp : parE l = true
 ·rw [if_pos hp]
  have hr := readE_rng l
  have hs : showE (readE l) = l := by simpa [parE] using hp
  generalize readE l = a at *
  have hl := show_len a hr.1 hr.2
  subst hs
  unfold refE
  rw [if_neg (by omega)]
  unfold bodyR
  by_cases h : a < 0
  ·have e : showE a = 45 :: showN a.natAbs := by unfold showE; rw [if_pos h]
   have e2 : (showE a).head? = some 45 := by rw [e]; rfl
   have e3 : (showE a).tail = showN a.natAbs := by rw [e]; rfl
   rw [if_pos e2, e3, readR_showN _ (by omega)]
   simp only
   rw [if_pos e2, show -(a.natAbs : Int) = a by omega]
   unfold lastR; rw [if_pos rfl]
  ·have e : showE a = showN a.natAbs := by unfold showE; rw [if_neg h]
   have e2 : ¬ (showE a).head? = some 45 := by
    obtain ⟨m, l, e4⟩ := dec_head (a.natAbs / 100)
    rw [e]; unfold showN
    rw [e4, List.cons_append, List.head?_cons]
    exact fun x => (dig_ne m).1 (Option.some.inj x)
   rw [if_neg e2]
   have e5 : readR 0 (showE a) = some (-(a.natAbs : Int)) := by rw [e]; exact readR_showN _ (by omega)
   rw [e5]
   simp only
   rw [if_neg e2, if_neg (by omega), show - -(a.natAbs : Int) = a by omega]
   unfold lastR; rw [if_pos rfl]
 ·rw [if_neg hp]
  have hp' : parE l = false := by simpa using hp
  unfold refE
  split
  ·rfl
  ·cases hm : readR 0 (bodyR l) with
   | none => rfl
   | some n =>
    have hn := readR_rng _ _ _ hm (by omega) (by omega)
    simp only
    split
    ·unfold lastR; rw [if_neg (par_rng l hp' n (by omega) (by omega))]
    ·split
     ·rfl
     ·unfold lastR; rw [if_neg (par_rng l hp' (-n) (by omega) (by omega))]
end Go.Proofs.YthaadiclopoamaaGreatDoor.Csh
/- cash: sums and products. -/
set_option maxRecDepth 100000
set_option maxHeartbeats 8000000
namespace Go.Proofs.YthaadiclopoamaaGreatDoor
open Go.RowKit

theorem fits_any (a : Int) (w : World) :
  Calls Tryz.prog 61 #[.int .i64 a] w fun e w' => e = .returned (.bool (decide (0 <= a) && decide (a <= 1000000000000000))) /\ w' = w := by
 by_cases h0 : 0 <= a
 ·by_cases h1 : a <= 1000000000000000
  ·have HF : Hid ((decide (0 <= a) && decide (a <= 1000000000000000)) = true) := by show _ = _; simp [h0, h1]
   rw [HF.out]
   go_enter Tryz.func61, Tryz.ntmps61
   go_wp2
   go_ret
   exact ⟨rfl, rfl⟩
  ·have HF : Hid ((decide (0 <= a) && decide (a <= 1000000000000000)) = false) := by show _ = _; simp [h1]
   rw [HF.out]
   go_enter Tryz.func61, Tryz.ntmps61
   go_wp2
   go_ret
   exact ⟨rfl, rfl⟩
 ·have HF : Hid ((decide (0 <= a) && decide (a <= 1000000000000000)) = false) := by show _ = _; simp [h0]
  rw [HF.out]
  go_enter Tryz.func61, Tryz.ntmps61
  go_wp2
  go_ret
  exact ⟨rfl, rfl⟩
end Go.Proofs.YthaadiclopoamaaGreatDoor
/- act: Check; and the document's. -/
set_option maxRecDepth 100000
set_option maxHeartbeats 8000000
namespace Go.Proofs.YthaadiclopoamaaGreatDoor
open Go.RowKit

theorem actCheck_any (k n : Int) (s : ByteArray) (w : World) (hs : s.size <= 9223372036854775807) :
  Calls Tryz.prog 106 #[.agg #[.int .i64 k, .string s, .int .i64 n]] w fun e w' => e = .returned (.int .i64 (Act.chkE k s n)) /\ Gr w w' := by
 have HN : Hid (∀ w', Calls Tryz.prog 60 #[.string s] w' fun e w2 => e = .returned (.bool (Act.nameB s)) /\ w2 = w') := fun w' => name_any s w' hs
 have HF : Hid (∀ w', Calls Tryz.prog 61 #[.int .i64 n] w' fun e w2 => e = .returned (.bool (decide (0 <= n) && decide (n <= 1000000000000000))) /\ w2 = w') := fun w' => fits_any n w'
 cases hb : Act.actB k s n with
 | true =>
  obtain ⟨⟨h1, h2⟩, h3, h4, h5⟩ := (Act.act_iff k s n).1 hb
  rw [Act.chk_yes hb]
  rw [h3] at HN
  rw [show (decide (0 <= n) && decide (n <= 1000000000000000)) = true by simp; omega] at HF
  have k1 : ¬ k < 1 := by omega
  have k2 : ¬ 4 < k := by omega
  have k3 : ¬ n < 1 := by omega
  have k4 : ¬ 1000000000000000 < n := by omega
  clear hb h3 hs
  go_enter Tryz.func106, Tryz.ntmps106
  go_wp2_with fail
  refine (HN.out _).mono ?_
  rintro e w1 ⟨rfl, hw1⟩; obtain rfl := hw1.symm
  go_wp2_with fail
  refine (HF.out _).mono ?_
  rintro e w1 ⟨rfl, hw1⟩; obtain rfl := hw1.symm
  go_wp2
  go_ret
  exact ⟨rfl, (by repeat(first|exact Gr.r _|refine Gr.a ?_|refine Gr.d ?_|refine Gr.t ?_ (by assumption)))⟩
 | false =>
  rw [Act.chk_no hb]
  have hno : ¬ ((1 <= k /\ k <= 4) /\ Act.nameB s = true /\ 1 <= n /\ n <= 1000000000000000) := fun h => by rw [(Act.act_iff k s n).2 h] at hb; cases hb
  clear hb hs
  by_cases h1 : 1 <= k
  ·have k1 : ¬ k < 1 := by omega
   by_cases h2 : k <= 4
   ·have k2 : ¬ 4 < k := by omega
    cases h3 : Act.nameB s with
    | false =>
     rw [h3] at HN
     clear hno h3
     go_enter Tryz.func106, Tryz.ntmps106
     go_wp2_with fail
     refine (HN.out _).mono ?_
     rintro e w1 ⟨rfl, hw1⟩; obtain rfl := hw1.symm
     go_wp2
     go_ret
     exact ⟨rfl, (by repeat(first|exact Gr.r _|refine Gr.a ?_|refine Gr.d ?_|refine Gr.t ?_ (by assumption)))⟩
    | true =>
     rw [h3] at HN
     by_cases h4 : n < 1
     ·clear hno h3
      go_enter Tryz.func106, Tryz.ntmps106
      go_wp2_with fail
      refine (HN.out _).mono ?_
      rintro e w1 ⟨rfl, hw1⟩; obtain rfl := hw1.symm
      go_wp2
      go_ret
      exact ⟨rfl, (by repeat(first|exact Gr.r _|refine Gr.a ?_|refine Gr.d ?_|refine Gr.t ?_ (by assumption)))⟩
     ·have k4 : 1000000000000000 < n := by
       by_cases h5 : 1000000000000000 < n
       ·exact h5
       ·exact absurd ⟨⟨h1, h2⟩, h3, by omega, by omega⟩ hno
      rw [show (decide (0 <= n) && decide (n <= 1000000000000000)) = false by simp; omega] at HF
      clear hno h3
      go_enter Tryz.func106, Tryz.ntmps106
      go_wp2_with fail
      refine (HN.out _).mono ?_
      rintro e w1 ⟨rfl, hw1⟩; obtain rfl := hw1.symm
      go_wp2_with fail
      refine (HF.out _).mono ?_
      rintro e w1 ⟨rfl, hw1⟩; obtain rfl := hw1.symm
      go_wp2
      go_ret
      exact ⟨rfl, (by repeat(first|exact Gr.r _|refine Gr.a ?_|refine Gr.d ?_|refine Gr.t ?_ (by assumption)))⟩
   ·have k2 : 4 < k := by omega
    clear hno HN HF
    go_enter Tryz.func106, Tryz.ntmps106
    go_wp2
    go_ret
    exact ⟨rfl, (by repeat(first|exact Gr.r _|refine Gr.a ?_|refine Gr.d ?_|refine Gr.t ?_ (by assumption)))⟩
  ·have k1 : k < 1 := by omega
   clear hno HN HF
   go_enter Tryz.func106, Tryz.ntmps106
   go_wp2
   go_ret
   exact ⟨rfl, (by repeat(first|exact Gr.r _|refine Gr.a ?_|refine Gr.d ?_|refine Gr.t ?_ (by assumption)))⟩

theorem refActCheck_any (k n : Int) (s : ByteArray) (w : World) (hs : s.size <= 9223372036854775807) :
  Calls Tryz.prog 83 #[.agg #[.int .i64 k, .string s, .int .i64 n]] w fun e w' => e = .returned (.int .i64 (Act.chkE k s n)) /\ Gr w w' := by
 have HN : Hid (∀ w', Calls Tryz.prog 38 #[.string s] w' fun e w2 => e = .returned (.bool (Act.nameB s)) /\ w2 = w') := fun w' => refName_any s w' hs
 cases hb : Act.actB k s n with
 | true =>
  obtain ⟨⟨h1, h2⟩, h3, h4, h5⟩ := (Act.act_iff k s n).1 hb
  rw [Act.chk_yes hb]
  rw [h3] at HN
  have k1 : ¬ k < 1 := by omega
  have k2 : ¬ 4 < k := by omega
  have k3 : ¬ n < 1 := by omega
  have k4 : ¬ 1000000000000000 < n := by omega
  clear hb h3 hs
  go_enter Tryz.func83, Tryz.ntmps83
  go_wp2_with fail
  refine (HN.out _).mono ?_
  rintro e w1 ⟨rfl, hw1⟩; obtain rfl := hw1.symm
  go_wp2
  go_ret
  exact ⟨rfl, (by repeat(first|exact Gr.r _|refine Gr.a ?_|refine Gr.d ?_|refine Gr.t ?_ (by assumption)))⟩
 | false =>
  rw [Act.chk_no hb]
  have hno : ¬ ((1 <= k /\ k <= 4) /\ Act.nameB s = true /\ 1 <= n /\ n <= 1000000000000000) := fun h => by rw [(Act.act_iff k s n).2 h] at hb; cases hb
  clear hb hs
  by_cases h1 : 1 <= k
  ·have k1 : ¬ k < 1 := by omega
   by_cases h2 : k <= 4
   ·have k2 : ¬ 4 < k := by omega
    cases h3 : Act.nameB s with
    | false =>
     rw [h3] at HN
     clear hno h3
     go_enter Tryz.func83, Tryz.ntmps83
     go_wp2_with fail
     refine (HN.out _).mono ?_
     rintro e w1 ⟨rfl, hw1⟩; obtain rfl := hw1.symm
     go_wp2
     go_ret
     exact ⟨rfl, (by repeat(first|exact Gr.r _|refine Gr.a ?_|refine Gr.d ?_|refine Gr.t ?_ (by assumption)))⟩
    | true =>
     rw [h3] at HN
     by_cases h4 : n < 1
     ·clear hno h3
      go_enter Tryz.func83, Tryz.ntmps83
      go_wp2_with fail
      refine (HN.out _).mono ?_
      rintro e w1 ⟨rfl, hw1⟩; obtain rfl := hw1.symm
      go_wp2
      go_ret
      exact ⟨rfl, (by repeat(first|exact Gr.r _|refine Gr.a ?_|refine Gr.d ?_|refine Gr.t ?_ (by assumption)))⟩
     ·have k4 : 1000000000000000 < n := by
       by_cases h5 : 1000000000000000 < n
       ·exact h5
       ·exact absurd ⟨⟨h1, h2⟩, h3, by omega, by omega⟩ hno
      clear hno h3
      go_enter Tryz.func83, Tryz.ntmps83
      go_wp2_with fail
      refine (HN.out _).mono ?_
      rintro e w1 ⟨rfl, hw1⟩; obtain rfl := hw1.symm
      go_wp2
      go_ret
      exact ⟨rfl, (by repeat(first|exact Gr.r _|refine Gr.a ?_|refine Gr.d ?_|refine Gr.t ?_ (by assumption)))⟩
   ·have k2 : 4 < k := by omega
    clear hno HN
    go_enter Tryz.func83, Tryz.ntmps83
    go_wp2
    go_ret
    exact ⟨rfl, (by repeat(first|exact Gr.r _|refine Gr.a ?_|refine Gr.d ?_|refine Gr.t ?_ (by assumption)))⟩
  ·have k1 : k < 1 := by omega
   clear hno HN
   go_enter Tryz.func83, Tryz.ntmps83
   go_wp2
   go_ret
   exact ⟨rfl, (by repeat(first|exact Gr.r _|refine Gr.a ?_|refine Gr.d ?_|refine Gr.t ?_ (by assumption)))⟩

end Go.Proofs.YthaadiclopoamaaGreatDoor
/- def: what a step may be. -/
set_option maxRecDepth 100000
set_option maxHeartbeats 8000000
namespace Go.Proofs.YthaadiclopoamaaGreatDoor
open Go.RowKit
open Df (Stp ownB askB stpB zerB)
open _root_.Go.Proofs.YthaadiclopoamaaGreatDoor.Act (nameB actB chkE)

def inI (n : Int) : Prop := -9223372036854775808 <= n /\ n <= 9223372036854775807
def inS (s : Stp) : Prop := s.a.size <= 9223372036854775807 /\ s.u.size <= 9223372036854775807 /\ inI s.k /\ inI s.n /\ inI s.o /\ inI s.y /\ inI s.v

theorem within_any (n a b : Int) (w : World) : Calls Tryz.prog 86 #[.int .i64 n, .int .i64 a, .int .i64 b] w fun e w' => e = .returned (.bool (decide (a <= n) && decide (n <= b))) /\ w' = w := by
 by_cases h0 : a <= n
 ·by_cases h1 : n <= b
  ·rw [decide_eq_true h0, decide_eq_true h1]
   go_enter Tryz.func86, Tryz.ntmps86
   go_wp2
   go_ret
   exact ⟨rfl, rfl⟩
  ·rw [decide_eq_true h0, decide_eq_false h1]
   go_enter Tryz.func86, Tryz.ntmps86
   go_wp2
   go_ret
   exact ⟨rfl, rfl⟩
 ·rw [decide_eq_false h0]
  go_enter Tryz.func86, Tryz.ntmps86
  go_wp2
  go_ret
  exact ⟨rfl, rfl⟩


theorem isOwn_any (s : Stp) (w : World) (hs : inS s) : Calls Tryz.prog 87 #[.agg #[.int .i64 s.k, .string s.a, .int .i64 s.n, .int .i64 s.o, .string s.u, .int .i64 s.y, .int .i64 s.v]] w fun e w' => e = .returned (.bool (ownB s)) /\ Gr w w' := by
 have HC : Hid (∀ w', Calls Tryz.prog 106 #[.agg #[.int .i64 s.k, .string s.a, .int .i64 s.n]] w' fun e w2 => e = .returned (.int .i64 (chkE s.k s.a s.n)) /\ Gr w' w2) := fun w' => actCheck_any s.k s.n s.a w' hs.1
 have HW : Hid (∀ w', Calls Tryz.prog 86 #[.int .i64 s.y, .int .i64 1, .int .i64 5] w' fun e w2 => e = .returned (.bool (decide (1 <= s.y) && decide (s.y <= 5))) /\ w2 = w') := fun w' => within_any s.y 1 5 w'
 have ht := text_eq s.u []
 rw [show (⟨[].toArray⟩ : ByteArray) = ⟨#[]⟩ from rfl] at ht
 have HB : Hid (ownB s = (decide (s.u = ⟨#[]⟩) && actB s.k s.a s.n && decide (s.o = 0) && decide (s.v = 0) && (decide (1 <= s.y) && decide (s.y <= 5)))) := rfl
 have HE : Hid (chkE s.k s.a s.n = if actB s.k s.a s.n = true then 0 else 60) := rfl
 clear hs
 generalize ownB s = OB at *
 generalize (decide (1 <= s.y) && decide (s.y <= 5)) = YB at *
 generalize chkE s.k s.a s.n = CE at *
 generalize actB s.k s.a s.n = AB at *
 by_cases h1 : s.u = ⟨#[]⟩
 ·rw [decide_eq_true h1] at ht HB
  have ht2 : (s.u.toList == []) = true := ht
  clear ht
  cases AB with
  | true =>
   have e2 : CE = 0 := HE.out
   subst e2
   by_cases h3 : s.o = 0
   ·rw [decide_eq_true h3] at HB
    have e3 : (s.o == 0) = true := by simpa using h3
    by_cases h4 : s.v = 0
    ·rw [decide_eq_true h4] at HB
     have e4 : (s.v == 0) = true := by simpa using h4
     have HF : Hid (OB = YB) := HB.out
     clear h1 h3 h4 HB HE
     go_enter Tryz.func87, Tryz.ntmps87
     go_wp2_with fail
     refine (HC.out _).mono ?_
     rintro e w1 ⟨rfl, hg⟩
     obtain ⟨x0, x1, x2, x3, x4, x5, x6⟩ := ((AccAt.new w (.int .i64 s.k) (.string s.a) (.int .i64 s.n) (.int .i64 s.o) (.string s.u) (.int .i64 s.y) (.int .i64 s.v) 94 _ rfl).gr hg).cells
     have xl := ((AccAt.new w (.int .i64 s.k) (.string s.a) (.int .i64 s.n) (.int .i64 s.o) (.string s.u) (.int .i64 s.y) (.int .i64 s.v) 94 _ rfl).gr hg).lt
     have HG1 : Hid (Gr w w1) := (Gr.refl _).alloc.trans hg
     clear hg
     go_wp2_with fail
     refine (HW.out _).mono ?_
     rintro e w2 ⟨rfl, hw⟩; obtain rfl := hw.symm
     go_wp2
     go_ret
     exact ⟨by rw [HF.out]; rfl, HG1.out⟩
    ·rw [decide_eq_false h4] at HB
     have e4 : (s.v == 0) = false := by simpa using h4
     have HF : Hid (OB = false) := HB.out
     clear h1 h3 h4 HB HE
     go_enter Tryz.func87, Tryz.ntmps87
     go_wp2_with fail
     refine (HC.out _).mono ?_
     rintro e w1 ⟨rfl, hg⟩
     obtain ⟨x0, x1, x2, x3, x4, x5, x6⟩ := ((AccAt.new w (.int .i64 s.k) (.string s.a) (.int .i64 s.n) (.int .i64 s.o) (.string s.u) (.int .i64 s.y) (.int .i64 s.v) 94 _ rfl).gr hg).cells
     have xl := ((AccAt.new w (.int .i64 s.k) (.string s.a) (.int .i64 s.n) (.int .i64 s.o) (.string s.u) (.int .i64 s.y) (.int .i64 s.v) 94 _ rfl).gr hg).lt
     have HG1 : Hid (Gr w w1) := (Gr.refl _).alloc.trans hg
     clear hg
     go_wp2
     go_ret
     exact ⟨by rw [HF.out]; rfl, HG1.out⟩
   ·rw [decide_eq_false h3] at HB
    have e3 : (s.o == 0) = false := by simpa using h3
    have HF : Hid (OB = false) := HB.out
    clear h1 h3 HB HE
    go_enter Tryz.func87, Tryz.ntmps87
    go_wp2_with fail
    refine (HC.out _).mono ?_
    rintro e w1 ⟨rfl, hg⟩
    obtain ⟨x0, x1, x2, x3, x4, x5, x6⟩ := ((AccAt.new w (.int .i64 s.k) (.string s.a) (.int .i64 s.n) (.int .i64 s.o) (.string s.u) (.int .i64 s.y) (.int .i64 s.v) 94 _ rfl).gr hg).cells
    have xl := ((AccAt.new w (.int .i64 s.k) (.string s.a) (.int .i64 s.n) (.int .i64 s.o) (.string s.u) (.int .i64 s.y) (.int .i64 s.v) 94 _ rfl).gr hg).lt
    have HG1 : Hid (Gr w w1) := (Gr.refl _).alloc.trans hg
    clear hg
    go_wp2
    go_ret
    exact ⟨by rw [HF.out]; rfl, HG1.out⟩
  | false =>
   have e2 : CE = 60 := HE.out
   subst e2
   have HF : Hid (OB = false) := HB.out
   clear h1 HB HE
   go_enter Tryz.func87, Tryz.ntmps87
   go_wp2_with fail
   refine (HC.out _).mono ?_
   rintro e w1 ⟨rfl, hg⟩
   obtain ⟨x0, x1, x2, x3, x4, x5, x6⟩ := ((AccAt.new w (.int .i64 s.k) (.string s.a) (.int .i64 s.n) (.int .i64 s.o) (.string s.u) (.int .i64 s.y) (.int .i64 s.v) 94 _ rfl).gr hg).cells
   have xl := ((AccAt.new w (.int .i64 s.k) (.string s.a) (.int .i64 s.n) (.int .i64 s.o) (.string s.u) (.int .i64 s.y) (.int .i64 s.v) 94 _ rfl).gr hg).lt
   have HG1 : Hid (Gr w w1) := (Gr.refl _).alloc.trans hg
   clear hg
   go_wp2
   go_ret
   exact ⟨by rw [HF.out]; rfl, HG1.out⟩
 ·rw [decide_eq_false h1] at ht HB
  have ht2 : (s.u.toList == []) = false := ht
  have HF : Hid (OB = false) := HB.out
  clear ht h1 HB HE
  go_enter Tryz.func87, Tryz.ntmps87
  go_wp2
  go_ret
  exact ⟨by rw [HF.out]; rfl, (by repeat(first|exact Gr.r _|refine Gr.a ?_|refine Gr.d ?_|refine Gr.t ?_ (by assumption)))⟩

theorem asks_any (s : Stp) (w : World) (hs : inS s) : Calls Tryz.prog 88 #[.agg #[.int .i64 s.k, .string s.a, .int .i64 s.n, .int .i64 s.o, .string s.u, .int .i64 s.y, .int .i64 s.v]] w fun e w' => e = .returned (.bool (askB s)) /\ Gr w w' := by
 have HN : Hid (∀ w', Calls Tryz.prog 60 #[.string s.u] w' fun e w2 => e = .returned (.bool (nameB s.u)) /\ w2 = w') := fun w' => name_any s.u w' hs.2.1
 have HO : Hid (∀ w', Calls Tryz.prog 86 #[.int .i64 s.o, .int .i64 0, .int .i64 15] w' fun e w2 => e = .returned (.bool (decide (0 <= s.o) && decide (s.o <= 15))) /\ w2 = w') := fun w' => within_any s.o 0 15 w'
 have HV : Hid (∀ w', Calls Tryz.prog 86 #[.int .i64 s.v, .int .i64 1, .int .i64 50] w' fun e w2 => e = .returned (.bool (decide (1 <= s.v) && decide (s.v <= 50))) /\ w2 = w') := fun w' => within_any s.v 1 50 w'
 have ht := text_eq s.a []
 rw [show (⟨[].toArray⟩ : ByteArray) = ⟨#[]⟩ from rfl] at ht
 have HB : Hid (askB s = (nameB s.u && (decide (s.k = 0) && decide (s.a = ⟨#[]⟩) && decide (s.n = 0)) && decide (s.y = 0) && (decide (0 <= s.o) && decide (s.o <= 15)) && (decide (1 <= s.v) && decide (s.v <= 50)))) := rfl
 clear hs
 generalize askB s = OB at *
 generalize (decide (0 <= s.o) && decide (s.o <= 15)) = OR at *
 generalize (decide (1 <= s.v) && decide (s.v <= 50)) = VR at *
 generalize nameB s.u = NB at *
 cases NB with
 | true =>
  by_cases hk : s.k = 0
  ·rw [decide_eq_true hk] at HB
   have ek : (s.k == 0) = true := by simpa using hk
   clear hk
   by_cases ha : s.a = ⟨#[]⟩
   ·rw [decide_eq_true ha] at HB ht
    have ea : (s.a.toList == []) = true := ht
    clear ha ht
    by_cases hn : s.n = 0
    ·rw [decide_eq_true hn] at HB
     have en : (s.n == 0) = true := by simpa using hn
     clear hn
     by_cases hy : s.y = 0
     ·rw [decide_eq_true hy] at HB
      have ey : (s.y == 0) = true := by simpa using hy
      clear hy
      cases OR with
      | true =>
       have HF : Hid (OB = VR) := HB.out
       clear HB
       go_enter Tryz.func88, Tryz.ntmps88
       go_wp2_with fail
       refine (HN.out _).mono ?_
       rintro e w1 ⟨rfl, hw⟩; obtain rfl := hw.symm
       go_wp2_with fail
       refine (HO.out _).mono ?_
       rintro e w1 ⟨rfl, hw⟩; obtain rfl := hw.symm
       go_wp2_with fail
       refine (HV.out _).mono ?_
       rintro e w1 ⟨rfl, hw⟩; obtain rfl := hw.symm
       go_wp2
       go_ret
       exact ⟨by rw [HF.out]; rfl, (by repeat(first|exact Gr.r _|refine Gr.a ?_|refine Gr.d ?_|refine Gr.t ?_ (by assumption)))⟩
      | false =>
       have HF : Hid (OB = false) := HB.out
       clear HB
       go_enter Tryz.func88, Tryz.ntmps88
       go_wp2_with fail
       refine (HN.out _).mono ?_
       rintro e w1 ⟨rfl, hw⟩; obtain rfl := hw.symm
       go_wp2_with fail
       refine (HO.out _).mono ?_
       rintro e w1 ⟨rfl, hw⟩; obtain rfl := hw.symm
       go_wp2
       go_ret
       exact ⟨by rw [HF.out]; rfl, (by repeat(first|exact Gr.r _|refine Gr.a ?_|refine Gr.d ?_|refine Gr.t ?_ (by assumption)))⟩
     ·rw [decide_eq_false hy] at HB
      have ey : (s.y == 0) = false := by simpa using hy
      have HF : Hid (OB = false) := HB.out.trans (by simp)
      clear hy HB
      go_enter Tryz.func88, Tryz.ntmps88
      go_wp2_with fail
      refine (HN.out _).mono ?_
      rintro e w1 ⟨rfl, hw⟩; obtain rfl := hw.symm
      go_wp2
      go_ret
      exact ⟨by rw [HF.out]; rfl, (by repeat(first|exact Gr.r _|refine Gr.a ?_|refine Gr.d ?_|refine Gr.t ?_ (by assumption)))⟩
    ·rw [decide_eq_false hn] at HB
     have en : (s.n == 0) = false := by simpa using hn
     have HF : Hid (OB = false) := HB.out.trans (by simp)
     clear hn HB
     go_enter Tryz.func88, Tryz.ntmps88
     go_wp2_with fail
     refine (HN.out _).mono ?_
     rintro e w1 ⟨rfl, hw⟩; obtain rfl := hw.symm
     go_wp2
     go_ret
     exact ⟨by rw [HF.out]; rfl, (by repeat(first|exact Gr.r _|refine Gr.a ?_|refine Gr.d ?_|refine Gr.t ?_ (by assumption)))⟩
   ·rw [decide_eq_false ha] at HB ht
    have ea : (s.a.toList == []) = false := ht
    have HF : Hid (OB = false) := HB.out.trans (by simp)
    clear ha HB ht
    go_enter Tryz.func88, Tryz.ntmps88
    go_wp2_with fail
    refine (HN.out _).mono ?_
    rintro e w1 ⟨rfl, hw⟩; obtain rfl := hw.symm
    go_wp2
    go_ret
    exact ⟨by rw [HF.out]; rfl, (by repeat(first|exact Gr.r _|refine Gr.a ?_|refine Gr.d ?_|refine Gr.t ?_ (by assumption)))⟩
  ·rw [decide_eq_false hk] at HB
   have ek : (s.k == 0) = false := by simpa using hk
   have HF : Hid (OB = false) := HB.out.trans (by simp)
   clear hk HB ht
   go_enter Tryz.func88, Tryz.ntmps88
   go_wp2_with fail
   refine (HN.out _).mono ?_
   rintro e w1 ⟨rfl, hw⟩; obtain rfl := hw.symm
   go_wp2
   go_ret
   exact ⟨by rw [HF.out]; rfl, (by repeat(first|exact Gr.r _|refine Gr.a ?_|refine Gr.d ?_|refine Gr.t ?_ (by assumption)))⟩
 | false =>
  have HF : Hid (OB = false) := HB.out
  clear HB
  go_enter Tryz.func88, Tryz.ntmps88
  go_wp2_with fail
  refine (HN.out _).mono ?_
  rintro e w1 ⟨rfl, hw⟩; obtain rfl := hw.symm
  go_wp2
  go_ret
  exact ⟨by rw [HF.out]; rfl, (by repeat(first|exact Gr.r _|refine Gr.a ?_|refine Gr.d ?_|refine Gr.t ?_ (by assumption)))⟩
end Go.Proofs.YthaadiclopoamaaGreatDoor
