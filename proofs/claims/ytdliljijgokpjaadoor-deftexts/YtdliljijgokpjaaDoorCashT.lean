/- Plain mathematics of the texts of amounts: what is shown, and what is read of it. -/
import Derived.Test.YtdliljijgokpjaaDoorCashM
namespace Go.Proofs.YtdliljijgokpjaaDoor.Csh

def dig (n : Nat) : UInt8 := UInt8.ofNat (48 + n % 10)
def showN (n : Nat) : List UInt8 := Lib.decDigits (n / 100) ++ [46, dig (n / 10), dig n]
def showE (a : Int) : List UInt8 := if a < 0 then 45 :: showN a.natAbs else showN a.natAbs

def stepU (n : Nat) (b : UInt8) : Nat := if (b.toNat + 208) % 256 ≤ 9 then (n * 10 + (b.toNat + 208) % 256) % 18446744073709551616 else n
def readU (l : List UInt8) : Nat := l.foldl stepU 0
def readE (l : List UInt8) : Int := sgn (if l.head? = some 45 then (18446744073709551616 - (readU l : Int)) % 18446744073709551616 else readU l)
def parE (l : List UInt8) : Bool := decide (showE (readE l) = l)

theorem dig_toNat (n : Nat) : (dig n).toNat = 48 + n % 10 := by
  unfold dig; simp; omega
theorem stepU_dig (n m : Nat) : stepU n (dig m) = (n * 10 + m % 10) % 18446744073709551616 := by
  unfold stepU
  rw [dig_toNat, show (48 + m % 10 + 208) % 256 = m % 10 by omega, if_pos (by omega)]
theorem stepU_dot (n : Nat) : stepU n 46 = n := by unfold stepU; rw [if_neg (by decide)]
theorem stepU_minus (n : Nat) : stepU n 45 = n := by unfold stepU; rw [if_neg (by decide)]
theorem stepU_lt (n : Nat) (b : UInt8) (h : n < 18446744073709551616) : stepU n b < 18446744073709551616 := by
  unfold stepU; split <;> omega

theorem dec_snoc (n : Nat) (h : ¬ n < 10) : Lib.decDigits n = Lib.decDigits (n / 10) ++ [dig n] := by
  rw [Lib.decDigits, dif_neg h]; rfl
theorem dec_one (n : Nat) (h : n < 10) : Lib.decDigits n = [dig n] := by
  rw [Lib.decDigits, dif_pos h]; unfold dig; rw [Nat.mod_eq_of_lt h]
theorem read_dec (n : Nat) : (Lib.decDigits n).foldl stepU 0 = n % 18446744073709551616 := by
  induction n using Nat.strongRecOn with
  | ind n ih =>
    by_cases h : n < 10
    · rw [dec_one n h]; simp only [List.foldl_cons, List.foldl_nil]; rw [stepU_dig]; omega
    · rw [dec_snoc n h, List.foldl_append, ih (n / 10) (by omega)]
      simp only [List.foldl_cons, List.foldl_nil]; rw [stepU_dig]; omega
theorem read_showN (n : Nat) (h : n < 18446744073709551616) : readU (showN n) = n := by
  unfold readU showN
  rw [List.foldl_append, read_dec]
  simp only [List.foldl_cons, List.foldl_nil]
  have e := Nat.div_div_eq_div_mul n 10 10
  rw [stepU_dot, stepU_dig, stepU_dig]; omega
theorem dec_head (n : Nat) : ∃ m l, Lib.decDigits n = dig m :: l := by
  induction n using Nat.strongRecOn with
  | ind n ih =>
    by_cases h : n < 10
    · exact ⟨n, [], dec_one n h⟩
    · obtain ⟨m, l, e⟩ := ih (n / 10) (by omega)
      exact ⟨m, l ++ [dig n], by rw [dec_snoc n h, e]; rfl⟩
theorem dig_ne (n : Nat) : dig n ≠ 45 ∧ dig n ≠ 46 := by
  constructor <;> (intro e; have := congrArg UInt8.toNat e; rw [dig_toNat] at this; simp at this; omega)
theorem read_show (a : Int) (h0 : -9223372036854775808 ≤ a) (h1 : a ≤ 9223372036854775807) : readE (showE a) = a := by
  unfold readE showE
  by_cases h : a < 0
  · rw [if_pos h]
    have e : readU (45 :: showN a.natAbs) = a.natAbs := by
      have := read_showN a.natAbs (by omega)
      unfold readU at this ⊢
      rw [List.foldl_cons, stepU_minus, this]
    rw [e, List.head?_cons, if_pos rfl]
    unfold sgn; omega
  · rw [if_neg h, read_showN _ (by omega)]
    have : (showN a.natAbs).head? ≠ some 45 := by
      obtain ⟨m, l, e⟩ := dec_head (a.natAbs / 100)
      unfold showN
      rw [e, List.cons_append, List.head?_cons]
      exact fun x => (dig_ne m).1 (Option.some.inj x)
    rw [if_neg this]
    unfold sgn; omega
theorem par_show (a : Int) (h0 : -9223372036854775808 ≤ a) (h1 : a ≤ 9223372036854775807) : parE (showE a) = true := by
  unfold parE; rw [read_show a h0 h1]; simp
theorem sgn_rng (n : Int) : -9223372036854775808 ≤ sgn n ∧ sgn n ≤ 9223372036854775807 := by unfold sgn; omega
theorem readE_rng (l : List UInt8) : -9223372036854775808 ≤ readE l ∧ readE l ≤ 9223372036854775807 := sgn_rng _
theorem readU_lt (l : List UInt8) : readU l < 18446744073709551616 := by
  unfold readU
  have : ∀ (l : List UInt8) (n : Nat), n < 18446744073709551616 → l.foldl stepU n < 18446744073709551616 := by
    intro l
    induction l with
    | nil => intro n h; exact h
    | cons b l ih => intro n h; exact ih _ (stepU_lt n b h)
  exact this l 0 (by omega)
theorem readU_more (l : List UInt8) (k : Nat) (h : k < l.length) : readU (l.take (k + 1)) = stepU (readU (l.take k)) l[k] := by
  unfold readU; rw [List.take_succ_eq_append_getElem h, List.foldl_append]; rfl

/- lengths -/
theorem dec_len (n : Nat) (k : Nat) (h : n < 10 ^ (k + 1)) : (Lib.decDigits n).length ≤ k + 1 := by
  induction k generalizing n with
  | zero => rw [dec_one n (by simpa using h)]; simp
  | succ k ih =>
    by_cases h9 : n < 10
    · rw [dec_one n h9]; simp
    · have := ih (n / 10) (by rw [Nat.div_lt_iff_lt_mul (by omega)]; rw [Nat.pow_succ] at h; exact h)
      rw [dec_snoc n h9]; simp; omega
theorem dec_pos (n : Nat) : 1 ≤ (Lib.decDigits n).length := by
  obtain ⟨m, l, e⟩ := dec_head n; rw [e]; simp
theorem showN_len (n : Nat) (h : n ≤ 9223372036854775808) : 4 ≤ (showN n).length ∧ (showN n).length ≤ 20 := by
  have h1 := dec_len (n / 100) 16 (by omega)
  have h2 := dec_pos (n / 100)
  unfold showN
  simp; omega
theorem show_len (a : Int) (h0 : -9223372036854775808 ≤ a) (h1 : a ≤ 9223372036854775807) : 4 ≤ (showE a).length ∧ (showE a).length ≤ 21 := by
  have := showN_len a.natAbs (by omega)
  unfold showE
  split
  · rw [List.length_cons]; omega
  · omega

/- the document's way of reading -/
def stepR (n : Int) (b : UInt8) : Option Int :=
  if b = 46 then some n else if (b.toNat : Int) - 48 < 0 ∨ (b.toNat : Int) - 48 > 9 ∨ n < -922337203685477580 ∨ (n = -922337203685477580 ∧ (b.toNat : Int) - 48 > 8) then none else some (10 * n - ((b.toNat : Int) - 48))
def readR : Int → List UInt8 → Option Int
  | n, [] => some n
  | n, b :: l => match stepR n b with
    | none => none
    | some m => readR m l
theorem readR_cons (n : Int) (b : UInt8) (l : List UInt8) : readR n (b :: l) = match stepR n b with | none => none | some m => readR m l := rfl
theorem readR_append (l m : List UInt8) (n x : Int) (h : readR n l = some x) : readR n (l ++ m) = readR x m := by
  induction l generalizing n with
  | nil => simp [readR] at h; subst h; rfl
  | cons b l ih =>
    rw [List.cons_append, readR_cons]
    rw [readR_cons] at h
    cases hs : stepR n b with
    | none => rw [hs] at h; cases h
    | some y => rw [hs] at h; exact ih y h
theorem stepR_dig (n : Nat) (m : Nat) (h : n * 10 + m % 10 ≤ 9223372036854775808) : stepR (-(n : Int)) (dig m) = some (-((n * 10 + m % 10 : Nat) : Int)) := by
  unfold stepR
  rw [if_neg (dig_ne m).2, dig_toNat, if_neg (by omega)]
  congr 1; omega
theorem readR_dec (n : Nat) (h : n ≤ 9223372036854775808) : readR 0 (Lib.decDigits n) = some (-(n : Int)) := by
  induction n using Nat.strongRecOn with
  | ind n ih =>
    by_cases h9 : n < 10
    · have := stepR_dig 0 n (by omega)
      rw [dec_one n h9]
      unfold readR
      simp only [Int.ofNat_zero, Int.neg_zero] at this
      rw [this]
      unfold readR
      simp only; congr 2; omega
    · rw [dec_snoc n h9, readR_append _ _ _ _ (ih (n / 10) (by omega) (by omega))]
      unfold readR
      rw [stepR_dig (n / 10) n (by omega)]
      unfold readR
      simp only; congr 2; omega
theorem readR_showN (n : Nat) (h : n ≤ 9223372036854775808) : readR 0 (showN n) = some (-(n : Int)) := by
  unfold showN
  rw [readR_append _ _ _ _ (readR_dec (n / 100) (by omega))]
  have e := Nat.div_div_eq_div_mul n 10 10
  unfold readR
  have e1 : stepR (-((n / 100 : Nat) : Int)) 46 = some (-((n / 100 : Nat) : Int)) := by unfold stepR; rw [if_pos rfl]
  rw [e1]
  unfold readR
  simp only
  rw [stepR_dig (n / 100) (n / 10) (by omega)]
  unfold readR
  simp only
  rw [stepR_dig _ n (by omega)]
  unfold readR
  simp only; congr 2; omega
theorem stepR_rng (n m : Int) (b : UInt8) (h : stepR n b = some m) (h0 : -9223372036854775808 ≤ n) (h1 : n ≤ 0) : -9223372036854775808 ≤ m ∧ m ≤ 0 := by
  unfold stepR at h
  split at h
  · cases h; exact ⟨h0, h1⟩
  · split at h
    · cases h
    · next h9 => cases h; omega
def bodyR (l : List UInt8) : List UInt8 := if l.head? = some 45 then l.tail else l
def lastR (l : List UInt8) (c : Int) : Option Int := if showE c = l then some c else none
def refE (l : List UInt8) : Option Int :=
  if l.length < 4 ∨ l.length > 21 then none else match readR 0 (bodyR l) with
    | none => none
    | some n => if l.head? = some 45 then lastR l n else if n < -9223372036854775807 then none else lastR l (-n)
theorem par_rng (l : List UInt8) (h : parE l = false) (c : Int) (h0 : -9223372036854775808 ≤ c) (h1 : c ≤ 9223372036854775807) : showE c ≠ l := by
  intro e
  have := par_show c h0 h1
  rw [e, h] at this
  cases this
theorem readR_rng (l : List UInt8) (n m : Int) (h : readR n l = some m) (h0 : -9223372036854775808 ≤ n) (h1 : n ≤ 0) : -9223372036854775808 ≤ m ∧ m ≤ 0 := by
  induction l generalizing n with
  | nil => simp [readR] at h; subst h; exact ⟨h0, h1⟩
  | cons b l ih =>
    rw [readR_cons] at h
    cases hs : stepR n b with
    | none => rw [hs] at h; cases h
    | some y =>
      rw [hs] at h
      have := stepR_rng n y b hs h0 h1
      exact ih y h this.1 this.2
theorem ref_par (l : List UInt8) : refE l = if parE l = true then some (readE l) else none := by
  by_cases hp : parE l = true
  · rw [if_pos hp]
    have hr := readE_rng l
    have hs : showE (readE l) = l := by simpa [parE] using hp
    generalize readE l = a at *
    have hl := show_len a hr.1 hr.2
    subst hs
    unfold refE
    rw [if_neg (by omega)]
    unfold bodyR
    by_cases h : a < 0
    · have e : showE a = 45 :: showN a.natAbs := by unfold showE; rw [if_pos h]
      have e2 : (showE a).head? = some 45 := by rw [e]; rfl
      have e3 : (showE a).tail = showN a.natAbs := by rw [e]; rfl
      rw [if_pos e2, e3, readR_showN _ (by omega)]
      simp only
      rw [if_pos e2, show -(a.natAbs : Int) = a by omega]
      unfold lastR; rw [if_pos rfl]
    · have e : showE a = showN a.natAbs := by unfold showE; rw [if_neg h]
      have e2 : ¬ (showE a).head? = some 45 := by
        obtain ⟨m, l, e4⟩ := dec_head (a.natAbs / 100)
        rw [e]; unfold showN
        rw [e4, List.cons_append, List.head?_cons]
        exact fun x => (dig_ne m).1 (Option.some.inj x)
      rw [if_neg e2]
      have e5 : readR 0 (showE a) = some (-(a.natAbs : Int)) := by rw [e]; exact readR_showN _ (by omega)
      rw [e5]
      simp only
      rw [if_neg e2, if_neg (by omega), show - -(a.natAbs : Int) = a by omega]
      unfold lastR; rw [if_pos rfl]
  · rw [if_neg hp]
    have hp' : parE l = false := by simpa using hp
    unfold refE
    split
    · rfl
    · cases hm : readR 0 (bodyR l) with
      | none => rfl
      | some n =>
        have hn := readR_rng _ _ _ hm (by omega) (by omega)
        simp only
        split
        · unfold lastR; rw [if_neg (par_rng l hp' n (by omega) (by omega))]
        · split
          · rfl
          · unfold lastR; rw [if_neg (par_rng l hp' (-n) (by omega) (by omega))]
end Go.Proofs.YtdliljijgokpjaaDoor.Csh
