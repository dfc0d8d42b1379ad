
/- Plain mathematics of wheels, the first part: on which wheel, in which slot a time stands; what turns when the time goes on. -/
import Derived.Test.YtmgiiofjlgchfaaDoorTxO
import Derived.Lib.ItoaNum
import Derived.Lib.TrailingZeros
namespace Go.Proofs.YtmgiiofjlgchfaaDoor.Wh

def dig (a g : Nat) : Nat := a / 32 ^ g % 32
def whl (t a : Nat) : Nat := (Lib.bitLen (a ^^^ t) - 1) / 5
/- the wheel of the lowest digit that is not 0 -/
def low (t : Nat) : Nat := Lib.ctz 64 t / 5
/- when the slot is come to -/
def trn (t a : Nat) : Nat := a / 32 ^ whl t a * 32 ^ whl t a
def In (t a g : Nat) : Prop := a / 32 ^ (g + 1) = t / 32 ^ (g + 1) ∧ a / 32 ^ g ≠ t / 32 ^ g

theorem p32 (g : Nat) : 32 ^ g = 2 ^ (5 * g) := by rw [Nat.pow_mul]
theorem p32_pos (g : Nat) : 0 < 32 ^ g := Nat.pow_pos (by decide)
theorem div_up (a g : Nat) : a / 32 ^ (g + 1) = a / 32 ^ g / 32 := by rw [Nat.pow_succ, Nat.div_div_eq_div_mul]
theorem div_more (a g k : Nat) : a / 32 ^ (g + k) = a / 32 ^ g / 32 ^ k := by rw [Nat.pow_add, Nat.div_div_eq_div_mul]
theorem div_eq_more {a t g h : Nat} (hgh : g ≤ h) (e : a / 32 ^ g = t / 32 ^ g) : a / 32 ^ h = t / 32 ^ h := by
  obtain ⟨k, rfl⟩ : ∃ k, h = g + k := ⟨h - g, by omega⟩
  rw [div_more, div_more, e]
theorem In.one {t a g h : Nat} (hg : In t a g) (hh : In t a h) : g = h := by
  rcases Nat.lt_trichotomy g h with c | c | c
  · exact absurd (div_eq_more (show g + 1 ≤ h from c) hg.1) hh.2
  · exact c
  · exact absurd (div_eq_more (show h + 1 ≤ g from c) hh.1) hg.2
theorem xor_ne {a t : Nat} (h : a ≠ t) : a ^^^ t ≠ 0 := by
  intro e
  apply h
  have := congrArg (· ^^^ t) e
  simpa [Nat.xor_assoc] using this
theorem xor_zero_iff {a t : Nat} : a ^^^ t = 0 ↔ a = t := ⟨fun e => Classical.byContradiction fun h => xor_ne h e, fun e => by rw [e, Nat.xor_self]⟩
theorem whl_in {t a : Nat} (h : a ≠ t) (ha : a < 2 ^ 30) (ht : t < 2 ^ 30) : In t a (whl t a) ∧ whl t a < 6 := by
  have hx := xor_ne h
  have hl : a ^^^ t < 2 ^ 30 := Nat.xor_lt_two_pow ha ht
  have hb : Lib.bitLen (a ^^^ t) ≤ 30 := Lib.bitLen_le _ 30 (by omega) hl
  obtain ⟨b1, b2, b3⟩ := Lib.bitLenAux_bounds 64 (a ^^^ t) (Nat.lt_trans hl (by decide)) hx
  change 1 ≤ Lib.bitLen (a ^^^ t) at b1
  change 2 ^ (Lib.bitLen (a ^^^ t) - 1) ≤ a ^^^ t at b2
  change a ^^^ t < 2 ^ Lib.bitLen (a ^^^ t) at b3
  refine ⟨⟨?_, ?_⟩, by unfold whl; omega⟩
  · rw [p32, ← xor_zero_iff, ← Nat.xor_div_two_pow]
    refine Nat.div_eq_of_lt (Nat.lt_of_lt_of_le b3 (Nat.pow_le_pow_right (by decide) ?_))
    unfold whl; omega
  · intro e
    rw [p32, ← xor_zero_iff, ← Nat.xor_div_two_pow] at e
    have : 2 ^ (5 * whl t a) ≤ a ^^^ t := Nat.le_trans (Nat.pow_le_pow_right (by decide) (by unfold whl; omega)) b2
    have := Nat.div_pos this (Nat.pow_pos (by decide))
    omega
theorem whl_of_in {t a g : Nat} (hi : In t a g) (ha : a < 2 ^ 30) (ht : t < 2 ^ 30) : whl t a = g := by
  have hne : a ≠ t := fun e => by rw [e] at hi; exact hi.2 rfl
  exact (whl_in hne ha ht).1.one hi
theorem dig_lt (a g : Nat) : dig a g < 32 := Nat.mod_lt _ (by decide)
theorem low_spec {t : Nat} (h0 : 0 < t) (h : t < 2 ^ 30) : low t < 6 ∧ 32 ^ low t ∣ t ∧ ¬ 32 ^ (low t + 1) ∣ t := by
  have e : Lib.ctz 64 t = Lib.ctzFrom 64 t := by simp [Lib.ctz]; omega
  obtain ⟨m, hm, hk⟩ := Lib.ctzFrom_spec 64 t h0 (Nat.lt_trans h (by decide))
  unfold low
  rw [e]
  generalize Lib.ctzFrom 64 t = c at hm hk
  have hc : c < 30 := by
    apply Classical.byContradiction
    intro hc
    have h1 : 2 ^ 30 ≤ 2 ^ c := Nat.pow_le_pow_right (by decide) (by omega)
    have h2 : 2 ^ c * 1 ≤ t := by rw [hm]; exact Nat.mul_le_mul_left _ (by omega)
    omega
  refine ⟨by omega, ?_, ?_⟩
  · rw [p32, hm]
    exact Nat.dvd_mul_right_of_dvd (Nat.pow_dvd_pow 2 (by omega)) _
  · intro hd
    rw [p32] at hd
    have h1 : 2 ^ (c + 1) ∣ t := Nat.dvd_trans (Nat.pow_dvd_pow 2 (by omega)) hd
    rw [hm, Nat.pow_succ] at h1
    have := Nat.dvd_of_mul_dvd_mul_left (Nat.pow_pos (by decide)) h1
    omega
theorem dvd_div {t k : Nat} (h : 32 ^ k ∣ t) : t / 32 ^ k * 32 ^ k = t := Nat.div_mul_cancel h
theorem dvd_down {t k j : Nat} (h : 32 ^ k ∣ t) (hj : j ≤ k) : 32 ^ j ∣ t := Nat.dvd_trans (Nat.pow_dvd_pow 32 hj) h
/- a time lies ahead: so does its slot -/
theorem in_lt {t a g : Nat} (hi : In t a g) (h : t < a) : t / 32 ^ g < a / 32 ^ g :=
  Nat.lt_of_le_of_ne (Nat.div_le_div_right (Nat.le_of_lt h)) (fun e => hi.2 e.symm)
theorem lt_of_div {t x g : Nat} (h : t / 32 ^ g < x) : t < x * 32 ^ g := (Nat.div_lt_iff_lt_mul (p32_pos g)).1 h
theorem trn_gt {t a : Nat} (h : t < a) (ha : a < 2 ^ 30) : t < trn t a :=
  lt_of_div (in_lt (whl_in (by omega) ha (by omega)).1 h)
theorem trn_le (t a : Nat) : trn t a ≤ a := Nat.div_mul_le_self _ _
/- the time goes on from t to u, no further than any slot that is not empty: what has not come stays in its place -/
theorem stays {t u a : Nat} (h1 : t < u) (h2 : u ≤ trn t a) (ha : a < 2 ^ 30) (hne : a / 32 ^ whl t a ≠ u / 32 ^ whl t a) : whl u a = whl t a := by
  have hua := Nat.le_trans h2 (trn_le t a)
  have hi := (whl_in (show a ≠ t by omega) ha (by omega)).1
  refine whl_of_in ⟨?_, hne⟩ ha (by omega)
  have h3 : t / 32 ^ (whl t a + 1) ≤ u / 32 ^ (whl t a + 1) := Nat.div_le_div_right (by omega)
  have h4 : u / 32 ^ (whl t a + 1) ≤ a / 32 ^ (whl t a + 1) := Nat.div_le_div_right hua
  have := hi.1
  omega
/- what has come stood in the slot of the new time's lowest digit -/
theorem comes {t u a : Nat} (h1 : t < u) (h2 : u ≤ trn t a) (ha : a < 2 ^ 30) (he : a / 32 ^ whl t a = u / 32 ^ whl t a) : whl t a = low u := by
  have hua := Nat.le_trans h2 (trn_le t a)
  have hi := (whl_in (show a ≠ t by omega) ha (by omega)).1
  obtain ⟨_, l1, l2⟩ := low_spec (t := u) (by omega) (by omega)
  have hd : 32 ^ whl t a ∣ u := by
    have h5 : u / 32 ^ whl t a * 32 ^ whl t a = u := by
      refine Nat.le_antisymm (Nat.div_mul_le_self _ _) ?_
      rw [← he]; exact h2
    exact ⟨u / 32 ^ whl t a, by rw [Nat.mul_comm]; exact h5.symm⟩
  have hnd : ¬ 32 ^ (whl t a + 1) ∣ u := by
    intro hd
    have h5 := dvd_div hd
    have h3 : t / 32 ^ (whl t a + 1) ≤ u / 32 ^ (whl t a + 1) := Nat.div_le_div_right (by omega)
    have h4 : u / 32 ^ (whl t a + 1) ≤ a / 32 ^ (whl t a + 1) := Nat.div_le_div_right hua
    have h6 : u / 32 ^ (whl t a + 1) = t / 32 ^ (whl t a + 1) := by have := hi.1; omega
    rw [h6] at h5
    have := Nat.div_mul_le_self t (32 ^ (whl t a + 1))
    omega
  rcases Nat.lt_trichotomy (whl t a) (low u) with c | c | c
  · exact absurd (dvd_down l1 c) hnd
  · exact c
  · exact absurd (dvd_down hd c) l2
/- in the slot that the time has come to: just what has come -/
theorem slot_iff {t u a : Nat} (h1 : t < u) (h2 : u ≤ trn t a) (ha : a < 2 ^ 30) : (whl t a = low u ∧ dig a (low u) = dig u (low u)) ↔ a / 32 ^ whl t a = u / 32 ^ whl t a := by
  have hua := Nat.le_trans h2 (trn_le t a)
  have hi := (whl_in (show a ≠ t by omega) ha (by omega)).1
  constructor
  · rintro ⟨e1, e2⟩
    rw [e1] at hi ⊢
    have h3 : t / 32 ^ (low u + 1) ≤ u / 32 ^ (low u + 1) := Nat.div_le_div_right (by omega)
    have h4 : u / 32 ^ (low u + 1) ≤ a / 32 ^ (low u + 1) := Nat.div_le_div_right hua
    have h5 := hi.1
    rw [div_up, div_up] at h3 h4 h5
    unfold dig at e2
    omega
  · intro he
    have e := comes h1 h2 ha he
    refine ⟨e, ?_⟩
    unfold dig
    rw [← e, he]
/- a digit that is another one, under those that are the same -/
theorem in_of_dig {u a k : Nat} (h : a / 32 ^ (k + 1) = u / 32 ^ (k + 1)) (hd : dig a k ≠ dig u k) : In u a k :=
  ⟨h, fun e => hd (by unfold dig; rw [e])⟩
theorem eq_of_dig {u a k : Nat} (h : a / 32 ^ (k + 1) = u / 32 ^ (k + 1)) (hd : dig a k = dig u k) : a / 32 ^ k = u / 32 ^ k := by
  rw [div_up, div_up] at h
  unfold dig at hd
  omega
/- the next slot: no timer's slot is come to ahead of it -/
theorem turn_step {t a g r : Nat} (h1 : t < a) (ha : a < 2 ^ 30) (hr : r / 32 = t / 32 ^ (g + 1)) (hge : whl t a = g → r ≤ a / 32 ^ g) (hno : ¬ (whl t a = g ∧ dig a g = r % 32)) : whl t a = g → r + 1 ≤ a / 32 ^ g := by
  intro e
  have hi := (whl_in (show a ≠ t by omega) ha (by omega)).1
  rw [e] at hi
  have h5 := hi.1
  rw [div_up] at h5
  have h6 := hge e
  have h7 : ¬ dig a g = r % 32 := fun x => hno ⟨e, x⟩
  unfold dig at h7
  omega
theorem turn_end {t a g r : Nat} (h1 : t < a) (ha : a < 2 ^ 30) (hr0 : r % 32 = 0) (hr : t / 32 ^ g < r) (hge : whl t a = g → r ≤ a / 32 ^ g) : whl t a ≠ g := by
  intro e
  have hi := (whl_in (show a ≠ t by omega) ha (by omega)).1
  rw [e] at hi
  have h5 := hi.1
  rw [div_up, div_up] at h5
  have h6 := hge e
  omega
theorem turn_hit {t a g r : Nat} (h1 : t < a) (ha : a < 2 ^ 30) (hr : r / 32 = t / 32 ^ (g + 1)) (hw : g ≤ whl t a) (hge : whl t a = g → r ≤ a / 32 ^ g) : r * 32 ^ g ≤ trn t a := by
  have hi := (whl_in (show a ≠ t by omega) ha (by omega)).1
  unfold trn
  by_cases e : whl t a = g
  · rw [e]; exact Nat.mul_le_mul_right _ (hge e)
  · have h3 := in_lt hi h1
    obtain ⟨k, hk⟩ : ∃ k, whl t a = g + 1 + k := ⟨whl t a - g - 1, by omega⟩
    rw [hk] at h3 ⊢
    have h4 : r * 32 ^ g < (r / 32 + 1) * 32 ^ (g + 1) := by
      rw [Nat.pow_succ, Nat.mul_comm (32 ^ g), ← Nat.mul_assoc]
      exact Nat.mul_lt_mul_of_pos_right (by omega) (p32_pos g)
    rw [hr] at h4
    have h5 : t / 32 ^ (g + 1) + 1 ≤ (t / 32 ^ (g + 1 + k) + 1) * 32 ^ k := by
      rw [div_more t (g + 1) k]
      have := Nat.lt_mul_div_succ (t / 32 ^ (g + 1)) (p32_pos k)
      rw [Nat.mul_comm] at this
      exact this
    have h6 : (t / 32 ^ (g + 1) + 1) * 32 ^ (g + 1) ≤ (t / 32 ^ (g + 1 + k) + 1) * 32 ^ k * 32 ^ (g + 1) := Nat.mul_le_mul_right _ h5
    have h7 : (t / 32 ^ (g + 1 + k) + 1) * 32 ^ k * 32 ^ (g + 1) = (t / 32 ^ (g + 1 + k) + 1) * 32 ^ (g + 1 + k) := by
      rw [Nat.mul_assoc, ← Nat.pow_add, Nat.add_comm k]
    have h8 : (t / 32 ^ (g + 1 + k) + 1) * 32 ^ (g + 1 + k) ≤ a / 32 ^ (g + 1 + k) * 32 ^ (g + 1 + k) := Nat.mul_le_mul_right _ h3
    omega
end Go.Proofs.YtmgiiofjlgchfaaDoor.Wh
