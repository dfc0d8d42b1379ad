/- The document's Account, Mark and key. -/
import Derived.Test.YtjkaegpgjphlcaaLedQ
import Derived.Test.YtjkaegpgjphlcaaLedX
namespace Go.Proofs.Ytjkaegpgjphlcaa
open Go.RowKit
open Led (Acc Mk)

/- the first of a text in a row; -1: there is none -/
def firstN (L : List ByteArray) (s : ByteArray) : Nat := (L.takeWhile (fun x => !decide (x = s))).length
def firstI (L : List ByteArray) (s : ByteArray) : Int := if Led.hasB L s = true then (firstN L s : Int) else -1
theorem first_at : ∀ (L : List ByteArray) (s : ByteArray) (k : Nat) (h : k < L.length), L[k] = s → (∀ j (hj : j < L.length), j < k → L[j] ≠ s) → firstN L s = k
  | [], _, _, h, _, _ => by simp at h
  | x :: t, s, 0, _, e, _ => by
    unfold firstN
    simp at e
    simp [e]
  | x :: t, s, k + 1, h, e, hb => by
    have h0 := hb 0 (by simp) (by omega)
    simp at h0 e
    have := first_at t s k (by simpa using h) e (fun j hj hk => by have := hb (j + 1) (by simpa using hj) (by omega); simpa using this)
    unfold firstN at this ⊢
    simp [h0, this]
theorem first_yes {L : List ByteArray} {s : ByteArray} {k : Nat} (h : k < L.length) (e : L[k] = s) (hb : ∀ j (hj : j < L.length), j < k → L[j] ≠ s) : firstI L s = k := by
  unfold firstI
  rw [if_pos ((Led.has_iff L s).2 (by rw [← e]; exact List.getElem_mem h)), first_at L s k h e hb]
theorem first_no {L : List ByteArray} {s : ByteArray} (hb : ∀ j (hj : j < L.length), L[j] ≠ s) : firstI L s = -1 := by
  unfold firstI
  rw [if_neg]
  intro h
  obtain ⟨j, hj, e⟩ := List.mem_iff_getElem.1 ((Led.has_iff L s).1 h)
  exact hb j hj e
/- in a row that rises it is the place -/
theorem first_pos {L : List ByteArray} {s : ByteArray} (hu : Led.upB L = true) (hm : Led.hasB L s = true) : firstI L s = (Led.pos L s : Nat) := by
  obtain ⟨h, e⟩ := Led.pos_mem hu ((Led.has_iff L s).1 hm)
  exact first_yes h e fun j hj hk e2 => by have := Led.up_one hu hj h (e2.trans e.symm); omega
theorem first_neg {L : List ByteArray} {s : ByteArray} (hm : Led.hasB L s = false) : firstI L s = -1 := by unfold firstI; rw [hm]; rfl
theorem first_sign (L : List ByteArray) (s : ByteArray) : (firstI L s < 0 ↔ Led.hasB L s = false) := by
  cases h : Led.hasB L s with
  | true => unfold firstI; rw [h, if_pos rfl]; constructor
            · intro h2; omega
            · intro h2; cases h2
  | false => rw [first_neg h]; simp

theorem refKey_any (s : ByteArray) (w : World) (hs : s.size ≤ 9223372036854775807) : Calls Try.prog 43 #[.string s] w fun e w' => e = .returned (.bool (Led.keyB s)) ∧ w' = w := by
  unfold Led.keyB
  by_cases h1 : 0 < s.size
  · have h3 : (1 : Int) ≤ (s.size : Int) := by omega
    rw [decide_eq_true h1]
    by_cases h2 : s.size ≤ 100
    · have h4 : (s.size : Int) ≤ 100 := by omega
      rw [decide_eq_true h2]
      clear h1 h2
      go_enter Try.func43, Try.ntmps43
      go_wp2
      go_ret
      exact ⟨rfl, rfl⟩
    · have h4 : ¬ (s.size : Int) ≤ 100 := by omega
      rw [decide_eq_false h2]
      clear h1 h2
      go_enter Try.func43, Try.ntmps43
      go_wp2
      go_ret
      exact ⟨rfl, rfl⟩
  · have h3 : ¬ (1 : Int) ≤ (s.size : Int) := by omega
    rw [decide_eq_false h1, Bool.false_and]
    clear h1
    go_enter Try.func43, Try.ntmps43
    go_wp2
    go_ret
    exact ⟨rfl, rfl⟩

set_option maxHeartbeats 2000000 in
set_option maxRecDepth 100000 in
theorem refAcc_any (A : List Acc) (M : List Mk) (s : ByteArray) (adA : Option Addr) (capA : Nat) (adM : Option Addr) (capM : Nat) (w : World) (h : AccsAt w adA A) (hn : A.length ≤ 9223372036854775807) :
    Calls Try.prog 32 #[.agg #[.slice adA A.length capA, .slice adM M.length capM], .string s] w fun e w' => e = .returned (.int .i64 (firstI (Led.nm A) s)) ∧ Gr w w' := by
  have H : Hid (AccsAt w adA A) := h
  clear h
  go_enter Try.func32, Try.ntmps32
  go_wp2
  go_loopw [5] (fun ix wr => ∃ k : Nat, k ≤ A.length ∧ ix = .int .i64 k ∧ TwoAt wr w.heap.size (.slice adA A.length capA) (.slice adM M.length capM) ∧ Gr w wr ∧ ∀ j (h : j < (Led.nm A).length), j < k → (Led.nm A)[j] ≠ s)
      (fun ix _ => A.length - (intOf ix).toNat)
  case atStart => exact ⟨0, by omega, rfl, TwoAt.new w _ _ _ _ rfl, (Gr.refl _).alloc, fun j _ hj => absurd hj (by omega)⟩
  case round =>
    obtain ⟨k, hk, rfl, hbx, hg, hall⟩ := hrel
    have HB : Hid (TwoAt wr w.heap.size (.slice adA A.length capA) (.slice adM M.length capM)) := hbx
    have HG : Hid (Gr w wr) := hg
    have HL : Hid (∀ j (h : j < (Led.nm A).length), j < k → (Led.nm A)[j] ≠ s) := hall
    obtain ⟨b0, b1, _, _, bl⟩ := hbx
    clear hg hall
    by_cases hlt : k < A.length
    · obtain ⟨b, off, rfl, hb, c0, c1, c2, c3, c4, c5, c6⟩ := AccsAt.at H.out k hlt
      have hki : (k : Int) < (A.length : Int) := by omega
      have e0 := HG.out.keep c0
      have hbw : b < wr.heap.size := Nat.lt_of_lt_of_le hb HG.out.size
      have hkn : k < (Led.nm A).length := by rw [Led.nm_len]; exact hlt
      have hnk : (Led.nm A)[k] = A[k].s := Led.nm_get A k hlt
      generalize A[k].s = x at e0 hnk
      clear c0 c1 c2 c3 c4 c5 c6 hb
      by_cases he : x = s
      · subst he
        have HR : Hid (firstI (Led.nm A) x = k) := first_yes hkn hnk HL.out
        clear hnk
        go_wp2
        go_ret
        exact ⟨by rw [HR.out]; rfl, HG.out⟩
      · have hne := neB he
        have HN : Hid (∀ j (h : j < (Led.nm A).length), j < k + 1 → (Led.nm A)[j] ≠ s) := fun j h1 h2 => by
          rcases Nat.lt_or_ge j k with h3 | h3
          · exact HL.out j h1 h3
          · have : j = k := by omega
            subst this; rw [hnk]; exact he
        clear hnk he
        go_wp2
        go_roundw
        case rel => exact ⟨k + 1, by omega, by go_num, HB.out, HG.out, HN.out⟩
        case measure => simp [intOf]; omega
    · have hki : ¬ (k : Int) < (A.length : Int) := by omega
      have HR : Hid (firstI (Led.nm A) s = -1) := first_no fun j hj => HL.out j hj (by rw [Led.nm_len] at hj; omega)
      go_wp2
      go_ret
      exact ⟨by rw [HR.out]; rfl, HG.out⟩

set_option maxHeartbeats 2000000 in
set_option maxRecDepth 100000 in
theorem refMk_any (A : List Acc) (M : List Mk) (s : ByteArray) (adA : Option Addr) (capA : Nat) (adM : Option Addr) (capM : Nat) (w : World) (h : MksAt w adM M) (hn : M.length ≤ 9223372036854775807) :
    Calls Try.prog 48 #[.agg #[.slice adA A.length capA, .slice adM M.length capM], .string s] w fun e w' => e = .returned (.int .i64 (firstI (Led.ky M) s)) ∧ Gr w w' := by
  have H : Hid (MksAt w adM M) := h
  clear h
  go_enter Try.func48, Try.ntmps48
  go_wp2
  go_loopw [5] (fun ix wr => ∃ k : Nat, k ≤ M.length ∧ ix = .int .i64 k ∧ TwoAt wr w.heap.size (.slice adA A.length capA) (.slice adM M.length capM) ∧ Gr w wr ∧ ∀ j (h : j < (Led.ky M).length), j < k → (Led.ky M)[j] ≠ s)
      (fun ix _ => M.length - (intOf ix).toNat)
  case atStart => exact ⟨0, by omega, rfl, TwoAt.new w _ _ _ _ rfl, (Gr.refl _).alloc, fun j _ hj => absurd hj (by omega)⟩
  case round =>
    obtain ⟨k, hk, rfl, hbx, hg, hall⟩ := hrel
    have HB : Hid (TwoAt wr w.heap.size (.slice adA A.length capA) (.slice adM M.length capM)) := hbx
    have HG : Hid (Gr w wr) := hg
    have HL : Hid (∀ j (h : j < (Led.ky M).length), j < k → (Led.ky M)[j] ≠ s) := hall
    obtain ⟨b0, b1, _, _, bl⟩ := hbx
    clear hg hall
    by_cases hlt : k < M.length
    · obtain ⟨b, off, rfl, hb, c0, c1, c2, c3, c4⟩ := MksAt.at H.out k hlt
      have hki : (k : Int) < (M.length : Int) := by omega
      have e0 := HG.out.keep c0
      have hbw : b < wr.heap.size := Nat.lt_of_lt_of_le hb HG.out.size
      have hkn : k < (Led.ky M).length := by rw [Led.ky_len]; exact hlt
      have hnk : (Led.ky M)[k] = M[k].key := Led.ky_get M k hlt
      generalize M[k].key = x at e0 hnk
      clear c0 c1 c2 c3 c4 hb
      by_cases he : x = s
      · subst he
        have HR : Hid (firstI (Led.ky M) x = k) := first_yes hkn hnk HL.out
        clear hnk
        go_wp2
        go_ret
        exact ⟨by rw [HR.out]; rfl, HG.out⟩
      · have hne := neB he
        have HN : Hid (∀ j (h : j < (Led.ky M).length), j < k + 1 → (Led.ky M)[j] ≠ s) := fun j h1 h2 => by
          rcases Nat.lt_or_ge j k with h3 | h3
          · exact HL.out j h1 h3
          · have : j = k := by omega
            subst this; rw [hnk]; exact he
        clear hnk he
        go_wp2
        go_roundw
        case rel => exact ⟨k + 1, by omega, by go_num, HB.out, HG.out, HN.out⟩
        case measure => simp [intOf]; omega
    · have hki : ¬ (k : Int) < (M.length : Int) := by omega
      have HR : Hid (firstI (Led.ky M) s = -1) := first_no fun j hj => HL.out j hj (by rw [Led.ky_len] at hj; omega)
      go_wp2
      go_ret
      exact ⟨by rw [HR.out]; rfl, HG.out⟩
end Go.Proofs.Ytjkaegpgjphlcaa
