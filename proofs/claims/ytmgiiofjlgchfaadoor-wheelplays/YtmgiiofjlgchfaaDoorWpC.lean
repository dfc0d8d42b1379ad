
/- The document's wheel: Set, where it is refused; Tick and Skip. -/
import Derived.Test.YtmgiiofjlgchfaaDoorWpB
import Derived.BigQuiet
namespace Go.Proofs.YtmgiiofjlgchfaaDoor
open Go.RowKit Go.Maps Go.Sort
open Wh (Tm Sl ks hasK atK del ins put dig whl Inv tlt Up trn upto past)

theorem tw_lt {α : Type} {f : α → Bool} : ∀ {L : List α} {j : Nat} (_ : j < (L.takeWhile f).length) (h2 : j < L.length), f L[j] = true
  | [], _, h, _ => by simp at h
  | x :: L, j, h, h2 => by
    rw [List.takeWhile_cons] at h
    split at h
    · rename_i hx
      cases j with
      | zero => exact hx
      | succ j => exact tw_lt (L := L) (by simpa using h) (by simpa using h2)
    · simp at h
theorem tw_at {α : Type} {f : α → Bool} : ∀ {L : List α} (h2 : (L.takeWhile f).length < L.length), f L[(L.takeWhile f).length] = false
  | [], h => by simp at h
  | x :: L, h2 => by
    by_cases hx : f x = true
    · have e : (List.takeWhile f (x :: L)) = x :: L.takeWhile f := by rw [List.takeWhile_cons, if_pos hx]
      have h3 : (L.takeWhile f).length < L.length := by rw [e] at h2; simpa using h2
      have := tw_at h3
      simp only [e, List.length_cons, List.getElem_cons_succ]
      exact this
    · have e : (List.takeWhile f (x :: L)) = [] := by rw [List.takeWhile_cons, if_neg hx]
      simp only [e, List.length_nil, List.getElem_cons_zero]
      simpa using hx
theorem upto_tw {L : List Tm} (hu : Up L) (x : Nat) : upto L x = L.takeWhile (fun y => decide (y.2 ≤ x)) ∧ past L x = L.dropWhile (fun y => decide (y.2 ≤ x)) := by
  induction L with
  | nil => exact ⟨rfl, rfl⟩
  | cons z L ih =>
    obtain ⟨h1, h2⟩ := List.pairwise_cons.1 hu
    obtain ⟨i1, i2⟩ := ih h2
    by_cases c : z.2 ≤ x
    · have c' : ¬ x < z.2 := by omega
      constructor
      · unfold upto at i1 ⊢
        rw [List.filter_cons, if_pos (by simpa using c), List.takeWhile_cons, if_pos (by simpa using c), i1]
      · unfold past at i2 ⊢
        rw [List.filter_cons, if_neg (by simpa using c), List.dropWhile_cons, if_pos (by simpa using c), i2]
    · have c' : x < z.2 := by omega
      have hall : ∀ y ∈ L, x < y.2 := fun y hy => by have := Wh.tlt_le (h1 y hy); omega
      constructor
      · unfold upto
        rw [List.filter_cons, if_neg (by simpa using c), List.takeWhile_cons, if_neg (by simpa using c), List.filter_eq_nil_iff]
        intro y hy
        have := hall y hy
        simp; omega
      · unfold past
        rw [List.filter_cons, if_pos (by simpa using c'), List.dropWhile_cons, if_neg (by simpa using c)]
        congr 1
        rw [List.filter_eq_self]
        intro y hy
        simpa using hall y hy
set_option maxHeartbeats 2000000 in
theorem rset_arg {w : World} {r : Nat} (k : ByteArray) (a : Int) (hbad : k.size < 1 ∨ 100 < k.size ∨ 1000000000 < a) :
    Calls Tryd.prog 13 #[ptr r, .string k, .int .i64 a] w fun e w' => e = .returned (.int .i64 2) ∧ w' = w := by
  by_cases h0 : (k.size : Int) < 1
  · go_enter Tryd.func13, Tryd.ntmps13
    go_wp2
    go_ret
    exact ⟨rfl, rfl⟩
  · by_cases h1 : (100 : Int) < (k.size : Int)
    · go_enter Tryd.func13, Tryd.ntmps13
      go_wp2
      go_ret
      exact ⟨rfl, rfl⟩
    · have h2 : 1000000000 < a := by omega
      go_enter Tryd.func13, Tryd.ntmps13
      go_wp2
      go_ret
      exact ⟨rfl, rfl⟩
set_option maxHeartbeats 2000000 in
theorem rset_time {w : World} {r t : Nat} {ad : Option Addr} {cap : Nat} {L : List Tm} (h : RfAt w r t ad cap L) (k : ByteArray) (a : Int) (h1 : ¬ k.size < 1) (h2 : ¬ 100 < k.size) (h3 : ¬ 1000000000 < a) (h4 : a ≤ (t : Int)) :
    Calls Tryd.prog 13 #[ptr r, .string k, .int .i64 a] w fun e w' => e = .returned (.int .i64 110) ∧ w' = w := by
  have h1' : ¬ (k.size : Int) < 1 := by omega
  have h2' : ¬ (100 : Int) < (k.size : Int) := by omega
  have hc := h.now
  clear h
  go_enter Tryd.func13, Tryd.ntmps13
  go_wp2
  go_ret
  exact ⟨rfl, rfl⟩
set_option maxHeartbeats 2000000 in
theorem rset_big {w : World} {r t : Nat} {ad : Option Addr} {cap : Nat} {L : List Tm} (h : RfAt w r t ad cap L) (k : ByteArray) (a : Int) (h1 : ¬ k.size < 1) (h2 : ¬ 100 < k.size) (h3 : ¬ 1000000000 < a) (h4 : ¬ a ≤ (t : Int)) (h5 : hasK L k = false) (h6 : 200 ≤ L.length) :
    Calls Tryd.prog 13 #[ptr r, .string k, .int .i64 a] w fun e w' => e = .returned (.int .i64 3) ∧ w' = w := by
  have h1' : ¬ (k.size : Int) < 1 := by omega
  have h2' : ¬ (100 : Int) < (k.size : Int) := by omega
  have h6' : (200 : Int) ≤ (L.length : Int) := by omega
  have HA := Lib.hid (rat_any h k)
  rw [h5] at HA
  have hc := h.now
  have hc1 := h.lst
  generalize (atK L k : Int) = z at *
  clear h
  go_enter Tryd.func13, Tryd.ntmps13
  go_wp2_with (go_at_call 22; refine HA.out.mono ?_; rintro e w' ⟨rfl, hw⟩; obtain rfl := hw.symm; clear hw)
  go_ret
  exact ⟨rfl, rfl⟩
theorem rtick_end {w : World} {r t : Nat} {ad : Option Addr} {cap : Nat} {L : List Tm} (h : RfAt w r t ad cap L) (ht : t = 1000000000) :
    Calls Tryd.prog 18 #[ptr r] w fun e w' => e = .returned (.slice none 0 0) ∧ w' = w := by
  have hc := h.now
  subst ht
  clear h
  go_enter Tryd.func18, Tryd.ntmps18
  go_wp2
  go_ret
  exact ⟨rfl, rfl⟩
theorem rskip_arg {w : World} {r : Nat} (n : Int) (hn : n < 0 ∨ 100000 < n) :
    Calls Tryd.prog 20 #[ptr r, .int .i64 n] w fun e w' => e = .returned (.tuple #[.slice none 0 0, .int .i64 2]) ∧ w' = w := by
  by_cases h0 : n < 0
  · go_enter Tryd.func20, Tryd.ntmps20
    go_wp2
    go_ret2
    exact ⟨rfl, rfl⟩
  · have h1 : 100000 < n := by omega
    go_enter Tryd.func20, Tryd.ntmps20
    go_wp2
    go_ret2
    exact ⟨rfl, rfl⟩
end Go.Proofs.YtmgiiofjlgchfaaDoor
