/- few: are calls so few, their keys so short? -/
import Derived.Test.YtiakajheoajepaaOpenL
namespace Go.Proofs.Ytiakajheoajepaa
open Go.RowKit

set_option maxHeartbeats 2000000 in
set_option maxRecDepth 100000 in
theorem few_any (T : List Cal) (ad : Option Addr) (cap : Nat) (w : World) (h : CalsAt w ad T) (hn : T.length ≤ 9223372036854775807) :
    Calls Try.prog 26 #[.slice ad T.length cap] w fun e w' => e = .returned (.bool (decide (T.length ≤ 120) && T.all (fun q => decide (q.key.size ≤ 1000)))) ∧ Gr w w' := by
  have H : Hid (CalsAt w ad T) := h
  clear h
  by_cases hlen : (120 : Int) < (T.length : Int)
  · have hd : decide (T.length ≤ 120) = false := decide_eq_false (by omega)
    rw [hd, Bool.false_and]
    go_enter Try.func26, Try.ntmps26
    go_wp2
    go_ret
    exact ⟨rfl, Gr.refl _⟩
  have hd : decide (T.length ≤ 120) = true := decide_eq_true (by omega)
  rw [hd, Bool.true_and]
  clear hd
  go_enter Try.func26, Try.ntmps26
  go_wp2
  go_loopw [3] (fun ix wr => ∃ k : Nat, k ≤ T.length ∧ ix = .int .i64 k ∧ wr = w ∧ ∀ j (h : j < T.length), j < k → T[j].key.size ≤ 1000)
      (fun ix _ => T.length - (intOf ix).toNat)
  case atStart => exact ⟨0, by omega, rfl, rfl, fun j _ hj => absurd hj (by omega)⟩
  case round =>
    obtain ⟨k, hk, rfl, rfl, hall⟩ := hrel
    by_cases hlt : k < T.length
    · obtain ⟨b, off, rfl, hb, c0, c1, c2, c3, c4⟩ := H.out k hlt
      have hki : (k : Int) < (T.length : Int) := by omega
      obtain ⟨t, ht⟩ : ∃ t, T[k] = t := ⟨_, rfl⟩
      rw [ht] at c0 c1 c2 c3 c4
      by_cases hs : (1000 : Int) < (t.key.size : Int)
      · have hno : T.all (fun q => decide (q.key.size ≤ 1000)) = false := by
          rw [List.all_eq_false]
          exact ⟨t, ht ▸ List.getElem_mem hlt, by simp; omega⟩
        have HNo : Hid (T.all (fun q => decide (q.key.size ≤ 1000)) = false) := hno
        clear hno ht hall
        go_wp2
        go_ret
        exact ⟨by rw [HNo.out]; rfl, Gr.refl _⟩
      · have HN : Hid (∀ j (h : j < T.length), j < k + 1 → T[j].key.size ≤ 1000) := fun j h1 h2 => by
          rcases Nat.lt_or_ge j k with h3 | h3
          · exact hall j h1 h3
          · have : j = k := by omega
            subst this; rw [ht]; omega
        clear ht hall
        go_wp2
        exact ⟨⟨k + 1, by omega, by simp, trivial, HN.out⟩, by simp only [intOf]; omega⟩
    · have hki : ¬ (k : Int) < (T.length : Int) := by omega
      have hyes : T.all (fun q => decide (q.key.size ≤ 1000)) = true := by
        rw [List.all_eq_true]
        intro q hq
        obtain ⟨j, hj, rfl⟩ := List.mem_iff_getElem.1 hq
        exact decide_eq_true (hall j hj (by omega))
      have HY : Hid (T.all (fun q => decide (q.key.size ≤ 1000)) = true) := hyes
      clear hyes hall
      go_wp2
      go_ret
      exact ⟨by rw [HY.out]; rfl, Gr.refl _⟩
end Go.Proofs.Ytiakajheoajepaa
