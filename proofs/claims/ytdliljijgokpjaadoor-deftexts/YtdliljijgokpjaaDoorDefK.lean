/- def: kinds, kindWord. -/
import Derived.Test.YtdliljijgokpjaaDoorDefA
import Derived.StringKeys
import Derived.Sort.KeysCollected
namespace Go.Proofs.YtdliljijgokpjaaDoor
open Go.RowKit Go.Maps
open Df (kw wk)

theorem strLaw : Keyed Tryd.prog 9 := string_keyed Tryd.underlying9
theorem zeroInt (w : World) : (zeroValue 3).run Tryd.prog w = .ok (.int .i64 0) w := by kernel_rfl
theorem key_any (s : ByteArray) (h : s.size ≤ 9223372036854775807) : keyOf Tryd.prog 9 (.string s) = some (ks s) := WideMaps.keyOf_string_mk Tryd.underlying9 (by unfold maxLen; omega)

set_option maxHeartbeats 1000000 in
theorem kinds_any (w : World) : Calls Tryd.prog 34 #[] w fun e w' => e = .returned (.map (some w.heap.size)) ∧ MapK w' w.heap.size ∧ Gr w w' := by
  have hmm := @run_makeMap Tryd.prog
  have h0 := World.ownsMap_made w Tryd.prog 9 (plainElem (H := Unit) Tryd.prog 3)
  have hv : ∀ n : Int, 1 ≤ n → n ≤ 4 → plainElem (H := Unit) Tryd.prog 3 (.int .i64 n) = some (.lit (.int .i64 n), []) := fun n h1 h2 => plainElem_int Tryd.underlying3 (WalkArith.wf_i64 (by omega))
  obtain ⟨w1, r1, o1, g1⟩ := h0.update strLaw Tryd.underlying60 (by unfold maxLen; omega) (key_any Df.wDebit (by decide)) (hv 1 (by omega) (by omega))
  obtain ⟨w2, r2, o2, g2⟩ := o1.update strLaw Tryd.underlying60 (by unfold maxLen; omega) (key_any Df.wCredit (by decide)) (hv 2 (by omega) (by omega))
  obtain ⟨w3, r3, o3, g3⟩ := o2.update strLaw Tryd.underlying60 (by unfold maxLen; omega) (key_any Df.wReserve (by decide)) (hv 3 (by omega) (by omega))
  obtain ⟨w4, r4, o4, g4⟩ := o3.update strLaw Tryd.underlying60 (by unfold maxLen; omega) (key_any Df.wRelease (by decide)) (hv 4 (by omega) (by omega))
  have HO : Hid (MapK w4 w.heap.size) := o4
  have HG : Hid (Gr w w4) := by
    have a1 : GB w.heap.size (w.alloc (.map #[] 0)) w1 := ⟨g1⟩
    have a2 : GB w.heap.size w1 w2 := ⟨g2⟩
    have a3 : GB w.heap.size w2 w3 := ⟨g3⟩
    have a4 : GB w.heap.size w3 w4 := ⟨g4⟩
    exact Gr.gb (Gr.refl w).alloc (((a1.trans a2).trans a3).trans a4) (Nat.le_refl _)
  unfold Df.wDebit at r1
  unfold Df.wCredit at r2
  unfold Df.wReserve at r3
  unfold Df.wRelease at r4
  clear h0 hv o1 o2 o3 o4 g1 g2 g3 g4
  go_enter Tryd.func34, Tryd.ntmps34
  go_wp2
  go_ret
  exact ⟨rfl, HO.out, HG.out⟩

theorem kw_wk (k : Int) (h1 : 1 ≤ k) (h2 : k ≤ 4) : kw (wk k) = k := by
  rcases (by omega : k = 1 ∨ k = 2 ∨ k = 3 ∨ k = 4) with rfl | rfl | rfl | rfl <;> decide
theorem wk_kw (s : ByteArray) (h : kw s ≠ 0) : wk (kw s) = s := by
  unfold Df.kw at h ⊢
  by_cases h1 : s = Df.wDebit
  · rw [if_pos h1]; exact h1.symm
  · rw [if_neg h1] at h ⊢
    by_cases h2 : s = Df.wCredit
    · rw [if_pos h2]; exact h2.symm
    · rw [if_neg h2] at h ⊢
      by_cases h3 : s = Df.wReserve
      · rw [if_pos h3]; exact h3.symm
      · rw [if_neg h3] at h ⊢
        by_cases h4 : s = Df.wRelease
        · rw [if_pos h4]; exact h4.symm
        · rw [if_neg h4] at h; exact absurd rfl h
theorem wk_none (k : Int) (h : ¬ (1 ≤ k ∧ k ≤ 4)) : wk k = ⟨#[]⟩ := by
  unfold Df.wk
  rw [if_neg (by omega), if_neg (by omega), if_neg (by omega), if_neg (by omega)]

set_option maxHeartbeats 2000000 in
set_option maxRecDepth 100000 in
theorem kindWord_any (k : Int) (w : World) : Calls Tryd.prog 47 #[.int .i64 k] w fun e w' => e = .returned (.string (wk k)) ∧ Gr w w' := by
  have HK : Hid (∀ w', Calls Tryd.prog 34 #[] w' fun e w2 => e = .returned (.map (some w'.heap.size)) ∧ MapK w2 w'.heap.size ∧ Gr w' w2) := fun w' => kinds_any w'
  have HW0 : Hid (∀ h : 1 ≤ k ∧ k ≤ 4, Maps.has kD (ks (wk k)) = true) := fun h => by rw [kD_has, kw_wk k h.1 h.2]; exact decide_eq_true (by omega)
  have HN : Hid (¬ (1 ≤ k ∧ k ≤ 4) → wk k = ⟨#[]⟩) := wk_none k
  have HX : Hid (∀ (s : ByteArray) (c : Int), (∀ zd, kD.atKey (ks s) zd = .lit (.int .i64 c)) → kw s = c ∧ kw s ≠ 0) := by
    intro s c h
    by_cases h0 : kw s = 0
    · have a := h (.lit (.int .i64 (c + 1)))
      rw [kD_at, if_pos h0] at a
      injection a with a; injection a with _ a
      omega
    · have a := h (.lit (.int .i64 0))
      rw [kD_at, if_neg h0] at a
      injection a with a; injection a with _ a
      exact ⟨a, h0⟩
  go_enter Tryd.func47, Tryd.ntmps47
  go_wp2_with fail
  refine (HK.out _).mono ?_
  rintro e w1 ⟨rfl, hm, hg1⟩
  have hm' : w1.ownsMap Tryd.prog 9 (plainElem (H := Unit) Tryd.prog 3) w.heap.size 4 kD := hm
  have HG1 : Hid (Gr w w1) := hg1
  clear hm hg1 HK
  go_wp2_with (first
    | (at_range; refine wpList_range_own _ rfl _ 60 rfl 9 3 strLaw Tryd.underlying60 _ w.heap.size 4 _ rfl hm' ?_; intro w0 hrg0 hg0 hs0)
    | go_in)
  go_frame
  clear hs0
  go_loopw [3, 4] (fun _ _ wr => ∃ (left : Lit → Bool) (cnt : Nat), wr.ranges Tryd.prog 9 (plainElem (H := Unit) Tryd.prog 3) w.heap.size w1.heap.size 4 kD left cnt ∧ (1 ≤ k ∧ k ≤ 4 → left (ks (wk k)) = true) ∧ Gr w wr)
    (fun _ _ wr => wr.rangeLeft w.heap.size w1.heap.size)
  case atStart => exact ⟨_, _, hrg0, HW0.out, HG1.out.trans ⟨(Below.refl _ _).grown hg0 (Nat.le_refl _) (fun j hj => by cases hj)⟩⟩
  case round =>
    obtain ⟨left, cnt, hrg, hl, hg⟩ := hrel
    have HL : Hid (1 ≤ k ∧ k ≤ 4 → left (ks (wk k)) = true) := hl
    have HG : Hid (Gr w wr) := hg
    have HR : Hid (wr.ranges Tryd.prog 9 (plainElem (H := Unit) Tryd.prog 3) w.heap.size w1.heap.size 4 kD left cnt) := hrg
    clear hl hg hg0 hrg0 hm'
    go_wp2_with (first
      | (at_next; refine wpList_next_ranges _ rfl _ rfl 9 strLaw (plainElem (H := Unit) Tryd.prog 3) encStr (Value.int .i64) (fun key kl hk => by obtain ⟨x, hx, _⟩ := Maps.keyOf_str Tryd.underlying9 hk; exact ⟨x, hx⟩) (fun v y hv => by obtain ⟨c, rfl, _⟩ := plainElem_int_inv Tryd.underlying3 hv; exact ⟨c, rfl⟩) w.heap.size w1.heap.size 4 _ _ _ rfl hrg ?_ ?_)
      | go_in)
    · intro hc0 hl0
      have HE : Hid (wk k = ⟨#[]⟩) := HN.out (fun h => by have := HL.out h; rw [hl0] at this; cases this)
      clear hl0 hc0
      go_wp2
      go_ret
      exact ⟨by rw [HE.out]; rfl, HG.out⟩
    · intro x c kl yd yp w2 cnt2 hkey hlk hv hat hrg2 hlt hg2 hs2 hen
      obtain ⟨x', ex, rfl, _⟩ := Maps.keyOf_str Tryd.underlying9 hkey
      obtain rfl : x = x' := encStr_inj ex
      obtain ⟨c', ec, hy, _⟩ := plainElem_int_inv Tryd.underlying3 hv
      cases ec
      cases hy
      obtain ⟨q1, q2⟩ := HX.out ⟨x.toArray⟩ c (fun zd => by have := hat zd; simpa [ks] using this)
      have HQ : Hid (kw ⟨x.toArray⟩ = c ∧ kw ⟨x.toArray⟩ ≠ 0) := ⟨q1, q2⟩
      have HG2 : Hid (Gr w w2) := Gr.gb HG.out (b := w1.heap.size) ⟨hg2⟩ HG1.out.size
      have HR2 : Hid (w2.ranges Tryd.prog 9 (plainElem (H := Unit) Tryd.prog 3) w.heap.size w1.heap.size 4 kD (fun z => left z && !z.sameKey (.string x)) cnt2) := hrg2
      have HLT : Hid (cnt2 < cnt) := hlt
      clear hkey hlk hv hat hrg2 hlt hg2 hs2 hrg q1 q2 ex
      unfold encStr at hen ⊢
      by_cases hck : c = k
      · have HE : Hid (wk k = ⟨x.toArray⟩) := by
          show _ = _
          rw [← hck, ← HQ.out.1, wk_kw _ HQ.out.2]
        subst hck
        go_wp2
        go_ret
        exact ⟨by rw [HE.out]; rfl, HG2.out⟩
      · have hbe : (c == k) = false := by simpa using hck
        have HL2 : Hid (1 ≤ k ∧ k ≤ 4 → (left (ks (wk k)) && !(ks (wk k)).sameKey (.string x)) = true) := by
          intro h
          rw [HL.out h]
          have : ks (wk k) ≠ .string x := by
            intro e
            have e2 : wk k = ⟨x.toArray⟩ := ks_inj (by rw [e]; simp [ks])
            apply hck
            rw [← HQ.out.1, ← e2, kw_wk k h.1 h.2]
          rw [sameKey_ne this]; rfl
        clear hck
        go_wp2
        go_roundw
        case rel => exact ⟨_, _, HR2.out, HL2.out, HG2.out⟩
        case measure => rw [HR2.out.left_eq, HR.out.left_eq]; exact HLT.out
end Go.Proofs.YtdliljijgokpjaaDoor
