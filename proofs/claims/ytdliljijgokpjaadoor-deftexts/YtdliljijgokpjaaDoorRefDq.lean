/- The document's Equal of definitions. -/
import Derived.Test.YtdliljijgokpjaaDoorDefY
namespace Go.Proofs.YtdliljijgokpjaaDoor
open Go.RowKit
open Df (Stp)

def eqD (n1 : ByteArray) (L : List Stp) (n2 : ByteArray) (M : List Stp) : Bool := decide (n1 = n2) && eqL L M

set_option maxHeartbeats 4000000 in
set_option maxRecDepth 100000 in
theorem refEqual_any (n1 : ByteArray) (L : List Stp) (ad1 : Option Addr) (c1 : Nat) (n2 : ByteArray) (M : List Stp) (ad2 : Option Addr) (c2 : Nat) (w : World) (h1 : StpsAt w ad1 L) (h2 : StpsAt w ad2 M) (hn1 : L.length ≤ 9223372036854775807) :
    Calls Tryd.prog 18 #[.agg #[.string n1, .slice ad1 L.length c1], .agg #[.string n2, .slice ad2 M.length c2]] w fun e w' => e = .returned (.bool (eqD n1 L n2 M)) ∧ Gr w w' := by
  have ht := text_ne n1 n2.data.toList
  rw [Lex.bytes_list, ← show n2.toList = n2.data.toList from ByteArray.toList_eq n2] at ht
  have HX0 := Lib.hid ((TwoAt.new w (.string n1) (.slice ad1 L.length c1) 24 _ rfl).gr (Gr.refl _).alloc (w' := (w.alloc (.cells #[.string n1, .slice ad1 L.length c1] 24)).alloc (.cells #[.string n2, .slice ad2 M.length c2] 24)))
  have HY0 := Lib.hid (TwoAt.new (w.alloc (.cells #[.string n1, .slice ad1 L.length c1] 24)) (.string n2) (.slice ad2 M.length c2) 24 (w.heap.size + 1) (by simp))
  by_cases hq : n1 = n2
  · rw [decide_eq_true hq] at ht
    have ht2 : (n1.toList != n2.toList) = false := ht
    have ht3 : (n1.toList == n2.toList) = true := by simpa using ht2
    have ED : eqD n1 L n2 M = eqL L M := by unfold eqD; rw [decide_eq_true hq]; rfl
    rw [ED]
    clear ht hq ED
    by_cases hl : L.length = M.length
    · have H1 : Hid (StpsAt w ad1 L) := h1
      have H2 : Hid (StpsAt w ad2 M) := h2
      have HL : Hid (L.length = M.length) := hl
      have hl2 : ((L.length : Int) != (M.length : Int)) = false := by simp; omega
      have HY : Hid ((∀ j (h1 : j < L.length) (h2 : j < M.length), eqS L[j] M[j] = true) → eqL L M = true) := eqL_yes hl
      have HN : Hid (∀ j (h1 : j < L.length) (h2 : j < M.length), eqS L[j] M[j] = false → eqL L M = false) := fun j => eqL_no j
      have HG0 : Hid (Gr w ((w.alloc (.cells #[.string n1, .slice ad1 L.length c1] 24)).alloc (.cells #[.string n2, .slice ad2 M.length c2] 24))) := (Gr.refl _).alloc.alloc
      generalize eqL L M = EL at *
      clear h1 h2 hl
      go_enter Tryd.func18, Tryd.ntmps18
      go_wp2
      go_loopw [5] (fun i wr => ∃ k : Nat, k ≤ L.length ∧ i = .int .i64 (k : Int) ∧ Gr w wr ∧ TwoAt wr w.heap.size (.string n1) (.slice ad1 L.length c1) ∧ TwoAt wr (w.heap.size + 1) (.string n2) (.slice ad2 M.length c2) ∧ ∀ j (h1 : j < L.length) (h2 : j < M.length), j < k → eqS L[j] M[j] = true) (fun i _ => L.length - (intOf i).toNat)
      case atStart => exact ⟨0, by omega, rfl, HG0.out, HX0.out, HY0.out, fun j _ _ h => absurd h (by omega)⟩
      case round =>
        obtain ⟨k, hk, rfl, hg, hX, hYb, hA⟩ := hrel
        have HG : Hid (Gr w wr) := hg
        have HXw := Lib.hid hX
        have HYw := Lib.hid hYb
        have HA : Hid (∀ j (h1 : j < L.length) (h2 : j < M.length), j < k → eqS L[j] M[j] = true) := hA
        obtain ⟨u0, u1, _, _, ul⟩ := hX
        obtain ⟨v0, v1, _, _, vl⟩ := hYb
        clear hg hA
        by_cases hlt : k < L.length
        · have hltM : k < M.length := by have := HL.out; omega
          obtain ⟨b, off, rfl, hb, x0, x1, x2, x3, x4, x5, x6⟩ := StpsAt.at (H1.out.gr HG.out) k hlt
          obtain ⟨b', off', rfl, hb', y0, y1, y2, y3, y4, y5, y6⟩ := StpsAt.at (H2.out.gr HG.out) k hltM
          have hne := neq_stp L[k] M[k]
          have HE := HN.out k hlt hltM
          generalize hx : L[k] = x at *
          generalize hy : M[k] = y at *
          obtain ⟨xk, xa, xn, xo, xu, xy, xv⟩ := x
          obtain ⟨yk, ya, yn, yo, yu, yy, yv⟩ := y
          simp only at *
          cases hq : eqS ⟨xk, xa, xn, xo, xu, xy, xv⟩ ⟨yk, ya, yn, yo, yu, yy, yv⟩ with
          | true =>
            rw [hq] at hne
            have HQ : Hid (eqS L[k] M[k] = true) := by show _ = _; rw [hx, hy]; exact hq
            clear hq hx hy HE
            go_wp2
            go_quiet (fail)
            go_wp2
            go_roundw
            case rel => exact ⟨k + 1, by omega, by go_num, HG.out.trans ((Gr.refl _).drewN _), HXw.out.gr ((Gr.refl _).drewN _), HYw.out.gr ((Gr.refl _).drewN _), fun j h1 h2 h => if e : j = k then by subst e; exact HQ.out else HA.out j h1 h2 (by omega)⟩
            case measure => simp [intOf]; omega
          | false =>
            rw [hq] at hne
            have HF : Hid (EL = false) := HE hq
            clear hq hx hy HE
            go_wp2
            go_quiet (fail)
            go_wp2
            go_ret
            exact ⟨by rw [HF.out]; rfl, HG.out.trans ((Gr.refl _).drewN _)⟩
        · obtain rfl : k = L.length := by omega
          have HF : Hid (EL = true) := HY.out (fun j h1 h2 => HA.out j h1 h2 h1)
          go_wp2
          go_ret
          exact ⟨by rw [HF.out]; rfl, HG.out⟩
    · have hl2 : ((L.length : Int) != (M.length : Int)) = true := by simp; omega
      rw [eqL_len hl]
      clear h1 h2 hl
      go_enter Tryd.func18, Tryd.ntmps18
      go_wp2
      go_ret
      exact ⟨rfl, (by repeat (first | exact Gr.refl _ | refine Gr.alloc ?_ | refine Gr.drew ?_ | refine Gr.trans ?_ (by assumption)))⟩
  · rw [decide_eq_false hq] at ht
    have ht2 : (n1.toList != n2.toList) = true := ht
    have ht3 : (n1.toList == n2.toList) = false := by simpa using ht2
    have ED : eqD n1 L n2 M = false := by unfold eqD; rw [decide_eq_false hq]; rfl
    rw [ED]
    clear ht hq ED h1 h2
    go_enter Tryd.func18, Tryd.ntmps18
    go_wp2
    go_ret
    exact ⟨rfl, (by repeat (first | exact Gr.refl _ | refine Gr.alloc ?_ | refine Gr.drew ?_ | refine Gr.trans ?_ (by assumption)))⟩
end Go.Proofs.YtdliljijgokpjaaDoor
