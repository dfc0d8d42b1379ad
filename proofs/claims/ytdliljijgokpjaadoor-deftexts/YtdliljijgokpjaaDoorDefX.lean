/- def: Check, Same; steps that are the same. -/
import Derived.Test.YtdliljijgokpjaaDoorDefC
import Derived.BigQuiet
namespace Go.Proofs.YtdliljijgokpjaaDoor
open Go.RowKit
open Df (Stp)

def eqS (x y : Stp) : Bool := decide (x.k = y.k) && decide (x.a = y.a) && decide (x.n = y.n) && decide (x.o = y.o) && decide (x.u = y.u) && decide (x.y = y.y) && decide (x.v = y.v)
theorem eqS_iff (x y : Stp) : eqS x y = true ↔ x = y := by
  unfold eqS
  simp only [Bool.and_eq_true, decide_eq_true_eq]
  constructor
  · rintro ⟨⟨⟨⟨⟨⟨h1, h2⟩, h3⟩, h4⟩, h5⟩, h6⟩, h7⟩
    cases x; cases y; simp_all
  · rintro rfl; simp
theorem toL_eq (a b : ByteArray) : (a.toList = b.toList) ↔ a = b := by
  rw [ByteArray.toList_eq, ByteArray.toList_eq]
  exact ⟨Lex.list_bytes, fun h => by rw [h]⟩
theorem neq_stp (x y : Stp) (W : World) : (binOp .neq 47 (.agg #[.int .i64 x.k, .string x.a, .int .i64 x.n, .int .i64 x.o, .string x.u, .int .i64 x.y, .int .i64 x.v]) (.agg #[.int .i64 y.k, .string y.a, .int .i64 y.n, .int .i64 y.o, .string y.u, .int .i64 y.y, .int .i64 y.v])).run Tryd.prog W = .ok (.bool (!eqS x y)) W := by
  go_simp
  unfold eqS
  simp only [toL_eq]
  by_cases h1 : x.k = y.k <;> by_cases h2 : x.a = y.a <;> by_cases h3 : x.n = y.n <;> by_cases h4 : x.o = y.o <;> by_cases h5 : x.u = y.u <;> by_cases h6 : x.y = y.y <;> by_cases h7 : x.v = y.v <;> simp [h1, h2, h3, h4, h5, h6, h7]

/- rows of steps that are the same -/
def eqL (L M : List Stp) : Bool := decide (L.length = M.length) && (List.range L.length).all (fun j => eqS (L.getD j ⟨0, ⟨#[]⟩, 0, 0, ⟨#[]⟩, 0, 0⟩) (M.getD j ⟨0, ⟨#[]⟩, 0, 0, ⟨#[]⟩, 0, 0⟩))
theorem eqL_iff (L M : List Stp) : eqL L M = true ↔ L = M := by
  unfold eqL
  simp only [Bool.and_eq_true, decide_eq_true_eq, List.all_eq_true, List.mem_range, eqS_iff]
  constructor
  · rintro ⟨h1, h2⟩
    refine List.ext_getElem h1 (fun j hj hj' => ?_)
    have := h2 j hj
    rwa [List.getD_eq_getElem?_getD, List.getD_eq_getElem?_getD, List.getElem?_eq_getElem hj, List.getElem?_eq_getElem hj'] at this
  · rintro rfl; simp
theorem eqL_no {L M : List Stp} (j : Nat) (h1 : j < L.length) (h2 : j < M.length) (h : eqS L[j] M[j] = false) : eqL L M = false := by
  cases he : eqL L M with
  | false => rfl
  | true =>
    have := (eqL_iff L M).1 he
    subst this
    rw [(eqS_iff _ _).2 rfl] at h; cases h
theorem eqL_len {L M : List Stp} (h : L.length ≠ M.length) : eqL L M = false := by unfold eqL; rw [decide_eq_false h]; rfl
theorem eqL_yes {L M : List Stp} (h0 : L.length = M.length) (h : ∀ j (h1 : j < L.length) (h2 : j < M.length), eqS L[j] M[j] = true) : eqL L M = true :=
  (eqL_iff L M).2 (List.ext_getElem h0 (fun j h1 h2 => (eqS_iff _ _).1 (h j h1 h2)))

set_option maxHeartbeats 4000000 in
set_option maxRecDepth 100000 in
theorem seq_any (L M : List Stp) (ad1 ad2 : Option Addr) (c1 c2 : Nat) (w : World) (h1 : StpsAt w ad1 L) (h2 : StpsAt w ad2 M) (hn1 : L.length ≤ 9223372036854775807) (_hn2 : M.length ≤ 9223372036854775807) :
    Calls Tryd.prog 32 #[.slice ad1 L.length c1, .slice ad2 M.length c2] w fun e w' => e = .returned (.bool (eqL L M)) ∧ Gr w w' := by
  by_cases hl : L.length = M.length
  · have H1 : Hid (StpsAt w ad1 L) := h1
    have H2 : Hid (StpsAt w ad2 M) := h2
    have HL : Hid (L.length = M.length) := hl
    have hl2 : ((L.length : Int) != (M.length : Int)) = false := by simp; omega
    have HY : Hid ((∀ j (h1 : j < L.length) (h2 : j < M.length), eqS L[j] M[j] = true) → eqL L M = true) := eqL_yes hl
    have HN : Hid (∀ j (h1 : j < L.length) (h2 : j < M.length), eqS L[j] M[j] = false → eqL L M = false) := fun j => eqL_no j
    generalize eqL L M = EL at *
    clear h1 h2 hl
    go_enter Tryd.func32, Tryd.ntmps32
    go_wp2
    go_loopw [13] (fun i wr => ∃ k : Nat, k ≤ L.length ∧ i = .int .i64 (k : Int) ∧ Gr w wr ∧ ∀ j (h1 : j < L.length) (h2 : j < M.length), j < k → eqS L[j] M[j] = true) (fun i _ => L.length - (intOf i).toNat)
    case atStart => exact ⟨0, by omega, rfl, Gr.refl _, fun j _ _ h => absurd h (by omega)⟩
    case round =>
      obtain ⟨k, hk, rfl, hg, hA⟩ := hrel
      have HG : Hid (Gr w wr) := hg
      have HA : Hid (∀ j (h1 : j < L.length) (h2 : j < M.length), j < k → eqS L[j] M[j] = true) := hA
      clear hg hA
      by_cases hlt : k < L.length
      · have hltM : k < M.length := by have := HL.out; omega
        obtain ⟨b, off, rfl, hb, x0, x1, x2, x3, x4, x5, x6⟩ := StpsAt.at (H1.out.gr HG.out) k hlt
        obtain ⟨b', off', rfl, hb', y0, y1, y2, y3, y4, y5, y6⟩ := StpsAt.at (H2.out.gr HG.out) k hltM
        have hne := neq_stp L[k] M[k]
        have HE := HN.out k hlt hltM
        have HS : Hid (∀ (h1 : k < L.length) (h2 : k < M.length), eqS L[k] M[k] = eqS L[k] M[k]) := fun _ _ => rfl
        generalize hx : L[k] = x at *
        generalize hy : M[k] = y at *
        obtain ⟨xk, xa, xn, xo, xu, xy, xv⟩ := x
        obtain ⟨yk, ya, yn, yo, yu, yy, yv⟩ := y
        simp only at *
        cases hq : eqS ⟨xk, xa, xn, xo, xu, xy, xv⟩ ⟨yk, ya, yn, yo, yu, yy, yv⟩ with
        | true =>
          rw [hq] at hne
          have HQ : Hid (eqS L[k] M[k] = true) := by show _ = _; rw [hx, hy]; exact hq
          clear hq hx hy HE HS
          go_wp2
          go_quiet (fail)
          go_wp2
          go_roundw
          case rel => exact ⟨k + 1, by omega, by go_num, HG.out.trans (by repeat (first | exact Gr.refl _ | refine Gr.drewN ?_ _)), fun j h1 h2 h => if e : j = k then by subst e; exact HQ.out else HA.out j h1 h2 (by omega)⟩
          case measure => simp [intOf]; omega
        | false =>
          rw [hq] at hne
          have HF : Hid (EL = false) := HE hq
          clear hq hx hy HE HS
          go_wp2
          go_quiet (fail)
          go_wp2
          go_ret
          exact ⟨by rw [HF.out]; rfl, HG.out.trans (by repeat (first | exact Gr.refl _ | refine Gr.drewN ?_ _))⟩
      · obtain rfl : k = L.length := by omega
        have HF : Hid (EL = true) := HY.out (fun j h1 h2 => HA.out j h1 h2 h1)
        go_wp2
        go_ret
        exact ⟨by rw [HF.out]; rfl, HG.out⟩
  · have hl2 : ((L.length : Int) != (M.length : Int)) = true := by simp; omega
    rw [eqL_len hl]
    clear h1 h2 hl
    go_enter Tryd.func32, Tryd.ntmps32
    go_wp2
    go_ret
    exact ⟨rfl, Gr.refl _⟩
end Go.Proofs.YtdliljijgokpjaaDoor
