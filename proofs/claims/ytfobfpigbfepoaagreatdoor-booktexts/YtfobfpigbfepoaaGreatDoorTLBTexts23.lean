/- What the proof is made of, part 23. -/
import Derived.Test.YtfobfpigbfepoaaGreatDoorTLBTexts22
namespace Go.Proofs.YtfobfpigbfepoaaGreatDoor
open Go.RowKit
open Lex (Tok valE valB)
open Df (Stp tk isT kw wk sm opt Gd)
theorem refIs_any (x : Tok) (k : Int) (s : ByteArray) (w : World) : Calls Tryz.prog 47 #[.agg #[.int .i64 x.k, .string x.t, .int .i64 x.p], .int .i64 k, .string s] w fun e w' => e = .returned (.bool (isT x k s)) ∧ Gr w w' := by
  have ht := text_eq x.t s.data.toList
  rw [Lex.bytes_list, ← show s.toList = s.data.toList from ByteArray.toList_eq s] at ht
  have HB : Hid (isT x k s = (decide (x.k = k) && decide (x.t = s))) := rfl
  generalize isT x k s = IB at *
  by_cases h1 : x.k = k
  · have e1 : (x.k == k) = true := by simpa using h1
    rw [decide_eq_true h1] at HB
    by_cases h2 : x.t = s
    · rw [decide_eq_true h2] at HB ht
      have HF : Hid (IB = true) := HB.out
      clear HB h1 h2
      go_enter Tryz.func47, Tryz.ntmps47
      go_wp2
      go_ret
      exact ⟨by rw [HF.out]; rfl, (by repeat (first | exact Gr.refl _ | refine Gr.alloc ?_ | refine Gr.drew ?_ | refine Gr.trans ?_ (by assumption)))⟩
    · rw [decide_eq_false h2] at HB ht
      have HF : Hid (IB = false) := HB.out
      clear HB h1 h2
      go_enter Tryz.func47, Tryz.ntmps47
      go_wp2
      go_ret
      exact ⟨by rw [HF.out]; rfl, (by repeat (first | exact Gr.refl _ | refine Gr.alloc ?_ | refine Gr.drew ?_ | refine Gr.trans ?_ (by assumption)))⟩
  · have e1 : (x.k == k) = false := by simpa using h1
    rw [decide_eq_false h1] at HB
    have HF : Hid (IB = false) := HB.out
    clear HB h1 ht
    go_enter Tryz.func47, Tryz.ntmps47
    go_wp2
    go_ret
    exact ⟨by rw [HF.out]; rfl, (by repeat (first | exact Gr.refl _ | refine Gr.alloc ?_ | refine Gr.drew ?_ | refine Gr.trans ?_ (by assumption)))⟩
theorem kw_none {s : ByteArray} (h : ∀ j : Nat, 1 ≤ j → j < 5 → wk (j : Int) ≠ s) : kw s = 0 := by
  by_cases h0 : kw s = 0
  · exact h0
  · have hr := Df.kw_range s
    have := wk_kw s h0
    refine absurd this ?_
    have e : kw s = ((kw s).toNat : Int) := by omega
    rw [e]
    exact h _ (by omega) (by omega)
set_option maxHeartbeats 4000000 in
set_option maxRecDepth 100000 in
theorem refKind_any (s : ByteArray) (w : World) : Calls Tryz.prog 78 #[.string s] w fun e w' => e = .returned (.int .i64 (kw s)) ∧ Gr w w' := by
  have HW : Hid (∀ w' : World, Calls Tryz.prog 34 #[] w' fun e w2 => e = .returned (.slice (some ⟨w'.heap.size, 0, none⟩) 5 5) ∧ StrsIn w2 w'.heap.size [⟨#[]⟩, Df.wDebit, Df.wCredit, Df.wReserve, Df.wRelease] ∧ w'.heap.size < w2.heap.size ∧ Gr w' w2) := refWords_any
  have HN : Hid ((∀ j : Nat, 1 ≤ j → j < 5 → wk (j : Int) ≠ s) → kw s = 0) := kw_none
  have HY : Hid (∀ j : Nat, 1 ≤ j → j < 5 → wk (j : Int) = s → kw s = j) := fun j h1 h4 e => by rw [← e, kw_wk _ (by omega) (by omega)]
  generalize kw s = KW at *
  go_enter Tryz.func78, Tryz.ntmps78
  go_wp2_with fail
  refine (HW.out _).mono ?_
  rintro e w1 ⟨rfl, hst, hlt, hg⟩
  have HS1 := Lib.hid hst
  have HG1 : Hid (Gr w w1) := hg
  clear hst hg HW
  go_wp2
  go_loopw [4] (fun i wr => ∃ k : Nat, 1 ≤ k ∧ k ≤ 5 ∧ i = .int .i64 (k : Int) ∧ wr = w1 ∧ ∀ j : Nat, 1 ≤ j → j < k → wk (j : Int) ≠ s) (fun i _ => 5 - (intOf i).toNat)
  case atStart => exact ⟨1, by omega, by omega, rfl, rfl, fun j h1 h2 => absurd h2 (by omega)⟩
  case round =>
    obtain ⟨k, hk1, hk5, rfl, hwr, hA⟩ := hrel
    have HA : Hid (∀ j : Nat, 1 ≤ j → j < k → wk (j : Int) ≠ s) := hA
    clear hA
    obtain ⟨wz, rfl⟩ : ∃ x, x = wr := ⟨_, rfl⟩
    by_cases hlt5 : k < 5
    · have hc := words_at HS1.out k hk1 (by omega)
      rw [← hwr] at hc hlt
      have ht := text_eq (wk (k : Int)) s.data.toList
      rw [Lex.bytes_list, ← show s.toList = s.data.toList from ByteArray.toList_eq s] at ht
      have h5i : (k : Int) < 5 := by omega
      have HYk := HY.out k hk1 hlt5
      generalize hX : wk (k : Int) = X at *
      by_cases hx : X = s
      · rw [decide_eq_true hx] at ht
        have HF : Hid (KW = (k : Int)) := HYk hx
        have HGz : Hid (Gr w wz) := by rw [hwr]; exact HG1.out
        clear hx hX HYk hwr
        go_wp2
        go_ret
        exact ⟨by rw [HF.out]; rfl, HGz.out⟩
      · rw [decide_eq_false hx] at ht
        have HX : Hid (wk (k : Int) ≠ s) := by rw [hX]; exact hx
        have HWR := Lib.hid hwr
        clear hx hX HYk hwr
        go_wp2
        go_roundw
        case rel => exact ⟨k + 1, by omega, by omega, by go_num, HWR.out, fun j h1 h2 => if e : j = k then by subst e; exact HX.out else HA.out j h1 (by omega)⟩
        case measure => simp [intOf]; omega
    · obtain rfl : k = 5 := by omega
      have HF : Hid (KW = 0) := HN.out HA.out
      have HGz : Hid (Gr w wz) := by rw [hwr]; exact HG1.out
      clear hwr
      go_wp2
      go_ret
      exact ⟨by rw [HF.out]; rfl, HGz.out⟩
set_option maxHeartbeats 2000000 in
theorem rdSmall_any (x : Tok) (w : World) (hk : x.k = 2) (hs : x.t.size ≤ 16) : Calls Tryz.prog 79 #[.agg #[.int .i64 x.k, .string x.t, .int .i64 x.p]] w fun e w' => e = .returned (.int .i64 (sm x.t)) ∧ Gr w w' := by
  have HV : Hid (∀ w', Calls Tryz.prog 81 #[.agg #[.int .i64 x.k, .string x.t, .int .i64 x.p]] w' fun e w2 => e = .returned (.tuple #[.int .i64 (valE x.k x.t), .bool (valB x.k x.t)]) ∧ Gr w' w2) := fun w' => refValue_any x.k x.t x.p w' (by omega)
  have HS : Hid (sm x.t = if 9 < x.t.size then -1 else valE x.k x.t) := by show _ = _; rw [hk]; rfl
  generalize sm x.t = SM at *
  generalize valE x.k x.t = VE at *
  generalize valB x.k x.t = VB at *
  clear hk
  by_cases h9 : 9 < x.t.size
  · have h9i : (9 : Int) < (x.t.size : Int) := by omega
    rw [if_pos h9] at HS
    clear HV
    go_enter Tryz.func79, Tryz.ntmps79
    go_wp2
    go_ret
    exact ⟨by rw [HS.out]; rfl, (by repeat (first | exact Gr.refl _ | refine Gr.alloc ?_ | refine Gr.drew ?_ | refine Gr.trans ?_ (by assumption)))⟩
  · have h9i : ¬ (9 : Int) < (x.t.size : Int) := by omega
    rw [if_neg h9] at HS
    go_enter Tryz.func79, Tryz.ntmps79
    go_wp2_with fail
    refine (HV.out _).mono ?_
    rintro e w1 ⟨rfl, hg⟩
    have HG1 : Hid (Gr w w1) := (Gr.refl _).alloc.trans hg
    clear hg
    go_wp2
    go_ret
    exact ⟨by rw [HS.out]; rfl, HG1.out⟩
def optI (o : Option Int) : Int := match o with | none => 0 | some n => n
set_option maxHeartbeats 4000000 in
set_option maxRecDepth 100000 in
theorem refMaybe_any (T : List Tok) (ad : Option Addr) (cap : Nat) (i : Nat) (wd : ByteArray) (n : Int) (w : World) (hT : ToksAt w ad T) (hG : Gd T) (hi : i < T.length) (hn : T.length ≤ 5000) :
    Calls Tryz.prog 80 #[.slice ad T.length cap, .int .i64 (i : Int), .string wd, .int .i64 n] w fun e w' => e = .returned (.tuple #[.int .i64 (optI (opt T i wd n).2), .int .i64 ((opt T i wd n).1 : Int), .bool (opt T i wd n).2.isSome]) ∧ Gr w w' := by
  have HI : Hid (∀ w', Calls Tryz.prog 47 #[.agg #[.int .i64 (tk T i).k, .string (tk T i).t, .int .i64 (tk T i).p], .int .i64 1, .string wd] w' fun e w2 => e = .returned (.bool (isT (tk T i) 1 wd)) ∧ Gr w' w2) := fun w' => refIs_any (tk T i) 1 wd w'
  obtain ⟨b, off, rfl, hb, c0, c1, c2⟩ := hT i hi
  rw [← Df.tk_get T i hi] at c0 c1 c2
  cases h1 : isT (tk T i) 1 wd with
  | true =>
    rw [h1] at HI
    have hx := hG.next (i := i) (by rw [((Df.isT_iff _ _ _).1 h1).1]; decide)
    have hT1 := Lib.hid hT
    obtain ⟨b', off', e', _, d0, d1, d2⟩ := hT (i + 1) hx
    cases e'
    rw [← Df.tk_get T (i + 1) hx] at d0 d1 d2
    have e1 : wrap64 ((i : Int) + 1) = ((i + 1 : Nat) : Int) := by unfold wrap64; omega
    have e2 : wrap64 ((i : Int) + 2) = ((i + 2 : Nat) : Int) := by unfold wrap64; omega
    have hj1 : ((i + 1 : Nat) : Int) < (T.length : Int) := by omega
    by_cases h2 : (tk T (i + 1)).k = 2
    · have HO : Hid (opt T i wd n = (i + 2, some (sm (tk T (i + 1)).t))) := by show _ = _; unfold Df.opt; rw [if_pos h1, if_pos h2]
      have HSM : Hid (∀ w', Calls Tryz.prog 79 #[.agg #[.int .i64 (tk T (i + 1)).k, .string (tk T (i + 1)).t, .int .i64 (tk T (i + 1)).p]] w' fun e w2 => e = .returned (.int .i64 (sm (tk T (i + 1)).t)) ∧ Gr w' w2) := fun w' => rdSmall_any _ w' h2 (hG.size _)
      have e3 : ((tk T (i + 1)).k != 2) = false := by simpa using h2
      generalize opt T i wd n = OO at *
      generalize sm (tk T (i + 1)).t = SM at *
      generalize tk T i = x at *
      generalize tk T (i + 1) = y at *
      obtain ⟨xk, xt, xp⟩ := x
      obtain ⟨yk, yt, yp⟩ := y
      simp only at *
      subst h2
      clear h1 hT hG e1 e2 e3 hj1
      go_enter Tryz.func80, Tryz.ntmps80
      go_wp2_with fail
      refine (HI.out _).mono ?_
      rintro e w1 ⟨rfl, hg⟩
      have HG1 : Hid (Gr w w1) := hg
      replace d0 := hg.keep d0
      replace d1 := hg.keep d1
      replace d2 := hg.keep d2
      have hb1 : b < w1.heap.size := Nat.lt_of_lt_of_le hb hg.size
      clear hg c0 c1 c2
      go_wp2_with fail
      refine (HSM.out _).mono ?_
      rintro e w2 ⟨rfl, hg⟩
      have HG2 : Hid (Gr w w2) := HG1.out.trans hg
      clear hg
      go_wp2
      go_ret3
      exact ⟨by rw [HO.out]; rfl, HG2.out⟩
    · have HO : Hid (opt T i wd n = (i + 1, none)) := by show _ = _; unfold Df.opt; rw [if_pos h1, if_neg h2]
      have e3 : ((tk T (i + 1)).k != 2) = true := by simpa using h2
      generalize opt T i wd n = OO at *
      generalize tk T i = x at *
      generalize tk T (i + 1) = y at *
      obtain ⟨xk, xt, xp⟩ := x
      obtain ⟨yk, yt, yp⟩ := y
      simp only at *
      clear h1 hT hG h2 e1 e2 hj1
      go_enter Tryz.func80, Tryz.ntmps80
      go_wp2_with fail
      refine (HI.out _).mono ?_
      rintro e w1 ⟨rfl, hg⟩
      have HG1 : Hid (Gr w w1) := hg
      replace d0 := hg.keep d0
      replace d1 := hg.keep d1
      replace d2 := hg.keep d2
      have hb1 : b < w1.heap.size := Nat.lt_of_lt_of_le hb hg.size
      clear hg c0 c1 c2
      go_wp2
      go_ret3
      exact ⟨by rw [HO.out]; rfl, HG1.out⟩
  | false =>
    rw [h1] at HI
    have HO : Hid (opt T i wd n = (i, some n)) := by show _ = _; unfold Df.opt; rw [h1]; rfl
    generalize opt T i wd n = OO at *
    generalize tk T i = x at *
    obtain ⟨xk, xt, xp⟩ := x
    simp only at *
    clear h1 hT hG
    go_enter Tryz.func80, Tryz.ntmps80
    go_wp2_with fail
    refine (HI.out _).mono ?_
    rintro e w1 ⟨rfl, hg⟩
    have HG1 : Hid (Gr w w1) := hg
    clear hg c0 c1 c2
    go_wp2
    go_ret3
    exact ⟨by rw [HO.out]; rfl, HG1.out⟩
set_option maxHeartbeats 4000000 in
set_option maxRecDepth 100000 in
theorem refSyntax_any (T : List Tok) (ad : Option Addr) (cap : Nat) (i : Nat) (w : World) (hT : ToksAt w ad T) (hi : i < T.length) (_hn : T.length ≤ 5000) :
    Calls Tryz.prog 48 #[.slice ad T.length cap, .int .i64 (i : Int)] w fun e w' => e = .returned (.tuple #[.agg #[.string ⟨#[]⟩, .slice none 0 0], .int .i64 0, .agg #[.int .i64 81, .int .i64 (tk T i).p]]) ∧ Gr w w' := by
  obtain ⟨b, off, rfl, hb, c0, c1, c2⟩ := hT i hi
  rw [← Df.tk_get T i hi] at c0 c1 c2
  have HXX : Hid (∀ x : Tok, tk T i = x → (tk T i).p = x.p) := fun x e => by rw [e]
  generalize hx : tk T i = x at *
  have HX2 := Lib.hid hx
  obtain ⟨xk, xt, xp⟩ := x
  simp only at *
  clear hT hx
  go_enter Tryz.func48, Tryz.ntmps48
  go_wp2
  go_region
  go_wp2
  exact bodyPost_ret (v := .tuple #[.agg #[.string ⟨#[]⟩, .slice none 0 0], .int .i64 0, .agg #[.int .i64 81, .int .i64 xp]]) (by simp [results, Tryz.results48, go_sem, *]) rfl ⟨rfl, (by (repeat' (first | with_reducible exact Gr.refl _ | with_reducible refine Gr.set ?_ _ ?_ _ | with_reducible refine Gr.alloc ?_ | with_reducible refine Gr.drew ?_ | with_reducible refine Gr.trans ?_ (by assumption))) <;> (first | (simp; done) | (simp; omega) | omega))⟩
end Go.Proofs.YtfobfpigbfepoaaGreatDoor
