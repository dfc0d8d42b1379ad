/- What the proof is made of, part 7. -/
import Derived.Test.YtfobfpigbfepoaaTLBOrder6
import Derived.Deep.RegionHeld3
import Derived.BigQuiet
import Derived.StringKeys
import Derived.Sort.KeysCollected
import Derived.BigRegion
namespace Go.Proofs.Ytfobfpigbfepoaa
open Go.RowKit
open Df (Stp ownB askB stpB zerB)
open _root_.Go.Proofs.Ytfobfpigbfepoaa.Act (nameB actB chkE)
def inI (n : Int) : Prop := -9223372036854775808 ≤ n ∧ n ≤ 9223372036854775807
def inS (s : Stp) : Prop := s.a.size ≤ 9223372036854775807 ∧ s.u.size ≤ 9223372036854775807 ∧ inI s.k ∧ inI s.n ∧ inI s.o ∧ inI s.y ∧ inI s.v
theorem within_any (n a b : Int) (w : World) : Calls Try.prog 31 #[.int .i64 n, .int .i64 a, .int .i64 b] w fun e w' => e = .returned (.bool (decide (a ≤ n) && decide (n ≤ b))) ∧ w' = w := by
  by_cases h0 : a ≤ n
  · by_cases h1 : n ≤ b
    · rw [decide_eq_true h0, decide_eq_true h1]
      go_enter Try.func31, Try.ntmps31
      go_wp2
      go_ret
      exact ⟨rfl, rfl⟩
    · rw [decide_eq_true h0, decide_eq_false h1]
      go_enter Try.func31, Try.ntmps31
      go_wp2
      go_ret
      exact ⟨rfl, rfl⟩
  · rw [decide_eq_false h0]
    go_enter Try.func31, Try.ntmps31
    go_wp2
    go_ret
    exact ⟨rfl, rfl⟩
set_option maxHeartbeats 4000000 in
set_option maxRecDepth 100000 in
theorem isOwn_any (s : Stp) (w : World) (hs : inS s) : Calls Try.prog 32 #[.agg #[.int .i64 s.k, .string s.a, .int .i64 s.n, .int .i64 s.o, .string s.u, .int .i64 s.y, .int .i64 s.v]] w fun e w' => e = .returned (.bool (ownB s)) ∧ Gr w w' := by
  have HC : Hid (∀ w', Calls Try.prog 43 #[.agg #[.int .i64 s.k, .string s.a, .int .i64 s.n]] w' fun e w2 => e = .returned (.int .i64 (chkE s.k s.a s.n)) ∧ Gr w' w2) := fun w' => actCheck_any s.k s.n s.a w' hs.1
  have HW : Hid (∀ w', Calls Try.prog 31 #[.int .i64 s.y, .int .i64 1, .int .i64 5] w' fun e w2 => e = .returned (.bool (decide (1 ≤ s.y) && decide (s.y ≤ 5))) ∧ w2 = w') := fun w' => within_any s.y 1 5 w'
  have ht := text_eq s.u []
  rw [show (⟨[].toArray⟩ : ByteArray) = ⟨#[]⟩ from rfl] at ht
  have HB : Hid (ownB s = (decide (s.u = ⟨#[]⟩) && actB s.k s.a s.n && decide (s.o = 0) && decide (s.v = 0) && (decide (1 ≤ s.y) && decide (s.y ≤ 5)))) := rfl
  have HE : Hid (chkE s.k s.a s.n = if actB s.k s.a s.n = true then 0 else 60) := rfl
  clear hs
  generalize ownB s = OB at *
  generalize (decide (1 ≤ s.y) && decide (s.y ≤ 5)) = YB at *
  generalize chkE s.k s.a s.n = CE at *
  generalize actB s.k s.a s.n = AB at *
  by_cases h1 : s.u = ⟨#[]⟩
  · rw [decide_eq_true h1] at ht HB
    have ht2 : (s.u.toList == []) = true := ht
    clear ht
    cases AB with
    | true =>
      have e2 : CE = 0 := HE.out
      subst e2
      by_cases h3 : s.o = 0
      · rw [decide_eq_true h3] at HB
        have e3 : (s.o == 0) = true := by simpa using h3
        by_cases h4 : s.v = 0
        · rw [decide_eq_true h4] at HB
          have e4 : (s.v == 0) = true := by simpa using h4
          have HF : Hid (OB = YB) := HB.out
          clear h1 h3 h4 HB HE
          go_enter Try.func32, Try.ntmps32
          go_wp2_with fail
          refine (HC.out _).mono ?_
          rintro e w1 ⟨rfl, hg⟩
          obtain ⟨x0, x1, x2, x3, x4, x5, x6⟩ := ((AccAt.new w (.int .i64 s.k) (.string s.a) (.int .i64 s.n) (.int .i64 s.o) (.string s.u) (.int .i64 s.y) (.int .i64 s.v) 52 _ rfl).gr hg).cells
          have xl := ((AccAt.new w (.int .i64 s.k) (.string s.a) (.int .i64 s.n) (.int .i64 s.o) (.string s.u) (.int .i64 s.y) (.int .i64 s.v) 52 _ rfl).gr hg).lt
          have HG1 : Hid (Gr w w1) := (Gr.refl _).alloc.trans hg
          clear hg
          go_wp2_with fail
          refine (HW.out _).mono ?_
          rintro e w2 ⟨rfl, hw⟩; obtain rfl := hw.symm
          go_wp2
          go_ret
          exact ⟨by rw [HF.out]; rfl, HG1.out⟩
        · rw [decide_eq_false h4] at HB
          have e4 : (s.v == 0) = false := by simpa using h4
          have HF : Hid (OB = false) := HB.out
          clear h1 h3 h4 HB HE
          go_enter Try.func32, Try.ntmps32
          go_wp2_with fail
          refine (HC.out _).mono ?_
          rintro e w1 ⟨rfl, hg⟩
          obtain ⟨x0, x1, x2, x3, x4, x5, x6⟩ := ((AccAt.new w (.int .i64 s.k) (.string s.a) (.int .i64 s.n) (.int .i64 s.o) (.string s.u) (.int .i64 s.y) (.int .i64 s.v) 52 _ rfl).gr hg).cells
          have xl := ((AccAt.new w (.int .i64 s.k) (.string s.a) (.int .i64 s.n) (.int .i64 s.o) (.string s.u) (.int .i64 s.y) (.int .i64 s.v) 52 _ rfl).gr hg).lt
          have HG1 : Hid (Gr w w1) := (Gr.refl _).alloc.trans hg
          clear hg
          go_wp2
          go_ret
          exact ⟨by rw [HF.out]; rfl, HG1.out⟩
      · rw [decide_eq_false h3] at HB
        have e3 : (s.o == 0) = false := by simpa using h3
        have HF : Hid (OB = false) := HB.out
        clear h1 h3 HB HE
        go_enter Try.func32, Try.ntmps32
        go_wp2_with fail
        refine (HC.out _).mono ?_
        rintro e w1 ⟨rfl, hg⟩
        obtain ⟨x0, x1, x2, x3, x4, x5, x6⟩ := ((AccAt.new w (.int .i64 s.k) (.string s.a) (.int .i64 s.n) (.int .i64 s.o) (.string s.u) (.int .i64 s.y) (.int .i64 s.v) 52 _ rfl).gr hg).cells
        have xl := ((AccAt.new w (.int .i64 s.k) (.string s.a) (.int .i64 s.n) (.int .i64 s.o) (.string s.u) (.int .i64 s.y) (.int .i64 s.v) 52 _ rfl).gr hg).lt
        have HG1 : Hid (Gr w w1) := (Gr.refl _).alloc.trans hg
        clear hg
        go_wp2
        go_ret
        exact ⟨by rw [HF.out]; rfl, HG1.out⟩
    | false =>
      have e2 : CE = 60 := HE.out
      subst e2
      have HF : Hid (OB = false) := HB.out
      clear h1 HB HE
      go_enter Try.func32, Try.ntmps32
      go_wp2_with fail
      refine (HC.out _).mono ?_
      rintro e w1 ⟨rfl, hg⟩
      obtain ⟨x0, x1, x2, x3, x4, x5, x6⟩ := ((AccAt.new w (.int .i64 s.k) (.string s.a) (.int .i64 s.n) (.int .i64 s.o) (.string s.u) (.int .i64 s.y) (.int .i64 s.v) 52 _ rfl).gr hg).cells
      have xl := ((AccAt.new w (.int .i64 s.k) (.string s.a) (.int .i64 s.n) (.int .i64 s.o) (.string s.u) (.int .i64 s.y) (.int .i64 s.v) 52 _ rfl).gr hg).lt
      have HG1 : Hid (Gr w w1) := (Gr.refl _).alloc.trans hg
      clear hg
      go_wp2
      go_ret
      exact ⟨by rw [HF.out]; rfl, HG1.out⟩
  · rw [decide_eq_false h1] at ht HB
    have ht2 : (s.u.toList == []) = false := ht
    have HF : Hid (OB = false) := HB.out
    clear ht h1 HB HE
    go_enter Try.func32, Try.ntmps32
    go_wp2
    go_ret
    exact ⟨by rw [HF.out]; rfl, (by repeat (first | exact Gr.refl _ | refine Gr.alloc ?_ | refine Gr.drew ?_ | refine Gr.trans ?_ (by assumption)))⟩
set_option maxHeartbeats 4000000 in
set_option maxRecDepth 100000 in
theorem asks_any (s : Stp) (w : World) (hs : inS s) : Calls Try.prog 33 #[.agg #[.int .i64 s.k, .string s.a, .int .i64 s.n, .int .i64 s.o, .string s.u, .int .i64 s.y, .int .i64 s.v]] w fun e w' => e = .returned (.bool (askB s)) ∧ Gr w w' := by
  have HN : Hid (∀ w', Calls Try.prog 30 #[.string s.u] w' fun e w2 => e = .returned (.bool (nameB s.u)) ∧ w2 = w') := fun w' => name_any s.u w' hs.2.1
  have HO : Hid (∀ w', Calls Try.prog 31 #[.int .i64 s.o, .int .i64 0, .int .i64 15] w' fun e w2 => e = .returned (.bool (decide (0 ≤ s.o) && decide (s.o ≤ 15))) ∧ w2 = w') := fun w' => within_any s.o 0 15 w'
  have HV : Hid (∀ w', Calls Try.prog 31 #[.int .i64 s.v, .int .i64 1, .int .i64 50] w' fun e w2 => e = .returned (.bool (decide (1 ≤ s.v) && decide (s.v ≤ 50))) ∧ w2 = w') := fun w' => within_any s.v 1 50 w'
  have ht := text_eq s.a []
  rw [show (⟨[].toArray⟩ : ByteArray) = ⟨#[]⟩ from rfl] at ht
  have HB : Hid (askB s = (nameB s.u && (decide (s.k = 0) && decide (s.a = ⟨#[]⟩) && decide (s.n = 0)) && decide (s.y = 0) && (decide (0 ≤ s.o) && decide (s.o ≤ 15)) && (decide (1 ≤ s.v) && decide (s.v ≤ 50)))) := rfl
  clear hs
  generalize askB s = OB at *
  generalize (decide (0 ≤ s.o) && decide (s.o ≤ 15)) = OR at *
  generalize (decide (1 ≤ s.v) && decide (s.v ≤ 50)) = VR at *
  generalize nameB s.u = NB at *
  cases NB with
  | true =>
    by_cases hk : s.k = 0
    · rw [decide_eq_true hk] at HB
      have ek : (s.k == 0) = true := by simpa using hk
      clear hk
      by_cases ha : s.a = ⟨#[]⟩
      · rw [decide_eq_true ha] at HB ht
        have ea : (s.a.toList == []) = true := ht
        clear ha ht
        by_cases hn : s.n = 0
        · rw [decide_eq_true hn] at HB
          have en : (s.n == 0) = true := by simpa using hn
          clear hn
          by_cases hy : s.y = 0
          · rw [decide_eq_true hy] at HB
            have ey : (s.y == 0) = true := by simpa using hy
            clear hy
            cases OR with
            | true =>
              have HF : Hid (OB = VR) := HB.out
              clear HB
              go_enter Try.func33, Try.ntmps33
              go_wp2_with fail
              refine (HN.out _).mono ?_
              rintro e w1 ⟨rfl, hw⟩; obtain rfl := hw.symm
              go_wp2_with fail
              refine (HO.out _).mono ?_
              rintro e w1 ⟨rfl, hw⟩; obtain rfl := hw.symm
              go_wp2_with fail
              refine (HV.out _).mono ?_
              rintro e w1 ⟨rfl, hw⟩; obtain rfl := hw.symm
              go_wp2
              go_ret
              exact ⟨by rw [HF.out]; rfl, (by repeat (first | exact Gr.refl _ | refine Gr.alloc ?_ | refine Gr.drew ?_ | refine Gr.trans ?_ (by assumption)))⟩
            | false =>
              have HF : Hid (OB = false) := HB.out
              clear HB
              go_enter Try.func33, Try.ntmps33
              go_wp2_with fail
              refine (HN.out _).mono ?_
              rintro e w1 ⟨rfl, hw⟩; obtain rfl := hw.symm
              go_wp2_with fail
              refine (HO.out _).mono ?_
              rintro e w1 ⟨rfl, hw⟩; obtain rfl := hw.symm
              go_wp2
              go_ret
              exact ⟨by rw [HF.out]; rfl, (by repeat (first | exact Gr.refl _ | refine Gr.alloc ?_ | refine Gr.drew ?_ | refine Gr.trans ?_ (by assumption)))⟩
          · rw [decide_eq_false hy] at HB
            have ey : (s.y == 0) = false := by simpa using hy
            have HF : Hid (OB = false) := HB.out.trans (by simp)
            clear hy HB
            go_enter Try.func33, Try.ntmps33
            go_wp2_with fail
            refine (HN.out _).mono ?_
            rintro e w1 ⟨rfl, hw⟩; obtain rfl := hw.symm
            go_wp2
            go_ret
            exact ⟨by rw [HF.out]; rfl, (by repeat (first | exact Gr.refl _ | refine Gr.alloc ?_ | refine Gr.drew ?_ | refine Gr.trans ?_ (by assumption)))⟩
        · rw [decide_eq_false hn] at HB
          have en : (s.n == 0) = false := by simpa using hn
          have HF : Hid (OB = false) := HB.out.trans (by simp)
          clear hn HB
          go_enter Try.func33, Try.ntmps33
          go_wp2_with fail
          refine (HN.out _).mono ?_
          rintro e w1 ⟨rfl, hw⟩; obtain rfl := hw.symm
          go_wp2
          go_ret
          exact ⟨by rw [HF.out]; rfl, (by repeat (first | exact Gr.refl _ | refine Gr.alloc ?_ | refine Gr.drew ?_ | refine Gr.trans ?_ (by assumption)))⟩
      · rw [decide_eq_false ha] at HB ht
        have ea : (s.a.toList == []) = false := ht
        have HF : Hid (OB = false) := HB.out.trans (by simp)
        clear ha HB ht
        go_enter Try.func33, Try.ntmps33
        go_wp2_with fail
        refine (HN.out _).mono ?_
        rintro e w1 ⟨rfl, hw⟩; obtain rfl := hw.symm
        go_wp2
        go_ret
        exact ⟨by rw [HF.out]; rfl, (by repeat (first | exact Gr.refl _ | refine Gr.alloc ?_ | refine Gr.drew ?_ | refine Gr.trans ?_ (by assumption)))⟩
    · rw [decide_eq_false hk] at HB
      have ek : (s.k == 0) = false := by simpa using hk
      have HF : Hid (OB = false) := HB.out.trans (by simp)
      clear hk HB ht
      go_enter Try.func33, Try.ntmps33
      go_wp2_with fail
      refine (HN.out _).mono ?_
      rintro e w1 ⟨rfl, hw⟩; obtain rfl := hw.symm
      go_wp2
      go_ret
      exact ⟨by rw [HF.out]; rfl, (by repeat (first | exact Gr.refl _ | refine Gr.alloc ?_ | refine Gr.drew ?_ | refine Gr.trans ?_ (by assumption)))⟩
  | false =>
    have HF : Hid (OB = false) := HB.out
    clear HB
    go_enter Try.func33, Try.ntmps33
    go_wp2_with fail
    refine (HN.out _).mono ?_
    rintro e w1 ⟨rfl, hw⟩; obtain rfl := hw.symm
    go_wp2
    go_ret
    exact ⟨by rw [HF.out]; rfl, (by repeat (first | exact Gr.refl _ | refine Gr.alloc ?_ | refine Gr.drew ?_ | refine Gr.trans ?_ (by assumption)))⟩
end Go.Proofs.Ytfobfpigbfepoaa
namespace Go.Proofs.Ytfobfpigbfepoaa
open Go.RowKit
open Df (Stp)
def eqS (x y : Stp) : Bool := decide (x.k = y.k) && decide (x.a = y.a) && decide (x.n = y.n) && decide (x.o = y.o) && decide (x.u = y.u) && decide (x.y = y.y) && decide (x.v = y.v)
theorem eqS_iff (x y : Stp) : eqS x y = true ↔ x = y := by
  unfold eqS
  simp only [Bool.and_eq_true, decide_eq_true_eq]
  constructor
  · rintro ⟨⟨⟨⟨⟨⟨h1, h2⟩, h3⟩, h4⟩, h5⟩, h6⟩, h7⟩
    cases x; cases y; simp_all
  · rintro rfl; simp
theorem toL_eq (a b : ByteArray) : (a.toList = b.toList) ↔ a = b := by
  rw [ByteArray.toList_eq, ByteArray.toList_eq]
  exact ⟨Lex.list_bytes, fun h => by rw [h]⟩
theorem neq_stp (x y : Stp) (W : World) : (binOp .neq 52 (.agg #[.int .i64 x.k, .string x.a, .int .i64 x.n, .int .i64 x.o, .string x.u, .int .i64 x.y, .int .i64 x.v]) (.agg #[.int .i64 y.k, .string y.a, .int .i64 y.n, .int .i64 y.o, .string y.u, .int .i64 y.y, .int .i64 y.v])).run Try.prog W = .ok (.bool (!eqS x y)) W := by
  go_simp
  unfold eqS
  simp only [toL_eq]
  by_cases h1 : x.k = y.k <;> by_cases h2 : x.a = y.a <;> by_cases h3 : x.n = y.n <;> by_cases h4 : x.o = y.o <;> by_cases h5 : x.u = y.u <;> by_cases h6 : x.y = y.y <;> by_cases h7 : x.v = y.v <;> simp [h1, h2, h3, h4, h5, h6, h7]
def eqL (L M : List Stp) : Bool := decide (L.length = M.length) && (List.range L.length).all (fun j => eqS (L.getD j ⟨0, ⟨#[]⟩, 0, 0, ⟨#[]⟩, 0, 0⟩) (M.getD j ⟨0, ⟨#[]⟩, 0, 0, ⟨#[]⟩, 0, 0⟩))
theorem eqL_iff (L M : List Stp) : eqL L M = true ↔ L = M := by
  unfold eqL
  simp only [Bool.and_eq_true, decide_eq_true_eq, List.all_eq_true, List.mem_range, eqS_iff]
  constructor
  · rintro ⟨h1, h2⟩
    refine List.ext_getElem h1 (fun j hj hj' => ?_)
    have := h2 j hj
    rwa [List.getD_eq_getElem?_getD, List.getD_eq_getElem?_getD, List.getElem?_eq_getElem hj, List.getElem?_eq_getElem hj'] at this
  · rintro rfl; simp
theorem eqL_no {L M : List Stp} (j : Nat) (h1 : j < L.length) (h2 : j < M.length) (h : eqS L[j] M[j] = false) : eqL L M = false := by
  cases he : eqL L M with
  | false => rfl
  | true =>
    have := (eqL_iff L M).1 he
    subst this
    rw [(eqS_iff _ _).2 rfl] at h; cases h
theorem eqL_len {L M : List Stp} (h : L.length ≠ M.length) : eqL L M = false := by unfold eqL; rw [decide_eq_false h]; rfl
theorem eqL_yes {L M : List Stp} (h0 : L.length = M.length) (h : ∀ j (h1 : j < L.length) (h2 : j < M.length), eqS L[j] M[j] = true) : eqL L M = true :=
  (eqL_iff L M).2 (List.ext_getElem h0 (fun j h1 h2 => (eqS_iff _ _).1 (h j h1 h2)))
end Go.Proofs.Ytfobfpigbfepoaa
namespace Go.Proofs.Ytfobfpigbfepoaa
open Go.RowKit Go.Maps
open Df (kw wk)
theorem strLaw : Keyed Try.prog 9 := string_keyed Try.underlying9
theorem zeroInt (w : World) : (zeroValue 3).run Try.prog w = .ok (.int .i64 0) w := by kernel_rfl
theorem key_any (s : ByteArray) (h : s.size ≤ 9223372036854775807) : keyOf Try.prog 9 (.string s) = some (ks s) := WideMaps.keyOf_string_mk Try.underlying9 (by unfold maxLen; omega)
set_option maxHeartbeats 1000000 in
theorem kinds_any (w : World) : Calls Try.prog 55 #[] w fun e w' => e = .returned (.map (some w.heap.size)) ∧ MapK w' w.heap.size ∧ Gr w w' := by
  have hmm := @run_makeMap Try.prog
  have h0 := World.ownsMap_made w Try.prog 9 (plainElem (H := Unit) Try.prog 3)
  have hv : ∀ n : Int, 1 ≤ n → n ≤ 4 → plainElem (H := Unit) Try.prog 3 (.int .i64 n) = some (.lit (.int .i64 n), []) := fun n h1 h2 => plainElem_int Try.underlying3 (WalkArith.wf_i64 (by omega))
  obtain ⟨w1, r1, o1, g1⟩ := h0.update strLaw Try.underlying95 (by unfold maxLen; omega) (key_any Df.wDebit (by decide)) (hv 1 (by omega) (by omega))
  obtain ⟨w2, r2, o2, g2⟩ := o1.update strLaw Try.underlying95 (by unfold maxLen; omega) (key_any Df.wCredit (by decide)) (hv 2 (by omega) (by omega))
  obtain ⟨w3, r3, o3, g3⟩ := o2.update strLaw Try.underlying95 (by unfold maxLen; omega) (key_any Df.wReserve (by decide)) (hv 3 (by omega) (by omega))
  obtain ⟨w4, r4, o4, g4⟩ := o3.update strLaw Try.underlying95 (by unfold maxLen; omega) (key_any Df.wRelease (by decide)) (hv 4 (by omega) (by omega))
  have HO : Hid (MapK w4 w.heap.size) := o4
  have HG : Hid (Gr w w4) := by
    have a1 : GB w.heap.size (w.alloc (.map #[] 0)) w1 := ⟨g1⟩
    have a2 : GB w.heap.size w1 w2 := ⟨g2⟩
    have a3 : GB w.heap.size w2 w3 := ⟨g3⟩
    have a4 : GB w.heap.size w3 w4 := ⟨g4⟩
    exact Gr.gb (Gr.refl w).alloc (((a1.trans a2).trans a3).trans a4) (Nat.le_refl _)
  unfold Df.wDebit at r1
  unfold Df.wCredit at r2
  unfold Df.wReserve at r3
  unfold Df.wRelease at r4
  clear h0 hv o1 o2 o3 o4 g1 g2 g3 g4
  go_enter Try.func55, Try.ntmps55
  go_wp2
  go_ret
  exact ⟨rfl, HO.out, HG.out⟩
end Go.Proofs.Ytfobfpigbfepoaa
namespace Go.Proofs.Ytfobfpigbfepoaa
open Go.RowKit
open Lex (Tok)
open Df (Stp St tk Gd isT passB passS mustS takeB takeV takeS)
theorem Rd.tok {w : World} {b m : Nat} {ad : Option Addr} {T : List Tok} {cap : Nat} {q : St} (h : Rd w b m ad T cap q) (hi : q.i < T.length) : ∃ tb off, ad = some ⟨tb, off, none⟩ ∧ tb < w.heap.size ∧ w.cell? ⟨tb, off + q.i * 3, none⟩ = some (.int .i64 (tk T q.i).k) ∧ w.cell? ⟨tb, off + q.i * 3 + 1, none⟩ = some (.string (tk T q.i).t) ∧ w.cell? ⟨tb, off + q.i * 3 + 2, none⟩ = some (.int .i64 (tk T q.i).p) := by
  rw [Df.tk_get T q.i hi]
  exact h.ts q.i hi
set_option maxHeartbeats 2000000 in
theorem dHere_any (b m : Nat) (ad : Option Addr) (T : List Tok) (cap : Nat) (q : St) (w : World) (h : Rd w b m ad T cap q) (hi : q.i < T.length) :
    Calls Try.prog 57 #[.pointer (some ⟨b, 0, none⟩)] w fun e w' => e = .returned (.agg #[.int .i64 (tk T q.i).k, .string (tk T q.i).t, .int .i64 (tk T q.i).p]) ∧ Gr w w' := by
  obtain ⟨tb, off, rfl, htb, t0, t1, t2⟩ := h.tok hi
  obtain ⟨c0, c1, c2, c3, f1, f2, lt, ts, na, mp, nm⟩ := h
  generalize tk T q.i = x at *
  obtain ⟨xk, xt, xp⟩ := x
  obtain ⟨i, s⟩ := q
  simp only at *
  clear ts na mp nm c2 c3 f1 f2
  go_enter Try.func57, Try.ntmps57
  go_wp2
  go_region
  go_wp2
  refine bodyPost_ret (v := .agg #[.int .i64 xk, .string xt, .int .i64 xp]) (by simp [results, Try.results57, go_sem]) rfl ⟨rfl, ?_⟩
  exact (by (repeat' (first | with_reducible exact Gr.refl _ | with_reducible refine Gr.set ?_ _ ?_ _ | with_reducible refine Gr.alloc ?_ | with_reducible refine Gr.drew ?_ | with_reducible refine Gr.trans ?_ (by assumption))) <;> (first | (simp; done) | (simp; omega) | omega))
set_option maxHeartbeats 4000000 in
set_option maxRecDepth 100000 in
theorem dTake_any (b m : Nat) (ad : Option Addr) (T : List Tok) (cap : Nat) (q : St) (k : Int) (w : World) (h : Rd w b m ad T cap q) (hT : Gd T) (hi : q.i < T.length) (hn : T.length ≤ 5000) :
    Calls Try.prog 68 #[.pointer (some ⟨b, 0, none⟩), .int .i64 k] w fun e w' => e = .returned (.string (takeV T q k)) ∧ Rd w' b m ad T cap (takeS T q k) ∧ GB b w w' := by
  have HH : Hid (∀ w', Rd w' b m ad T cap q → Calls Try.prog 57 #[.pointer (some ⟨b, 0, none⟩)] w' fun e w2 => e = .returned (.agg #[.int .i64 (tk T q.i).k, .string (tk T q.i).t, .int .i64 (tk T q.i).p]) ∧ Gr w' w2) := fun w' h' => dHere_any b m ad T cap q w' h' hi
  have HC : Hid (∀ w', Calls Try.prog 28 #[.string (tk T q.i).t] w' fun e w2 => e = .returned (.string (tk T q.i).t) ∧ Gr w' w2) := fun w' => clone_any _ w' (by have := hT.size q.i; omega)
  have HB : Hid (takeB T q k = (!q.s && decide ((tk T q.i).k = k))) := rfl
  have HV : Hid (takeV T q k = if takeB T q k = true then (tk T q.i).t else ⟨#[]⟩) := rfl
  have HS : Hid (takeS T q k = if takeB T q k = true then ⟨q.i + 1, q.s⟩ else ⟨q.i, true⟩) := rfl
  have HR : Hid (Rd w b m ad T cap q) := h
  obtain ⟨i, st⟩ := q
  simp only at *
  generalize takeV T ⟨i, st⟩ k = TV at *
  generalize takeS T ⟨i, st⟩ k = TS at *
  generalize takeB T ⟨i, st⟩ k = TB at *
  generalize tk T i = x at *
  obtain ⟨xk, xt, xp⟩ := x
  simp only at *
  have e2 : wrap64 ((i : Int) + 1) = ((i + 1 : Nat) : Int) := by unfold wrap64; omega
  obtain ⟨j, hj⟩ : ∃ j, j = i + 1 := ⟨_, rfl⟩
  rw [← hj] at e2 HS
  clear hT hi hn h
  go_enter Try.func68, Try.ntmps68
  go_wp2_with fail
  refine (HH.out _ HR.out).mono ?_
  rintro e w1 ⟨rfl, hg1⟩
  have HG1 : Hid (Gr w w1) := hg1
  have HR1 : Hid (Rd (w1.alloc (.cells #[.int .i64 xk, .string xt, .int .i64 xp] 79)) b m ad T cap ⟨i, st⟩) := (HR.out.gr hg1).gr (Gr.refl _).alloc
  obtain ⟨c0, c1, c2, c3, f1, f2, lt, _, _, _, _⟩ := HR.out.gr hg1
  simp only at c0 c1 c2 c3
  clear hg1
  cases st with
  | true =>
    obtain rfl : TB = false := HB.out
    have ev : Hid (TV = ⟨#[]⟩ ∧ TS = ⟨i, true⟩) := ⟨HV.out, HS.out⟩
    clear HB HV HS
    go_wp2
    go_ret
    refine ⟨by rw [ev.out.1]; rfl, ?_, ?_⟩
    · rw [ev.out.2]
      first | exact HR1.out.set2 true | exact ((HR.out.gr HG1.out).set2 true).gr (Gr.refl _).alloc
    · first | exact GB.setNew ((GB.ofGr HG1.out).alloc) ⟨b, _, none⟩ _ (Or.inr rfl) | exact GB.alloc (GB.setNew (GB.ofGr HG1.out) ⟨b, _, none⟩ _ (Or.inr rfl))
  | false =>
    by_cases hk : xk = k
    · have e0 : (xk != k) = false := by simpa using hk
      obtain rfl : TB = true := by rw [HB.out, decide_eq_true hk]; rfl
      have ev : Hid (TV = xt ∧ TS = ⟨j, false⟩) := ⟨HV.out, HS.out⟩
      clear HB HV HS hk hj
      go_wp2_with fail
      refine (HC.out _).mono ?_
      rintro e w2 ⟨rfl, hg2⟩
      have HG2 := Lib.hid hg2
      clear hg2
      go_wp2
      go_ret
      refine ⟨by rw [ev.out.1]; rfl, ?_, ?_⟩
      · rw [ev.out.2]
        refine Rd.gr ?_ HG2.out
        first | exact HR1.out.set1 j | exact ((HR.out.gr HG1.out).set1 j).gr (Gr.refl _).alloc
      · refine GB.gr ?_ HG2.out
        first | exact GB.setNew ((GB.ofGr HG1.out).alloc) ⟨b, _, none⟩ _ (Or.inr rfl) | exact GB.alloc (GB.setNew (GB.ofGr HG1.out) ⟨b, _, none⟩ _ (Or.inr rfl))
    · have e0 : (xk != k) = true := by simpa using hk
      obtain rfl : TB = false := by rw [HB.out, decide_eq_false hk]; rfl
      have ev : Hid (TV = ⟨#[]⟩ ∧ TS = ⟨i, true⟩) := ⟨HV.out, HS.out⟩
      clear HB HV HS hk hj
      go_wp2
      go_ret
      refine ⟨by rw [ev.out.1]; rfl, ?_, ?_⟩
      · rw [ev.out.2]
        first | exact HR1.out.set2 true | exact ((HR.out.gr HG1.out).set2 true).gr (Gr.refl _).alloc
      · first | exact GB.setNew ((GB.ofGr HG1.out).alloc) ⟨b, _, none⟩ _ (Or.inr rfl) | exact GB.alloc (GB.setNew (GB.ofGr HG1.out) ⟨b, _, none⟩ _ (Or.inr rfl))
set_option maxHeartbeats 4000000 in
set_option maxRecDepth 100000 in
theorem dPass_any (b m : Nat) (ad : Option Addr) (T : List Tok) (cap : Nat) (q : St) (k : Int) (t : ByteArray) (w : World) (h : Rd w b m ad T cap q) (hi : q.i < T.length) (hn : T.length ≤ 5000) :
    Calls Try.prog 69 #[.pointer (some ⟨b, 0, none⟩), .int .i64 k, .string t] w fun e w' => e = .returned (.bool (passB T q k t)) ∧ Rd w' b m ad T cap (passS T q k t) ∧ GB b w w' := by
  have HH : Hid (∀ w', Rd w' b m ad T cap q → Calls Try.prog 57 #[.pointer (some ⟨b, 0, none⟩)] w' fun e w2 => e = .returned (.agg #[.int .i64 (tk T q.i).k, .string (tk T q.i).t, .int .i64 (tk T q.i).p]) ∧ Gr w' w2) := fun w' h' => dHere_any b m ad T cap q w' h' hi
  have HB : Hid (passB T q k t = (!q.s && (decide ((tk T q.i).k = k) && decide ((tk T q.i).t = t)))) := rfl
  have HS : Hid (passS T q k t = if passB T q k t = true then ⟨q.i + 1, q.s⟩ else q) := rfl
  have HR : Hid (Rd w b m ad T cap q) := h
  obtain ⟨i, st⟩ := q
  simp only at *
  generalize passS T ⟨i, st⟩ k t = TS at *
  generalize passB T ⟨i, st⟩ k t = TB at *
  generalize tk T i = x at *
  obtain ⟨xk, xt, xp⟩ := x
  simp only at *
  have e2 : wrap64 ((i : Int) + 1) = ((i + 1 : Nat) : Int) := by unfold wrap64; omega
  obtain ⟨j, hj⟩ : ∃ j, j = i + 1 := ⟨_, rfl⟩
  rw [← hj] at e2 HS
  have ht := text_ne xt t.data.toList
  rw [Lex.bytes_list, ← show t.toList = t.data.toList from ByteArray.toList_eq t] at ht
  clear hi hn h
  go_enter Try.func69, Try.ntmps69
  go_wp2_with fail
  refine (HH.out _ HR.out).mono ?_
  rintro e w1 ⟨rfl, hg1⟩
  have HG1 : Hid (Gr w w1) := hg1
  have HR1 : Hid (Rd (w1.alloc (.cells #[.int .i64 xk, .string xt, .int .i64 xp] 79)) b m ad T cap ⟨i, st⟩) := (HR.out.gr hg1).gr (Gr.refl _).alloc
  obtain ⟨c0, c1, c2, c3, f1, f2, lt, _, _, _, _⟩ := HR.out.gr hg1
  simp only at c0 c1 c2 c3
  clear hg1
  cases st with
  | true =>
    obtain rfl : TB = false := HB.out
    have ev : Hid (TS = ⟨i, true⟩) := HS.out
    clear HB HS ht hj
    go_wp2
    go_ret
    exact ⟨rfl, by rw [ev.out]; exact HR1.out, (GB.ofGr HG1.out).alloc⟩
  | false =>
    by_cases hk : xk = k
    · have e0 : (xk != k) = false := by simpa using hk
      by_cases h2 : xt = t
      · obtain rfl : TB = true := by rw [HB.out, decide_eq_true hk, decide_eq_true h2]; rfl
        have ev : Hid (TS = ⟨j, false⟩) := HS.out
        rw [decide_eq_true h2] at ht
        have ht2 : (xt.toList != t.toList) = false := ht
        have ht3 : (xt.toList == t.toList) = true := by simpa using ht2
        clear HB HS hk h2 ht hj
        go_wp2
        go_ret
        refine ⟨rfl, ?_, ?_⟩
        · rw [ev.out]
          first | exact HR1.out.set1 j | exact ((HR.out.gr HG1.out).set1 j).gr (Gr.refl _).alloc
        · first | exact GB.setNew ((GB.ofGr HG1.out).alloc) ⟨b, _, none⟩ _ (Or.inr rfl) | exact GB.alloc (GB.setNew (GB.ofGr HG1.out) ⟨b, _, none⟩ _ (Or.inr rfl))
      · obtain rfl : TB = false := by rw [HB.out, decide_eq_false h2]; simp
        have ev : Hid (TS = ⟨i, false⟩) := HS.out
        rw [decide_eq_false h2] at ht
        have ht2 : (xt.toList != t.toList) = true := ht
        have ht3 : (xt.toList == t.toList) = false := by simpa using ht2
        clear HB HS hk h2 ht hj
        go_wp2
        go_ret
        exact ⟨rfl, by rw [ev.out]; exact HR1.out, (GB.ofGr HG1.out).alloc⟩
    · have e0 : (xk != k) = true := by simpa using hk
      obtain rfl : TB = false := by rw [HB.out, decide_eq_false hk]; rfl
      have ev : Hid (TS = ⟨i, false⟩) := HS.out
      clear HB HS hk hj ht
      go_wp2
      go_ret
      exact ⟨rfl, by rw [ev.out]; exact HR1.out, (GB.ofGr HG1.out).alloc⟩
set_option maxHeartbeats 2000000 in
set_option maxRecDepth 100000 in
theorem dMust_any (b m : Nat) (ad : Option Addr) (T : List Tok) (cap : Nat) (q : St) (k : Int) (t : ByteArray) (w : World) (h : Rd w b m ad T cap q) (hi : q.i < T.length) (hn : T.length ≤ 5000) :
    Calls Try.prog 67 #[.pointer (some ⟨b, 0, none⟩), .int .i64 k, .string t] w fun e w' => e = .returned (.tuple #[]) ∧ Rd w' b m ad T cap (mustS T q k t) ∧ GB b w w' := by
  have HP : Hid (Calls Try.prog 69 #[.pointer (some ⟨b, 0, none⟩), .int .i64 k, .string t] w fun e w' => e = .returned (.bool (passB T q k t)) ∧ Rd w' b m ad T cap (passS T q k t) ∧ GB b w w') := dPass_any b m ad T cap q k t w h hi hn
  have HS : Hid (mustS T q k t = if passB T q k t = true then ⟨q.i + 1, q.s⟩ else ⟨q.i, true⟩) := rfl
  have HS2 : Hid (passS T q k t = if passB T q k t = true then ⟨q.i + 1, q.s⟩ else q) := rfl
  generalize mustS T q k t = MS at *
  generalize passS T q k t = TS at *
  generalize passB T q k t = TB at *
  clear hi hn h
  cases TB with
  | true =>
    have ev : Hid (MS = TS) := HS.out.trans HS2.out.symm
    clear HS HS2
    go_enter Try.func67, Try.ntmps67
    go_wp2_with fail
    refine HP.out.mono ?_
    rintro e w1 ⟨rfl, hr, hg⟩
    have HR1 := Lib.hid hr
    have HG1 := Lib.hid hg
    clear hr hg
    go_wp2
    go_end0
    exact ⟨rfl, by rw [ev.out]; exact HR1.out, HG1.out⟩
  | false =>
    have ev : Hid (TS = q ∧ MS = ⟨q.i, true⟩) := ⟨HS2.out, HS.out⟩
    clear HS HS2
    go_enter Try.func67, Try.ntmps67
    go_wp2_with fail
    refine HP.out.mono ?_
    rintro e w1 ⟨rfl, hr, hg⟩
    rw [ev.out.1] at hr
    have HR1 := Lib.hid hr
    have HG1 := Lib.hid hg
    obtain ⟨c0, c1, c2, c3, f1, f2, lt, _, _, _, _⟩ := hr
    clear hg
    go_wp2
    go_end0
    exact ⟨rfl, by rw [ev.out.2]; exact HR1.out.set2 true, HG1.out.setNew _ _ (Or.inr rfl)⟩
end Go.Proofs.Ytfobfpigbfepoaa
namespace Go.Proofs.Ytfobfpigbfepoaa
open Go.RowKit
open _root_.Go.Proofs.Ytfobfpigbfepoaa.Act (letB digB sgnB nameB)
open Lex (Tok numB sigB vl valE valB)
set_option maxHeartbeats 4000000 in
set_option maxRecDepth 100000 in
theorem value_any (k : Int) (s : ByteArray) (p : Int) (w : World) (hs : s.size ≤ 9223372036854775807) : Calls Try.prog 77 #[.agg #[.int .i64 k, .string s, .int .i64 p]] w fun e w' => e = .returned (.tuple #[.int .i64 (valE k s), .bool (valB k s)]) ∧ Gr w w' := by
  by_cases h2 : k = 2
  · subst h2
    have HN : Hid (∀ w : World, Calls Try.prog 66 #[.string s] w fun e w' => e = .returned (.bool (numB s)) ∧ Gr w w') := fun w => isNumber_any s w hs
    cases hnb : numB s with
    | false =>
      have E1 : valE 2 s = 0 := by unfold Lex.valE; rw [if_neg]; rw [hnb]; simp
      have E2 : valB 2 s = false := by unfold Lex.valB; rw [hnb]; rfl
      rw [E1, E2]
      rw [hnb] at HN
      go_enter Try.func77, Try.ntmps77
      go_wp2_with fail
      refine (HN.out _).mono ?_
      rintro e w1 ⟨rfl, hg1⟩
      go_wp2
      go_ret2
      exact ⟨rfl, (by repeat (first | exact Gr.refl _ | refine Gr.alloc ?_ | refine Gr.drew ?_ | refine Gr.trans ?_ (by assumption)))⟩
    | true =>
      have E1 : valE 2 s = vl s.data.toList 0 := by unfold Lex.valE; rw [if_pos ⟨rfl, hnb⟩]
      have E2 : valB 2 s = true := by unfold Lex.valB; rw [hnb]; rfl
      obtain ⟨p1, p16, pd⟩ := Lex.num_parts hnb
      rw [E2, E1]
      rw [hnb] at HN
      have hl : s.data.toList.length = s.size := by simp
      have HV : Hid (∀ j (hj : j < s.size), vl (s.data.toList.take (j + 1)) 0 = vl (s.data.toList.take j) 0 * 10 + (((s[j]'hj).toNat : Int) - 48)) := fun j hj => Lex.vl_take s.data.toList j (by omega)
      have HR : Hid (∀ j, 0 ≤ vl (s.data.toList.take j) 0 ∧ vl (s.data.toList.take j) 0 < 10000000000000000) := fun j => Lex.vl_rng _ (by rw [List.length_take]; omega) (fun b hb => by
        obtain ⟨i, hi, rfl⟩ := List.getElem_of_mem (List.mem_of_mem_take hb)
        exact pd i (by omega))
      have HD : Hid (∀ j (hj : j < s.size), (48 : Int) ≤ ((s[j]'hj).toNat : Int) ∧ ((s[j]'hj).toNat : Int) ≤ 57) := fun j hj => by
        have := pd j hj
        unfold Act.digB at this; simpa only [Bool.and_eq_true, decide_eq_true_eq] using this
      have HL : Hid (s.data.toList.take s.size = s.data.toList) := by show _ = _; rw [← hl, List.take_length]
      clear hnb E1 E2 pd hl
      generalize s.data.toList = L at *
      go_enter Try.func77, Try.ntmps77
      go_wp2_with fail
      refine (HN.out _).mono ?_
      rintro e w1 ⟨rfl, hg1⟩
      have hx1 := (BoxAt.new w (.int .i64 2) (.string s) (.int .i64 p) 79 _ rfl).gr hg1
      have HG1 : Hid (Gr w w1) := (Gr.refl _).alloc.trans hg1
      obtain ⟨x0, x1, x2, _, _, _, xl⟩ := hx1
      clear hg1
      go_wp2
      go_loop [4, 18] (fun n i => ∃ j : Nat, j ≤ s.size ∧ i = .int .i64 (j : Int) ∧ n = .int .i64 (vl (L.take j) 0)) (fun _ i => s.size - (intOf i).toNat)
      case atStart => exact ⟨0, by omega, rfl, rfl⟩
      case round =>
        obtain ⟨j, hj, rfl, rfl⟩ := hrel
        by_cases hlt : j < s.size
        · have hv := HV.out j hlt
          obtain ⟨r0, r1⟩ := HR.out j
          obtain ⟨d0, d1⟩ := HD.out j hlt
          have w1' : wrap64 (vl (L.take j) 0 * 10) = vl (L.take j) 0 * 10 := by unfold wrap64; omega
          have w2' : IntKind.u8.wrap (((s[j]'hlt).toNat : Int) - 48) = ((s[j]'hlt).toNat : Int) - 48 := by rw [IntKind.wrap_u8]; omega
          have w3' : wrap64 (((s[j]'hlt).toNat : Int) - 48) = ((s[j]'hlt).toNat : Int) - 48 := by unfold wrap64; omega
          have w4' : wrap64 (vl (L.take j) 0 * 10 + (((s[j]'hlt).toNat : Int) - 48)) = vl (L.take (j + 1)) 0 := by rw [hv]; unfold wrap64; omega
          have HV2 : Hid (vl (L.take j) 0 * 10 + (((s[j]'hlt).toNat : Int) - 48) = vl (L.take (j + 1)) 0) := hv.symm
          clear hv
          go_wp2
          go_round
          case rel => exact ⟨j + 1, by omega, by go_num, by rw [← HV2.out]⟩
          case measure => simp [intOf]; omega
        · obtain rfl : j = s.size := by omega
          rw [HL.out]
          go_wp2
          go_ret2
          exact ⟨rfl, HG1.out⟩
  · have E1 : valE k s = 0 := by unfold Lex.valE; rw [if_neg (fun h => h2 h.1)]
    have E2 : valB k s = false := by unfold Lex.valB; rw [decide_eq_false h2]; rfl
    rw [E1, E2]
    have e2 : (k != 2) = true := by simpa using h2
    clear h2
    go_enter Try.func77, Try.ntmps77
    go_wp2
    go_ret2
    exact ⟨rfl, (by repeat (first | exact Gr.refl _ | refine Gr.alloc ?_ | refine Gr.drew ?_ | refine Gr.trans ?_ (by assumption)))⟩
end Go.Proofs.Ytfobfpigbfepoaa
namespace Go.Proofs.Ytfobfpigbfepoaa
variable {P : Program} {md : Region.Mode} {ops : Array Oper} {Q : Exit → Act → World → Prop} {S : World → Prop}
theorem take_yes (i d : Nat) {oi : Oper} {v : Value} {fuel : Nat} {listed : Array Bool} {a : Act} {w : World} (hi : ops[i]? = some oi) (hd : oi.dst = some d)
    (hs : Region.noSelect ops = true) (hf : Region.free md ops listed i = true) (hr : (Region.ready md ops listed).contains i = true)
    (hQ : ∀ c a w, Q (.panic c) (a.put (some d) v) w → Q (.panic c) a w) (hw : Region.wanted oi (yielded ops a.tmps) = true) (hy : ∀ w, S w → (execOp a.eval oi).run P w = .ok (.value v) w) (hS : S w)
    (h : wpAnyH P md ops Q S fuel (listed.setIfInBounds i true) (a.put (some d) v) w) : wpAnyH P md ops Q S (fuel + 1) listed a w := by
  rw [← hd] at hQ h
  exact wpAnyH_take hi hs hf hr hQ (Or.inl ⟨hw, hy⟩) hS h
theorem take_not (i d : Nat) {oi : Oper} {fuel : Nat} {listed : Array Bool} {a : Act} {w : World} (hi : ops[i]? = some oi) (hd : oi.dst = some d)
    (hs : Region.noSelect ops = true) (hf : Region.free md ops listed i = true) (hr : (Region.ready md ops listed).contains i = true)
    (hQ : ∀ c a w, Q (.panic c) (a.put (some d) undef) w → Q (.panic c) a w) (hw : Region.wanted oi (yielded ops a.tmps) = false) (hS : S w)
    (h : wpAnyH P md ops Q S fuel (listed.setIfInBounds i true) (a.put (some d) undef) w) : wpAnyH P md ops Q S (fuel + 1) listed a w := by
  rw [← hd] at hQ h
  exact wpAnyH_take hi hs hf hr hQ (Or.inr ⟨hw, rfl⟩) hS h
theorem ty (i d : Nat) {oi : Oper} {v : Value} {fuel : Nat} {listed : Array Bool} {a a' : Act} {w : World} (hS : S w) (h : wpAnyH P md ops Q S fuel (listed.setIfInBounds i true) a' w)
    (hi : ops[i]? = some oi := by rfl) (hd : oi.dst = some d := by rfl) (hs : Region.noSelect ops = true := by kernel_rfl) (hf : Region.free md ops listed i = true := by kernel_rfl) (hr : (Region.ready md ops listed).contains i = true := by kernel_rfl)
    (hQ : ∀ c a w, Q (.panic c) (a.put (some d) v) w → Q (.panic c) a w := by exact fun _ _ _ h => h) (hw : Region.wanted oi (yielded ops a.tmps) = true := by rfl)
    (hy : ∀ w, S w → (execOp a.eval oi).run P w = .ok (.value v) w := by (intro w hSw; (try dsimp only at hSw); go_simp; try with_reducible rfl))
    (ha : a.put (some d) v = a' := by (simp only [Act.put, List.setIfInBounds_toArray, List.set_cons_zero, List.set_cons_succ]; rfl)) : wpAnyH P md ops Q S (fuel + 1) listed a w := by
  subst ha
  exact take_yes i d hi hd hs hf hr hQ hw hy hS h
end Go.Proofs.Ytfobfpigbfepoaa
