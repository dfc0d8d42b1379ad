/- What the proof is made of, part 12. -/
import Derived.Test.YtfobfpigbfepoaaTLBOrder11
namespace Go.Proofs.Ytfobfpigbfepoaa
open Lex (Tok ckE scT scF scA)
open Df (Stp St tk Gd prs pE pA pT pN pL)
theorem scT_size (l : List UInt8) (hl : l.length ≤ 9223372036854775807) : ∀ x ∈ scT l, x.t.size ≤ 9223372036854775807 := by
  intro x hx
  unfold Lex.scT at hx
  split at hx
  · cases hx
  · split at hx
    · have := (Lex.tok_rng _ _ _ x hx).2; omega
    · cases hx
theorem ck_scan {l : List UInt8} (h0 : scF l = 0) : ckE (scT l) ≠ 80 := by
  unfold Lex.scF at h0
  unfold Lex.scT
  split at h0
  · cases h0
  · rename_i hn
    split at h0
    · rename_i hs
      rw [if_neg hn, hs]
      exact Lex.okays_S l hs
    · cases h0
theorem pE_in {T : List Tok} (h80 : ckE T ≠ 80) {i : Nat} (h0 : pE T i = 0) : i < T.length := by
  unfold Df.pE at h0
  rw [if_neg h80] at h0
  split at h0
  · rename_i h; omega
  · cases h0
theorem prs_more {T : List Tok} (hT : Gd T) (i : Nat) {x : ByteArray × List Stp} (h : (prs T i).2 = some x) : i < (prs T i).1 := by
  unfold Df.prs at h ⊢
  by_cases h1 : Df.isT (tk T i) 1 Df.wSaga = true
  · rw [if_pos h1] at h ⊢
    by_cases h2 : (tk T (i + 1)).k = 1
    · rw [if_pos h2] at h ⊢
      by_cases h3 : Df.isT (tk T (i + 2)) 3 Df.gOpen = true
      · rw [if_pos h3] at h ⊢
        have key : ∀ f j L, (Df.stps T f j L).2 ≠ none → j < T.length → j ≤ (Df.stps T f j L).1 := by
          intro f
          induction f with
          | zero => intro j L h; exact absurd rfl h
          | succ f ih =>
            intro j L h hj
            unfold Df.stps at h ⊢
            by_cases h4 : Df.isT (tk T j) 3 Df.gShut = true
            · rw [if_pos h4]; exact Nat.le_succ _
            · rw [if_neg h4] at h ⊢
              have ho := Df.one_le hT j hj
              revert h ho
              rcases Df.one T j with ⟨j', _ | s⟩
              · intro h _; exact absurd rfl h
              · intro h ho
                have := ih j' (L ++ [s]) h ho.2.1
                have := ho.1
                simp only at *
                omega
        have h3b : i + 3 < T.length := by
          have k1 : i + 1 < T.length := by
            rcases Nat.lt_or_ge (i + 1) T.length with h | h
            · exact h
            · rw [Df.tk_out T (i + 1) h] at h2; cases h2
          have k2 := hT.next (i := i + 1) (by rw [h2]; decide)
          exact hT.next (i := i + 2) (by
            have := (Df.isT_iff _ _ _).1 h3
            rw [this.1]; decide)
        have := key (T.length + 1) (i + 3) []
        revert h this
        rcases Df.stps T (T.length + 1) (i + 3) [] with ⟨j, _ | L⟩
        · intro h _; cases h
        · intro _ hk
          have := hk (by simp) h3b
          simp only at *
          omega
      · rw [if_neg h3] at h; cases h
    · rw [if_neg h2] at h; cases h
  · rw [if_neg h1] at h; cases h
theorem pT_in {T : List Tok} (h80 : ckE T ≠ 80) {i : Nat} (h0 : pE T i = 0) : i < (pT T i).toNat ∧ (pT T i).toNat < T.length ∧ pT T i = ((pT T i).toNat : Int) := by
  have hi := pE_in h80 h0
  have hG := Df.gd_of h80
  unfold Df.pT
  rw [if_pos h0, Int.toNat_natCast, Int.toNat_natCast]
  refine ⟨?_, (Df.def_same hG i hi).2.2, rfl⟩
  unfold Df.pE at h0
  rw [if_neg h80, if_pos (by omega), Int.toNat_natCast] at h0
  cases ho : (prs T i).2 with
  | none => rw [ho] at h0; cases h0
  | some x => exact prs_more hG i ho
theorem pE_ok {T : List Tok} (h80 : ckE T ≠ 80) {i : Nat} (h0 : pE T i = 0) : Bk.okB ⟨pN T i, pL T i⟩ = true := by
  have hi := pE_in h80 h0
  unfold Bk.okB
  unfold Df.pN Df.pL
  rw [if_pos h0, if_pos h0]
  unfold Df.pE at h0
  rw [if_neg h80, if_pos (by omega)] at h0
  cases ho : (prs T (i : Int).toNat).2 with
  | none => rw [ho] at h0; cases h0
  | some x =>
    obtain ⟨nm, L⟩ := x
    rw [ho] at h0
    simp only at h0 ⊢
    cases hd : Df.defB nm L with
    | true => rfl
    | false => rw [Df.ch_no hd] at h0; cases h0
namespace Bk
theorem add_snoc : ∀ (M D : List Dn) (d : Dn), addE D M = 0 → addE D (M ++ [d]) = putE (addD D M) d ∧ (putE (addD D M) d = 0 → addD D (M ++ [d]) = ins (addD D M) d)
  | [], D, d, _ => by
    simp only [List.nil_append, addE, addD]
    constructor
    · by_cases hp : putE D d = 0
      · rw [if_pos hp, hp]
      · rw [if_neg hp]
    · intro hp; rw [if_pos hp]
  | y :: M, D, d, h => by
    simp only [List.cons_append, addE, addD] at h ⊢
    by_cases hp : putE D y = 0
    · rw [if_pos hp] at h ⊢
      rw [if_pos hp, if_pos hp]
      exact add_snoc M (ins D y) d h
    · rw [if_neg hp] at h; exact absurd h hp
def dnA (T : List Tok) (i : Nat) : Dn := ⟨pN T i, pL T i⟩
def rd (T : List Tok) : Nat → Nat → List Dn → Int × Int × List Dn
  | 0, _, D => (0, 0, D)
  | f + 1, i, D =>
    if (tk T i).k = 0 then (0, 0, D)
    else if pE T i ≠ 0 then (pE T i, pA T i, [])
    else if putE D (dnA T i) ≠ 0 then (putE D (dnA T i), (tk T i).p, [])
    else rd T f (pT T i).toNat (ins D (dnA T i))
def RD (T : List Tok) (i : Nat) (D : List Dn) : Int × Int × List Dn := rd T (T.length - i) i D
theorem rd_fuel {T : List Tok} (h80 : ckE T ≠ 80) : ∀ (f g i : Nat) (D : List Dn), T.length - i ≤ f → T.length - i ≤ g → i < T.length → rd T f i D = rd T g i D := by
  intro f
  induction f with
  | zero => intro g i D h _ hi; omega
  | succ f ih =>
    intro g i D hf hg hi
    cases g with
    | zero => omega
    | succ g =>
      unfold rd
      by_cases h1 : (tk T i).k = 0
      · rw [if_pos h1, if_pos h1]
      · rw [if_neg h1, if_neg h1]
        by_cases h2 : pE T i ≠ 0
        · rw [if_pos h2, if_pos h2]
        · rw [if_neg h2, if_neg h2]
          by_cases h3 : putE D (dnA T i) ≠ 0
          · rw [if_pos h3, if_pos h3]
          · rw [if_neg h3, if_neg h3]
            obtain ⟨a, b, _⟩ := pT_in h80 (i := i) (by simpa using h2)
            exact ih g _ _ (by omega) (by omega) b
theorem RD_end {T : List Tok} {i : Nat} (hi : i < T.length) (D : List Dn) (h : (tk T i).k = 0) : RD T i D = (0, 0, D) := by
  unfold RD
  obtain ⟨f, hf⟩ : ∃ f, T.length - i = f + 1 := ⟨T.length - i - 1, by omega⟩
  rw [hf]; unfold rd; rw [if_pos h]
theorem RD_bad {T : List Tok} {i : Nat} (hi : i < T.length) (D : List Dn) (h : (tk T i).k ≠ 0) (h2 : pE T i ≠ 0) : RD T i D = (pE T i, pA T i, []) := by
  unfold RD
  obtain ⟨f, hf⟩ : ∃ f, T.length - i = f + 1 := ⟨T.length - i - 1, by omega⟩
  rw [hf]; unfold rd; rw [if_neg h, if_pos h2]
theorem RD_no {T : List Tok} {i : Nat} (hi : i < T.length) (D : List Dn) (h : (tk T i).k ≠ 0) (h2 : pE T i = 0) (h3 : putE D (dnA T i) ≠ 0) : RD T i D = (putE D (dnA T i), (tk T i).p, []) := by
  unfold RD
  obtain ⟨f, hf⟩ : ∃ f, T.length - i = f + 1 := ⟨T.length - i - 1, by omega⟩
  rw [hf]; unfold rd; rw [if_neg h, if_neg (by simpa using h2), if_pos h3]
theorem RD_go {T : List Tok} (h80 : ckE T ≠ 80) {i : Nat} (D : List Dn) (h : (tk T i).k ≠ 0) (h2 : pE T i = 0) (h3 : putE D (dnA T i) = 0) : RD T i D = RD T (pT T i).toNat (ins D (dnA T i)) := by
  have hi := pE_in h80 h2
  obtain ⟨a, b, _⟩ := pT_in h80 h2
  unfold RD
  obtain ⟨f, hf⟩ : ∃ f, T.length - i = f + 1 := ⟨T.length - i - 1, by omega⟩
  rw [hf]
  conv => lhs; unfold rd
  rw [if_neg h, if_neg (by simpa using h2), if_neg (by simpa using h3)]
  exact rd_fuel h80 _ _ _ _ (by omega) (by omega) b
def goes (T : List Tok) : Nat → List (Int × Dn) → Nat → Prop
  | i, [], j => i = j
  | i, x :: t, j => (tk T i).k ≠ 0 ∧ pE T i = 0 ∧ x = ((tk T i).p, dnA T i) ∧ goes T (pT T i).toNat t j
theorem goes_snoc {T : List Tok} : ∀ (t : List (Int × Dn)) (i j : Nat), goes T i t j → (tk T j).k ≠ 0 → pE T j = 0 → goes T i (t ++ [((tk T j).p, dnA T j)]) (pT T j).toNat
  | [], i, j, h, h1, h2 => by
    have e : i = j := h
    subst e
    exact ⟨h1, h2, rfl, rfl⟩
  | x :: t, i, j, h, h1, h2 => ⟨h.1, h.2.1, h.2.2.1, goes_snoc t _ j h.2.2.2 h1 h2⟩
theorem goes_lt {T : List Tok} (h80 : ckE T ≠ 80) : ∀ (t : List (Int × Dn)) (i j : Nat), i < T.length → goes T i t j → j < T.length ∧ i + t.length ≤ j
  | [], i, j, hi, h => by
    have e : i = j := h
    subst e; exact ⟨hi, by simp⟩
  | x :: t, i, j, hi, h => by
    obtain ⟨a, b, _⟩ := pT_in h80 h.2.1
    obtain ⟨c, d⟩ := goes_lt h80 t _ j b h.2.2.2
    refine ⟨c, ?_⟩
    rw [List.length_cons]; omega
theorem goes_RD {T : List Tok} (h80 : ckE T ≠ 80) : ∀ (t : List (Int × Dn)) (i j : Nat) (D : List Dn), goes T i t j → addE D (t.map (·.2)) = 0 → RD T i D = RD T j (addD D (t.map (·.2)))
  | [], i, j, D, h, _ => by
    have e : i = j := h
    subst e; rfl
  | x :: t, i, j, D, h, ha => by
    obtain ⟨h1, h2, rfl, h4⟩ := h
    simp only [List.map_cons, addE, addD] at ha ⊢
    by_cases hp : putE D (dnA T i) = 0
    · rw [if_pos hp] at ha ⊢
      rw [RD_go h80 D h1 h2 hp]
      exact goes_RD h80 t _ j _ h4 ha
    · rw [if_neg hp] at ha; exact absurd ha hp
theorem goes_cut {T : List Tok} : ∀ (t : List (Int × Dn)) (x : Int × Dn) (i j : Nat), goes T i (t ++ [x]) j → ∃ k, goes T i t k ∧ (tk T k).k ≠ 0 ∧ pE T k = 0 ∧ x = ((tk T k).p, dnA T k)
  | [], x, i, j, h => ⟨i, rfl, h.1, h.2.1, h.2.2.1⟩
  | y :: t, x, i, j, h => by
    obtain ⟨k, h1, h2⟩ := goes_cut t x _ j h.2.2.2
    exact ⟨k, ⟨h.1, h.2.1, h.2.2.1, h1⟩, h2⟩
theorem RD_may {T : List Tok} (h80 : ckE T ≠ 80) : ∀ (f i : Nat) (D : List Dn), mayB D = true → mayB (rd T f i D).2.2 = true
  | 0, _, D, h => h
  | f + 1, i, D, h => by
    unfold rd
    split
    · exact h
    · split
      · exact may_nil
      · split
        · exact may_nil
        · rename_i h1 h2 h3
          exact RD_may h80 f _ _ (ins_may h (by simpa using h3))
def rE (l : List UInt8) : Int := if scF l ≠ 0 then scF l else (RD (scT l) 0 []).1
def rA (l : List UInt8) : Int := if scF l ≠ 0 then scA l else (RD (scT l) 0 []).2.1
def rD (l : List UInt8) : List Dn := if scF l ≠ 0 then [] else (RD (scT l) 0 []).2.2
theorem rD_may (l : List UInt8) : mayB (rD l) = true := by
  unfold rD
  split
  · exact may_nil
  · rename_i h
    exact RD_may (ck_scan (by simpa using h)) _ _ _ may_nil
end Bk
end Go.Proofs.Ytfobfpigbfepoaa
namespace Go.Proofs.Ytfobfpigbfepoaa
open Go.RowKit
set_option maxHeartbeats 400000 in
theorem cmpD_any (x : Dm) (t : ByteArray) (w : World) : Calls Try.prog 26 #[.agg #[.string x.nm, .slice x.ad x.L.length x.cap], .string t] w fun e w' => e = .returned (.int .i64 (Bk.cmpE x.nm t)) ∧ Gr w w' := by
  have HC : Hid (∀ w', Calls Try.prog 27 #[.string x.nm, .string t] w' fun e w2 => e = .returned (.int .i64 (Bk.cmpE x.nm t)) ∧ w2 = w') := fun w' => Try.strings_Compare x.nm t w'
  go_enter Try.func26, Try.ntmps26
  go_wp2_with fail
  refine (HC.out _).mono ?_
  rintro e w1 ⟨rfl, hw1⟩
  obtain rfl := hw1.symm
  go_wp2
  go_ret
  exact ⟨rfl, (by repeat (first | exact Gr.refl _ | refine Gr.alloc ?_ | refine Gr.drew ?_ | refine Gr.trans ?_ (by assumption)))⟩
set_option maxHeartbeats 2000000 in
set_option maxRecDepth 100000 in
theorem searchD_any (A : List Dm) (t : ByteArray) (ad : Option Addr) (cap : Nat) (w : World) (hA : DmsAt w ad A) (hu : Bk.upB (nmD A) = true) (hn : A.length ≤ 1000000) :
    Calls Try.prog 25 #[.slice ad A.length cap, .string t, .func (.func 26) #[] #[]] w fun e w' => e = .returned (.tuple #[.int .i64 (Bk.pos (nmD A) t : Nat), .bool (Bk.hasB (nmD A) t)]) ∧ Gr w w' := by
  have HC : Hid (∀ (x : Dm) w', Calls Try.prog 26 #[.agg #[.string x.nm, .slice x.ad x.L.length x.cap], .string t] w' fun e w2 => e = .returned (.int .i64 (Bk.cmpE x.nm t)) ∧ Gr w' w2) := fun x w' => cmpD_any x t w'
  have HL : Hid (DmsAt w ad A) := hA
  have HP : Hid (∀ j (h : j < A.length), (Bk.cmpE A[j].nm t < 0 ↔ j < Bk.pos (nmD A) t)) := by
    intro j h
    have := Bk.pos_iff (nmD A) t hu j (by rw [nmD_len]; exact h)
    rw [nmD_get A j h] at this
    rw [Bk.cmp_neg, this]
  have HE : Hid (∀ q (h : q < A.length), q = Bk.pos (nmD A) t → (Bk.cmpE A[q].nm t = 0 ↔ Bk.hasB (nmD A) t = true)) := by
    intro q h hq
    subst hq
    rw [Bk.cmp_zero, Bk.has_iff]
    have hg := nmD_get A _ h
    rw [← hg]
    constructor
    · intro e; rw [← e]; exact List.getElem_mem _
    · intro hm; exact (Bk.pos_mem hu hm).2
  have HN : Hid (A.length ≤ Bk.pos (nmD A) t → Bk.hasB (nmD A) t = false) := by
    intro h
    cases hb : Bk.hasB (nmD A) t with
    | false => rfl
    | true =>
      obtain ⟨h1, _⟩ := Bk.pos_mem hu ((Bk.has_iff _ _).1 hb)
      rw [nmD_len] at h1
      omega
  have hpl : Bk.pos (nmD A) t ≤ A.length := by have := Bk.pos_le (nmD A) t; rw [nmD_len] at this; exact this
  obtain ⟨p, hp⟩ : ∃ p, p = Bk.pos (nmD A) t := ⟨_, rfl⟩
  obtain ⟨r, hr⟩ : ∃ r, r = Bk.hasB (nmD A) t := ⟨_, rfl⟩
  simp only [← hp, ← hr] at HP HE HN hpl ⊢
  clear hA hu hp hr
  go_enter Try.func25, Try.ntmps25
  go_wp2
  go_loopw [9, 10] (fun s9 s10 wr => ∃ lo hi : Nat, s9 = .int .i64 lo ∧ s10 = .int .i64 hi ∧ lo ≤ p ∧ p ≤ hi ∧ hi ≤ A.length ∧ Gr w wr) (fun s9 s10 _ => (intOf s10).toNat - (intOf s9).toNat)
  case atStart => exact ⟨0, A.length, rfl, rfl, Nat.zero_le _, hpl, Nat.le_refl _, Gr.refl _⟩
  case round =>
    obtain ⟨lo, hi, rfl, rfl, h1, h2, h3, hg⟩ := hrel
    have HG : Hid (Gr w wr) := hg
    clear hg
    by_cases hlt : lo < hi
    · have hm : (lo + hi) / 2 < A.length := by omega
      obtain ⟨b, off, rfl, hb, d0, d1⟩ := (DmsAt.at HL.out ((lo + hi) / 2) hm)
      have d0 := HG.out.keep d0
      have d1 := HG.out.keep d1
      have hbw : b < wr.heap.size := Nat.lt_of_lt_of_le hb HG.out.size
      have hP := HP.out ((lo + hi) / 2) hm
      have hc := HC.out A[(lo + hi) / 2]
      generalize A[(lo + hi) / 2] = x at *
      have HX : Hid (∀ w', Calls Try.prog 26 #[.agg #[.string x.nm, .slice x.ad x.L.length x.cap], .string t] w' fun e w2 => e = .returned (.int .i64 (Bk.cmpE x.nm t)) ∧ Gr w' w2) := hc
      generalize Bk.cmpE x.nm t = cv at *
      clear hc HC
      by_cases hyx : cv < 0
      · have hlp : (lo + hi) / 2 < p := hP.1 hyx
        clear hP
        go_wp2_with fail
        refine (HX.out _).mono ?_
        rintro e w2 ⟨rfl, hg2⟩
        have HG2 : Hid (Gr w w2) := HG.out.trans hg2
        go_wp2
        go_roundw
        case rel => exact ⟨(lo + hi) / 2 + 1, hi, by rw [show ((lo : Int) + (hi : Int)) / 2 + 1 = (((lo + hi) / 2 + 1 : Nat) : Int) by omega], rfl, by omega, h2, h3, HG2.out⟩
        case measure => simp [intOf]; omega
      · have hlp : ¬ (lo + hi) / 2 < p := fun h => hyx (hP.2 h)
        clear hP
        go_wp2_with fail
        refine (HX.out _).mono ?_
        rintro e w2 ⟨rfl, hg2⟩
        have HG2 : Hid (Gr w w2) := HG.out.trans hg2
        go_wp2
        go_roundw
        case rel => exact ⟨lo, (lo + hi) / 2, rfl, by rw [show ((lo : Int) + (hi : Int)) / 2 = (((lo + hi) / 2 : Nat) : Int) by omega], h1, by omega, by omega, HG2.out⟩
        case measure => simp [intOf]; omega
    · obtain rfl : lo = p := by omega
      by_cases hin : lo < A.length
      · obtain ⟨b, off, rfl, hb, d0, d1⟩ := (DmsAt.at HL.out lo hin)
        have d0 := HG.out.keep d0
        have d1 := HG.out.keep d1
        have hbw : b < wr.heap.size := Nat.lt_of_lt_of_le hb HG.out.size
        have hE := HE.out lo hin rfl
        have hc := HC.out A[lo]
        generalize A[lo] = x at *
        have HX : Hid (∀ w', Calls Try.prog 26 #[.agg #[.string x.nm, .slice x.ad x.L.length x.cap], .string t] w' fun e w2 => e = .returned (.int .i64 (Bk.cmpE x.nm t)) ∧ Gr w' w2) := hc
        generalize Bk.cmpE x.nm t = cv at *
        clear hc HC
        have hini : (lo : Int) < (A.length : Int) := by omega
        cases r with
        | true =>
          obtain rfl : cv = 0 := hE.2 rfl
          clear hE
          go_wp2_with fail
          refine (HX.out _).mono ?_
          rintro e w2 ⟨rfl, hg2⟩
          have HG2 : Hid (Gr w w2) := HG.out.trans hg2
          go_wp2
          go_ret2
          exact ⟨rfl, HG2.out⟩
        | false =>
          have hcv : (cv == 0) = false := by
            simp only [beq_eq_false_iff_ne, ne_eq]
            intro e
            have := hE.1 e
            cases this
          clear hE
          go_wp2_with fail
          refine (HX.out _).mono ?_
          rintro e w2 ⟨rfl, hg2⟩
          have HG2 : Hid (Gr w w2) := HG.out.trans hg2
          go_wp2
          go_ret2
          exact ⟨rfl, HG2.out⟩
      · obtain rfl : r = false := HN.out (by omega)
        have hini : ¬ (lo : Int) < (A.length : Int) := by omega
        go_wp2
        go_ret2
        exact ⟨rfl, HG.out⟩
set_option maxHeartbeats 400000 in
theorem place_any (A : List Dm) (t : ByteArray) (ad : Option Addr) (cap : Nat) (w : World) (hA : DmsAt w ad A) (hu : Bk.upB (nmD A) = true) (hn : A.length ≤ 1000000) :
    Calls Try.prog 17 #[.slice ad A.length cap, .string t] w fun e w' => e = .returned (.tuple #[.int .i64 (Bk.pos (nmD A) t : Nat), .bool (Bk.hasB (nmD A) t)]) ∧ Gr w w' := by
  have HS : Hid (∀ w', Gr w w' → Calls Try.prog 25 #[.slice ad A.length cap, .string t, .func (.func 26) #[] #[]] w' fun e w2 => e = .returned (.tuple #[.int .i64 (Bk.pos (nmD A) t : Nat), .bool (Bk.hasB (nmD A) t)]) ∧ Gr w' w2) := fun w' g => searchD_any A t ad cap w' (hA.gr g) hu hn
  clear hA hu
  generalize Bk.pos (nmD A) t = p at *
  generalize Bk.hasB (nmD A) t = r at *
  go_enter Try.func17, Try.ntmps17
  go_wp2_with fail
  refine (HS.out _ (Gr.refl _)).mono ?_
  rintro e w1 ⟨rfl, hg1⟩
  go_wp2
  go_ret2
  exact ⟨rfl, hg1⟩
end Go.Proofs.Ytfobfpigbfepoaa
