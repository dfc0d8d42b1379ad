/- What the proof is made of, part 4. -/
import Derived.Test.YtgidkmipecfjhaaTLLDoes3
namespace Go.Proofs.Ytgidkmipecfjhaa
open Go.RowKit
open Led (Acc Mk)
set_option maxHeartbeats 400000 in
theorem cmpA_any (x : Acc) (t : ByteArray) (w : World) : Calls Try.prog 65 #[.agg #[.string x.s, .int .i64 x.a, .int .i64 x.b, .int .i64 x.c, .int .i64 x.x, .int .i64 x.y, .int .i64 x.z], .string t] w fun e w' => e = .returned (.int .i64 (Led.cmpE x.s t)) ∧ Gr w w' := by
  have HC : Hid (∀ w', Calls Try.prog 66 #[.string x.s, .string t] w' fun e w2 => e = .returned (.int .i64 (Led.cmpE x.s t)) ∧ w2 = w') := fun w' => Try.strings_Compare x.s t w'
  go_enter Try.func65, Try.ntmps65
  go_wp2_with fail
  refine (HC.out _).mono ?_
  rintro e w1 ⟨rfl, hw1⟩
  obtain rfl := hw1.symm
  go_wp2
  go_ret
  exact ⟨rfl, (by repeat (first | exact Gr.refl _ | refine Gr.alloc ?_ | refine Gr.drew ?_ | refine Gr.trans ?_ (by assumption)))⟩
set_option maxHeartbeats 2000000 in
set_option maxRecDepth 100000 in
theorem searchA_any (A : List Acc) (t : ByteArray) (ad : Option Addr) (cap : Nat) (w : World) (hA : AccsAt w ad A) (hu : Led.upB (Led.nm A) = true) (hn : A.length ≤ 1000000) :
    Calls Try.prog 64 #[.slice ad A.length cap, .string t, .func (.func 65) #[] #[]] w fun e w' => e = .returned (.tuple #[.int .i64 (Led.pos (Led.nm A) t : Nat), .bool (Led.hasB (Led.nm A) t)]) ∧ Gr w w' := by
  have HC : Hid (∀ (x : Acc) w', Calls Try.prog 65 #[.agg #[.string x.s, .int .i64 x.a, .int .i64 x.b, .int .i64 x.c, .int .i64 x.x, .int .i64 x.y, .int .i64 x.z], .string t] w' fun e w2 => e = .returned (.int .i64 (Led.cmpE x.s t)) ∧ Gr w' w2) := fun x w' => cmpA_any x t w'
  have HL : Hid (AccsAt w ad A) := hA
  have HP : Hid (∀ j (h : j < A.length), (Led.cmpE A[j].s t < 0 ↔ j < Led.pos (Led.nm A) t)) := by
    intro j h
    have := Led.pos_iff (Led.nm A) t hu j (by rw [Led.nm_len]; exact h)
    rw [Led.nm_get A j h] at this
    rw [Led.cmp_neg, this]
  have HE : Hid (∀ q (h : q < A.length), q = Led.pos (Led.nm A) t → (Led.cmpE A[q].s t = 0 ↔ Led.hasB (Led.nm A) t = true)) := by
    intro q h hq
    subst hq
    rw [Led.cmp_zero, Led.has_iff]
    have hg := Led.nm_get A _ h
    rw [← hg]
    constructor
    · intro e; rw [← e]; exact List.getElem_mem _
    · intro hm; exact (Led.pos_mem hu hm).2
  have HN : Hid (A.length ≤ Led.pos (Led.nm A) t → Led.hasB (Led.nm A) t = false) := by
    intro h
    cases hb : Led.hasB (Led.nm A) t with
    | false => rfl
    | true =>
      obtain ⟨h1, _⟩ := Led.pos_mem hu ((Led.has_iff _ _).1 hb)
      rw [Led.nm_len] at h1
      omega
  have hpl : Led.pos (Led.nm A) t ≤ A.length := by have := Led.pos_le (Led.nm A) t; rw [Led.nm_len] at this; exact this
  obtain ⟨p, hp⟩ : ∃ p, p = Led.pos (Led.nm A) t := ⟨_, rfl⟩
  obtain ⟨r, hr⟩ : ∃ r, r = Led.hasB (Led.nm A) t := ⟨_, rfl⟩
  simp only [← hp, ← hr] at HP HE HN hpl ⊢
  clear hA hu hp hr
  go_enter Try.func64, Try.ntmps64
  go_wp2
  go_loopw [9, 10] (fun s9 s10 wr => ∃ lo hi : Nat, s9 = .int .i64 lo ∧ s10 = .int .i64 hi ∧ lo ≤ p ∧ p ≤ hi ∧ hi ≤ A.length ∧ Gr w wr) (fun s9 s10 _ => (intOf s10).toNat - (intOf s9).toNat)
  case atStart => exact ⟨0, A.length, rfl, rfl, Nat.zero_le _, hpl, Nat.le_refl _, Gr.refl _⟩
  case round =>
    obtain ⟨lo, hi, rfl, rfl, h1, h2, h3, hg⟩ := hrel
    have HG : Hid (Gr w wr) := hg
    clear hg
    by_cases hlt : lo < hi
    · have hm : (lo + hi) / 2 < A.length := by omega
      obtain ⟨b, off, rfl, hb, d0, d1, d2, d3, d4, d5, d6⟩ := (AccsAt.at HL.out ((lo + hi) / 2) hm)
      have d0 := HG.out.keep d0
      have d1 := HG.out.keep d1
      have d2 := HG.out.keep d2
      have d3 := HG.out.keep d3
      have d4 := HG.out.keep d4
      have d5 := HG.out.keep d5
      have d6 := HG.out.keep d6
      have hbw : b < wr.heap.size := Nat.lt_of_lt_of_le hb HG.out.size
      have hP := HP.out ((lo + hi) / 2) hm
      have hc := HC.out A[(lo + hi) / 2]
      generalize A[(lo + hi) / 2] = x at *
      have HX : Hid (∀ w', Calls Try.prog 65 #[.agg #[.string x.s, .int .i64 x.a, .int .i64 x.b, .int .i64 x.c, .int .i64 x.x, .int .i64 x.y, .int .i64 x.z], .string t] w' fun e w2 => e = .returned (.int .i64 (Led.cmpE x.s t)) ∧ Gr w' w2) := hc
      generalize Led.cmpE x.s t = cv at *
      clear hc HC
      by_cases hyx : cv < 0
      · have hlp : (lo + hi) / 2 < p := hP.1 hyx
        clear hP
        go_wp2_with fail
        refine (HX.out _).mono ?_
        rintro e w2 ⟨rfl, hg2⟩
        have HG2 : Hid (Gr w w2) := HG.out.trans hg2
        go_wp2
        go_roundw
        case rel => exact ⟨(lo + hi) / 2 + 1, hi, by rw [show ((lo : Int) + (hi : Int)) / 2 + 1 = (((lo + hi) / 2 + 1 : Nat) : Int) by omega], rfl, by omega, h2, h3, HG2.out⟩
        case measure => simp [intOf]; omega
      · have hlp : ¬ (lo + hi) / 2 < p := fun h => hyx (hP.2 h)
        clear hP
        go_wp2_with fail
        refine (HX.out _).mono ?_
        rintro e w2 ⟨rfl, hg2⟩
        have HG2 : Hid (Gr w w2) := HG.out.trans hg2
        go_wp2
        go_roundw
        case rel => exact ⟨lo, (lo + hi) / 2, rfl, by rw [show ((lo : Int) + (hi : Int)) / 2 = (((lo + hi) / 2 : Nat) : Int) by omega], h1, by omega, by omega, HG2.out⟩
        case measure => simp [intOf]; omega
    · obtain rfl : lo = p := by omega
      by_cases hin : lo < A.length
      · obtain ⟨b, off, rfl, hb, d0, d1, d2, d3, d4, d5, d6⟩ := (AccsAt.at HL.out lo hin)
        have d0 := HG.out.keep d0
        have d1 := HG.out.keep d1
        have d2 := HG.out.keep d2
        have d3 := HG.out.keep d3
        have d4 := HG.out.keep d4
        have d5 := HG.out.keep d5
        have d6 := HG.out.keep d6
        have hbw : b < wr.heap.size := Nat.lt_of_lt_of_le hb HG.out.size
        have hE := HE.out lo hin rfl
        have hc := HC.out A[lo]
        generalize A[lo] = x at *
        have HX : Hid (∀ w', Calls Try.prog 65 #[.agg #[.string x.s, .int .i64 x.a, .int .i64 x.b, .int .i64 x.c, .int .i64 x.x, .int .i64 x.y, .int .i64 x.z], .string t] w' fun e w2 => e = .returned (.int .i64 (Led.cmpE x.s t)) ∧ Gr w' w2) := hc
        generalize Led.cmpE x.s t = cv at *
        clear hc HC
        have hini : (lo : Int) < (A.length : Int) := by omega
        cases r with
        | true =>
          obtain rfl : cv = 0 := hE.2 rfl
          clear hE
          go_wp2_with fail
          refine (HX.out _).mono ?_
          rintro e w2 ⟨rfl, hg2⟩
          have HG2 : Hid (Gr w w2) := HG.out.trans hg2
          go_wp2
          go_ret2
          exact ⟨rfl, HG2.out⟩
        | false =>
          have hcv : (cv == 0) = false := by
            simp only [beq_eq_false_iff_ne, ne_eq]
            intro e
            have := hE.1 e
            cases this
          clear hE
          go_wp2_with fail
          refine (HX.out _).mono ?_
          rintro e w2 ⟨rfl, hg2⟩
          have HG2 : Hid (Gr w w2) := HG.out.trans hg2
          go_wp2
          go_ret2
          exact ⟨rfl, HG2.out⟩
      · obtain rfl : r = false := HN.out (by omega)
        have hini : ¬ (lo : Int) < (A.length : Int) := by omega
        go_wp2
        go_ret2
        exact ⟨rfl, HG.out⟩
set_option maxHeartbeats 400000 in
theorem findA_any (A : List Acc) (t : ByteArray) (ad : Option Addr) (cap : Nat) (w : World) (hA : AccsAt w ad A) (hu : Led.upB (Led.nm A) = true) (hn : A.length ≤ 1000000) :
    Calls Try.prog 30 #[.slice ad A.length cap, .string t] w fun e w' => e = .returned (.tuple #[.int .i64 (Led.pos (Led.nm A) t : Nat), .bool (Led.hasB (Led.nm A) t)]) ∧ Gr w w' := by
  have HS : Hid (∀ w', Gr w w' → Calls Try.prog 64 #[.slice ad A.length cap, .string t, .func (.func 65) #[] #[]] w' fun e w2 => e = .returned (.tuple #[.int .i64 (Led.pos (Led.nm A) t : Nat), .bool (Led.hasB (Led.nm A) t)]) ∧ Gr w' w2) := fun w' g => searchA_any A t ad cap w' (hA.gr g) hu hn
  clear hA hu
  generalize Led.pos (Led.nm A) t = p at *
  generalize Led.hasB (Led.nm A) t = r at *
  go_enter Try.func30, Try.ntmps30
  go_wp2_with fail
  refine (HS.out _ (Gr.refl _)).mono ?_
  rintro e w1 ⟨rfl, hg1⟩
  go_wp2
  go_ret2
  exact ⟨rfl, hg1⟩
set_option maxHeartbeats 400000 in
theorem cmpM_any (x : Mk) (t : ByteArray) (w : World) : Calls Try.prog 75 #[.agg #[.string x.key, .int .i64 x.k, .string x.t, .int .i64 x.n, .int .i64 x.st], .string t] w fun e w' => e = .returned (.int .i64 (Led.cmpE x.key t)) ∧ Gr w w' := by
  have HC : Hid (∀ w', Calls Try.prog 66 #[.string x.key, .string t] w' fun e w2 => e = .returned (.int .i64 (Led.cmpE x.key t)) ∧ w2 = w') := fun w' => Try.strings_Compare x.key t w'
  go_enter Try.func75, Try.ntmps75
  go_wp2_with fail
  refine (HC.out _).mono ?_
  rintro e w1 ⟨rfl, hw1⟩
  obtain rfl := hw1.symm
  go_wp2
  go_ret
  exact ⟨rfl, (by repeat (first | exact Gr.refl _ | refine Gr.alloc ?_ | refine Gr.drew ?_ | refine Gr.trans ?_ (by assumption)))⟩
set_option maxHeartbeats 2000000 in
set_option maxRecDepth 100000 in
theorem searchM_any (M : List Mk) (t : ByteArray) (ad : Option Addr) (cap : Nat) (w : World) (hM : MksAt w ad M) (hu : Led.upB (Led.ky M) = true) (hn : M.length ≤ 1000000) :
    Calls Try.prog 74 #[.slice ad M.length cap, .string t, .func (.func 75) #[] #[]] w fun e w' => e = .returned (.tuple #[.int .i64 (Led.pos (Led.ky M) t : Nat), .bool (Led.hasB (Led.ky M) t)]) ∧ Gr w w' := by
  have HC : Hid (∀ (x : Mk) w', Calls Try.prog 75 #[.agg #[.string x.key, .int .i64 x.k, .string x.t, .int .i64 x.n, .int .i64 x.st], .string t] w' fun e w2 => e = .returned (.int .i64 (Led.cmpE x.key t)) ∧ Gr w' w2) := fun x w' => cmpM_any x t w'
  have HL : Hid (MksAt w ad M) := hM
  have HP : Hid (∀ j (h : j < M.length), (Led.cmpE M[j].key t < 0 ↔ j < Led.pos (Led.ky M) t)) := by
    intro j h
    have := Led.pos_iff (Led.ky M) t hu j (by rw [Led.ky_len]; exact h)
    rw [Led.ky_get M j h] at this
    rw [Led.cmp_neg, this]
  have HE : Hid (∀ q (h : q < M.length), q = Led.pos (Led.ky M) t → (Led.cmpE M[q].key t = 0 ↔ Led.hasB (Led.ky M) t = true)) := by
    intro q h hq
    subst hq
    rw [Led.cmp_zero, Led.has_iff]
    have hg := Led.ky_get M _ h
    rw [← hg]
    constructor
    · intro e; rw [← e]; exact List.getElem_mem _
    · intro hm; exact (Led.pos_mem hu hm).2
  have HN : Hid (M.length ≤ Led.pos (Led.ky M) t → Led.hasB (Led.ky M) t = false) := by
    intro h
    cases hb : Led.hasB (Led.ky M) t with
    | false => rfl
    | true =>
      obtain ⟨h1, _⟩ := Led.pos_mem hu ((Led.has_iff _ _).1 hb)
      rw [Led.ky_len] at h1
      omega
  have hpl : Led.pos (Led.ky M) t ≤ M.length := by have := Led.pos_le (Led.ky M) t; rw [Led.ky_len] at this; exact this
  obtain ⟨p, hp⟩ : ∃ p, p = Led.pos (Led.ky M) t := ⟨_, rfl⟩
  obtain ⟨r, hr⟩ : ∃ r, r = Led.hasB (Led.ky M) t := ⟨_, rfl⟩
  simp only [← hp, ← hr] at HP HE HN hpl ⊢
  clear hM hu hp hr
  go_enter Try.func74, Try.ntmps74
  go_wp2
  go_loopw [9, 10] (fun s9 s10 wr => ∃ lo hi : Nat, s9 = .int .i64 lo ∧ s10 = .int .i64 hi ∧ lo ≤ p ∧ p ≤ hi ∧ hi ≤ M.length ∧ Gr w wr) (fun s9 s10 _ => (intOf s10).toNat - (intOf s9).toNat)
  case atStart => exact ⟨0, M.length, rfl, rfl, Nat.zero_le _, hpl, Nat.le_refl _, Gr.refl _⟩
  case round =>
    obtain ⟨lo, hi, rfl, rfl, h1, h2, h3, hg⟩ := hrel
    have HG : Hid (Gr w wr) := hg
    clear hg
    by_cases hlt : lo < hi
    · have hm : (lo + hi) / 2 < M.length := by omega
      obtain ⟨b, off, rfl, hb, d0, d1, d2, d3, d4⟩ := (MksAt.at HL.out ((lo + hi) / 2) hm)
      have d0 := HG.out.keep d0
      have d1 := HG.out.keep d1
      have d2 := HG.out.keep d2
      have d3 := HG.out.keep d3
      have d4 := HG.out.keep d4
      have hbw : b < wr.heap.size := Nat.lt_of_lt_of_le hb HG.out.size
      have hP := HP.out ((lo + hi) / 2) hm
      have hc := HC.out M[(lo + hi) / 2]
      generalize M[(lo + hi) / 2] = x at *
      have HX : Hid (∀ w', Calls Try.prog 75 #[.agg #[.string x.key, .int .i64 x.k, .string x.t, .int .i64 x.n, .int .i64 x.st], .string t] w' fun e w2 => e = .returned (.int .i64 (Led.cmpE x.key t)) ∧ Gr w' w2) := hc
      generalize Led.cmpE x.key t = cv at *
      clear hc HC
      by_cases hyx : cv < 0
      · have hlp : (lo + hi) / 2 < p := hP.1 hyx
        clear hP
        go_wp2_with fail
        refine (HX.out _).mono ?_
        rintro e w2 ⟨rfl, hg2⟩
        have HG2 : Hid (Gr w w2) := HG.out.trans hg2
        go_wp2
        go_roundw
        case rel => exact ⟨(lo + hi) / 2 + 1, hi, by rw [show ((lo : Int) + (hi : Int)) / 2 + 1 = (((lo + hi) / 2 + 1 : Nat) : Int) by omega], rfl, by omega, h2, h3, HG2.out⟩
        case measure => simp [intOf]; omega
      · have hlp : ¬ (lo + hi) / 2 < p := fun h => hyx (hP.2 h)
        clear hP
        go_wp2_with fail
        refine (HX.out _).mono ?_
        rintro e w2 ⟨rfl, hg2⟩
        have HG2 : Hid (Gr w w2) := HG.out.trans hg2
        go_wp2
        go_roundw
        case rel => exact ⟨lo, (lo + hi) / 2, rfl, by rw [show ((lo : Int) + (hi : Int)) / 2 = (((lo + hi) / 2 : Nat) : Int) by omega], h1, by omega, by omega, HG2.out⟩
        case measure => simp [intOf]; omega
    · obtain rfl : lo = p := by omega
      by_cases hin : lo < M.length
      · obtain ⟨b, off, rfl, hb, d0, d1, d2, d3, d4⟩ := (MksAt.at HL.out lo hin)
        have d0 := HG.out.keep d0
        have d1 := HG.out.keep d1
        have d2 := HG.out.keep d2
        have d3 := HG.out.keep d3
        have d4 := HG.out.keep d4
        have hbw : b < wr.heap.size := Nat.lt_of_lt_of_le hb HG.out.size
        have hE := HE.out lo hin rfl
        have hc := HC.out M[lo]
        generalize M[lo] = x at *
        have HX : Hid (∀ w', Calls Try.prog 75 #[.agg #[.string x.key, .int .i64 x.k, .string x.t, .int .i64 x.n, .int .i64 x.st], .string t] w' fun e w2 => e = .returned (.int .i64 (Led.cmpE x.key t)) ∧ Gr w' w2) := hc
        generalize Led.cmpE x.key t = cv at *
        clear hc HC
        have hini : (lo : Int) < (M.length : Int) := by omega
        cases r with
        | true =>
          obtain rfl : cv = 0 := hE.2 rfl
          clear hE
          go_wp2_with fail
          refine (HX.out _).mono ?_
          rintro e w2 ⟨rfl, hg2⟩
          have HG2 : Hid (Gr w w2) := HG.out.trans hg2
          go_wp2
          go_ret2
          exact ⟨rfl, HG2.out⟩
        | false =>
          have hcv : (cv == 0) = false := by
            simp only [beq_eq_false_iff_ne, ne_eq]
            intro e
            have := hE.1 e
            cases this
          clear hE
          go_wp2_with fail
          refine (HX.out _).mono ?_
          rintro e w2 ⟨rfl, hg2⟩
          have HG2 : Hid (Gr w w2) := HG.out.trans hg2
          go_wp2
          go_ret2
          exact ⟨rfl, HG2.out⟩
      · obtain rfl : r = false := HN.out (by omega)
        have hini : ¬ (lo : Int) < (M.length : Int) := by omega
        go_wp2
        go_ret2
        exact ⟨rfl, HG.out⟩
set_option maxHeartbeats 400000 in
theorem findM_any (M : List Mk) (t : ByteArray) (ad : Option Addr) (cap : Nat) (w : World) (hM : MksAt w ad M) (hu : Led.upB (Led.ky M) = true) (hn : M.length ≤ 1000000) :
    Calls Try.prog 47 #[.slice ad M.length cap, .string t] w fun e w' => e = .returned (.tuple #[.int .i64 (Led.pos (Led.ky M) t : Nat), .bool (Led.hasB (Led.ky M) t)]) ∧ Gr w w' := by
  have HS : Hid (∀ w', Gr w w' → Calls Try.prog 74 #[.slice ad M.length cap, .string t, .func (.func 75) #[] #[]] w' fun e w2 => e = .returned (.tuple #[.int .i64 (Led.pos (Led.ky M) t : Nat), .bool (Led.hasB (Led.ky M) t)]) ∧ Gr w' w2) := fun w' g => searchM_any M t ad cap w' (hM.gr g) hu hn
  clear hM hu
  generalize Led.pos (Led.ky M) t = p at *
  generalize Led.hasB (Led.ky M) t = r at *
  go_enter Try.func47, Try.ntmps47
  go_wp2_with fail
  refine (HS.out _ (Gr.refl _)).mono ?_
  rintro e w1 ⟨rfl, hg1⟩
  go_wp2
  go_ret2
  exact ⟨rfl, hg1⟩
end Go.Proofs.Ytgidkmipecfjhaa
namespace Go.Proofs.Ytgidkmipecfjhaa
open Go.RowKit
theorem letter_any (b : UInt8) (w : World) : Calls Try.prog 76 #[.int .u8 (b.toNat : Int)] w fun e w' => e = .returned (.bool (Act.letB b)) ∧ w' = w := by
  unfold Act.letB
  by_cases h0 : (97 : Int) ≤ (b.toNat : Int)
  · by_cases h1 : (b.toNat : Int) ≤ 122
    · rw [decide_eq_true h0, decide_eq_true h1]
      go_enter Try.func76, Try.ntmps76
      go_wp2
      go_ret
      exact ⟨rfl, rfl⟩
    · rw [decide_eq_true h0, decide_eq_false h1]
      go_enter Try.func76, Try.ntmps76
      go_wp2
      go_ret
      exact ⟨rfl, rfl⟩
  · rw [decide_eq_false h0]
    go_enter Try.func76, Try.ntmps76
    go_wp2
    go_ret
    exact ⟨rfl, rfl⟩
theorem digit_any (b : UInt8) (w : World) : Calls Try.prog 77 #[.int .u8 (b.toNat : Int)] w fun e w' => e = .returned (.bool (Act.digB b)) ∧ w' = w := by
  unfold Act.digB
  by_cases h0 : (48 : Int) ≤ (b.toNat : Int)
  · by_cases h1 : (b.toNat : Int) ≤ 57
    · rw [decide_eq_true h0, decide_eq_true h1]
      go_enter Try.func77, Try.ntmps77
      go_wp2
      go_ret
      exact ⟨rfl, rfl⟩
    · rw [decide_eq_true h0, decide_eq_false h1]
      go_enter Try.func77, Try.ntmps77
      go_wp2
      go_ret
      exact ⟨rfl, rfl⟩
  · rw [decide_eq_false h0]
    go_enter Try.func77, Try.ntmps77
    go_wp2
    go_ret
    exact ⟨rfl, rfl⟩
set_option maxHeartbeats 4000000 in
set_option maxRecDepth 100000 in
theorem name_any (s : ByteArray) (w : World) (hs : s.size ≤ 9223372036854775807) : Calls Try.prog 49 #[.string s] w fun e w' => e = .returned (.bool (Act.nameB s)) ∧ w' = w := by
  by_cases hz : s.size = 0
  · have HE : Hid (Act.nameB s = false) := Act.name_empty s hz
    have hb : (s.toList == []) = true := by
      rw [show s.toList = s.data.toList from ByteArray.toList_eq s]
      have hl : s.data.toList.length = s.size := by simp
      rw [List.length_eq_zero_iff.1 (hl.trans hz)]; rfl
    go_enter Try.func49, Try.ntmps49
    go_wp2
    go_ret
    exact ⟨by rw [HE.out]; rfl, rfl⟩
  have hb : (s.toList == []) = false := by
    rw [show s.toList = s.data.toList from ByteArray.toList_eq s]
    have hl : s.data.toList.length = s.size := by simp
    rw [beq_eq_false_iff_ne]
    intro e; rw [e] at hl; simp at hl; omega
  have hp : 0 < s.size := by omega
  by_cases h16 : (16 : Int) < (s.size : Int)
  · have HE : Hid (Act.nameB s = false) := Act.name_long s (by omega)
    go_enter Try.func49, Try.ntmps49
    go_wp2
    go_ret
    exact ⟨by rw [HE.out]; rfl, rfl⟩
  have HL : Hid (∀ (b : UInt8) (w : World), Calls Try.prog 76 #[.int .u8 (b.toNat : Int)] w fun e w' => e = .returned (.bool (Act.letB b)) ∧ w' = w) := letter_any
  have HD : Hid (∀ (b : UInt8) (w : World), Calls Try.prog 77 #[.int .u8 (b.toNat : Int)] w fun e w' => e = .returned (.bool (Act.digB b)) ∧ w' = w) := digit_any
  cases h0 : Act.letB (s[0]'hp) with
  | false =>
    have HE : Hid (Act.nameB s = false) := Act.name_head s hp h0
    go_enter Try.func49, Try.ntmps49
    go_wp2_with fail
    refine (HL.out (s[0]'hp) _).mono ?_
    rintro e w1 ⟨rfl, hw1⟩; obtain rfl := hw1.symm
    go_wp2
    go_ret
    exact ⟨by rw [HE.out]; rfl, rfl⟩
  | true =>
    go_enter Try.func49, Try.ntmps49
    go_wp2_with fail
    refine (HL.out (s[0]'hp) _).mono ?_
    rintro e w1 ⟨rfl, hw1⟩; obtain rfl := hw1.symm
    go_wp2
    go_loop [19] (fun i => ∃ k : Nat, k ≤ s.size ∧ i = .int .i64 k ∧ ∀ j (hj : j < s.size), j < k → Act.sgnB (s[j]'hj) = true) (fun i => s.size - (intOf i).toNat)
    case atStart => exact ⟨0, by omega, rfl, fun j hj h => absurd h (by omega)⟩
    case round =>
      obtain ⟨k, hk, rfl, hall⟩ := hrel
      have HA : Hid (∀ j (hj : j < s.size), j < k → Act.sgnB (s[j]'hj) = true) := hall
      clear hall
      by_cases hlt : k < s.size
      · cases hlk : Act.letB (s[k]'hlt) with
        | true =>
          have HS : Hid (Act.sgnB (s[k]'hlt) = true) := Act.sgn_let hlk
          go_wp2_with fail
          refine (HL.out (s[k]'hlt) _).mono ?_
          rintro e w1 ⟨rfl, hw1⟩; obtain rfl := hw1.symm
          go_wp2
          go_round
          case rel => exact ⟨k + 1, by omega, by go_num, fun j hj h => if e : j = k then by subst e; exact HS.out else HA.out j hj (by omega)⟩
          case measure => simp [intOf]; omega
        | false =>
          cases hdk : Act.digB (s[k]'hlt) with
          | true =>
            have HS : Hid (Act.sgnB (s[k]'hlt) = true) := Act.sgn_dig hdk
            go_wp2_with fail
            refine (HL.out (s[k]'hlt) _).mono ?_
            rintro e w1 ⟨rfl, hw1⟩; obtain rfl := hw1.symm
            go_wp2_with fail
            refine (HD.out (s[k]'hlt) _).mono ?_
            rintro e w1 ⟨rfl, hw1⟩; obtain rfl := hw1.symm
            go_wp2
            go_round
            case rel => exact ⟨k + 1, by omega, by go_num, fun j hj h => if e : j = k then by subst e; exact HS.out else HA.out j hj (by omega)⟩
            case measure => simp [intOf]; omega
          | false =>
            have HE : Hid (Act.nameB s = false) := Act.name_sign s k hlt (Act.sgn_no hlk hdk)
            go_wp2_with fail
            refine (HL.out (s[k]'hlt) _).mono ?_
            rintro e w1 ⟨rfl, hw1⟩; obtain rfl := hw1.symm
            go_wp2_with fail
            refine (HD.out (s[k]'hlt) _).mono ?_
            rintro e w1 ⟨rfl, hw1⟩; obtain rfl := hw1.symm
            go_wp2
            go_ret
            exact ⟨by rw [HE.out]; rfl, rfl⟩
      · have HE : Hid (Act.nameB s = true) := Act.name_yes s hp (by omega) h0 (fun j hj => HA.out j hj (by omega))
        go_wp2
        go_ret
        exact ⟨by rw [HE.out]; rfl, rfl⟩
end Go.Proofs.Ytgidkmipecfjhaa
namespace Go.Proofs.Ytgidkmipecfjhaa
open Go.RowKit
theorem let_parts {b : UInt8} (h : Act.letB b = true) : (97 : Int) ≤ (b.toNat : Int) ∧ (b.toNat : Int) ≤ 122 := by
  unfold Act.letB at h; simpa only [Bool.and_eq_true, decide_eq_true_eq] using h
theorem dig_parts {b : UInt8} (h : Act.digB b = true) : (48 : Int) ≤ (b.toNat : Int) ∧ (b.toNat : Int) ≤ 57 := by
  unfold Act.digB at h; simpa only [Bool.and_eq_true, decide_eq_true_eq] using h
set_option maxHeartbeats 4000000 in
set_option maxRecDepth 100000 in
theorem refName_any (s : ByteArray) (w : World) (hs : s.size ≤ 9223372036854775807) : Calls Try.prog 53 #[.string s] w fun e w' => e = .returned (.bool (Act.nameB s)) ∧ w' = w := by
  by_cases hz : (s.size : Int) < 1
  · have HE : Hid (Act.nameB s = false) := Act.name_empty s (by omega)
    go_enter Try.func53, Try.ntmps53
    go_wp2
    go_ret
    exact ⟨by rw [HE.out]; rfl, rfl⟩
  have hp : 0 < s.size := by omega
  by_cases h16 : (16 : Int) < (s.size : Int)
  · have HE : Hid (Act.nameB s = false) := Act.name_long s (by omega)
    go_enter Try.func53, Try.ntmps53
    go_wp2
    go_ret
    exact ⟨by rw [HE.out]; rfl, rfl⟩
  go_enter Try.func53, Try.ntmps53
  go_wp2
  go_loop [3] (fun i => ∃ k : Nat, k ≤ s.size ∧ i = .int .i64 k ∧ (0 < k → Act.letB (s[0]'hp) = true) ∧ ∀ j (hj : j < s.size), j < k → Act.sgnB (s[j]'hj) = true) (fun i => s.size - (intOf i).toNat)
  case atStart => exact ⟨0, by omega, rfl, fun h => absurd h (by omega), fun j hj h => absurd h (by omega)⟩
  case round =>
    obtain ⟨k, hk, rfl, hfirst, hall⟩ := hrel
    have HA : Hid (∀ j (hj : j < s.size), j < k → Act.sgnB (s[j]'hj) = true) := hall
    have HF : Hid (0 < k → Act.letB (s[0]'hp) = true) := hfirst
    clear hall hfirst
    by_cases hlt : k < s.size
    · cases hlk : Act.letB (s[k]'hlt) with
      | true =>
        have HS : Hid (Act.sgnB (s[k]'hlt) = true) := Act.sgn_let hlk
        have HK : Hid (Act.letB (s[k]'hlt) = true) := hlk
        obtain ⟨h1, h2⟩ := let_parts hlk
        have h3 : ¬ (((s[k]'hlt).toNat : Int) ≤ 57) := by omega
        have h4 : (48 : Int) ≤ ((s[k]'hlt).toNat : Int) := by omega
        clear hlk
        obtain ⟨b, hb⟩ : ∃ b, s[k]'hlt = b := ⟨_, rfl⟩
        have hb' : ((s[k]'hlt).toNat : Int) = (b.toNat : Int) := by rw [hb]
        rw [hb] at h1 h2 h3 h4
        clear hb
        by_cases hk0 : k = 0
        · subst hk0
          go_wp2
          go_round
          case rel => exact ⟨0 + 1, by omega, by go_num, fun _ => HK.out, fun j hj h => if e : j = 0 then by subst e; exact HS.out else HA.out j hj (by omega)⟩
          case measure => simp [intOf]; omega
        · have hk1 : ((k : Int) == 0) = false := by rw [beq_eq_false_iff_ne]; omega
          go_wp2
          go_round
          case rel => exact ⟨k + 1, by omega, by go_num, fun _ => HF.out (by omega), fun j hj h => if e : j = k then by subst e; exact HS.out else HA.out j hj (by omega)⟩
          case measure => simp [intOf]; omega
      | false =>
        cases hdk : Act.digB (s[k]'hlt) with
        | true =>
          have HS : Hid (Act.sgnB (s[k]'hlt) = true) := Act.sgn_dig hdk
          obtain ⟨h1, h2⟩ := dig_parts hdk
          have h3 : ¬ ((97 : Int) ≤ ((s[k]'hlt).toNat : Int)) := by omega
          have HK : Hid (Act.letB (s[k]'hlt) = false) := hlk
          clear hlk hdk
          obtain ⟨b, hb⟩ : ∃ b, s[k]'hlt = b := ⟨_, rfl⟩
          have hb' : ((s[k]'hlt).toNat : Int) = (b.toNat : Int) := by rw [hb]
          rw [hb] at h1 h2 h3
          clear hb
          by_cases hk0 : k = 0
          · subst hk0
            have HE : Hid (Act.nameB s = false) := Act.name_head s hp HK.out
            go_wp2
            go_ret
            exact ⟨by rw [HE.out]; rfl, rfl⟩
          · have hk1 : ((k : Int) == 0) = false := by rw [beq_eq_false_iff_ne]; omega
            go_wp2
            go_round
            case rel => exact ⟨k + 1, by omega, by go_num, fun _ => HF.out (by omega), fun j hj h => if e : j = k then by subst e; exact HS.out else HA.out j hj (by omega)⟩
            case measure => simp [intOf]; omega
        | false =>
          have HE : Hid (Act.nameB s = false) := Act.name_sign s k hlt (Act.sgn_no hlk hdk)
          obtain ⟨x, hx⟩ : ∃ x, Act.letB (s[k]'hlt) = x := ⟨_, rfl⟩
          have hx1 : (decide ((97 : Int) ≤ ((s[k]'hlt).toNat : Int)) && decide (((s[k]'hlt).toNat : Int) ≤ 122)) = false := hlk
          have hx2 : (decide ((48 : Int) ≤ ((s[k]'hlt).toNat : Int)) && decide (((s[k]'hlt).toNat : Int) ≤ 57)) = false := hdk
          clear hlk hdk hx
          obtain ⟨b, hb⟩ : ∃ b, s[k]'hlt = b := ⟨_, rfl⟩
          have hb' : ((s[k]'hlt).toNat : Int) = (b.toNat : Int) := by rw [hb]
          rw [hb] at hx1 hx2
          clear hb
          have hor : ((b.toNat : Int) < 48 ∨ (57 < (b.toNat : Int) ∧ (b.toNat : Int) < 97)) ∨ 122 < (b.toNat : Int) := by
            simp only [Bool.and_eq_false_iff, decide_eq_false_iff_not] at hx1 hx2
            omega
          clear hx1 hx2
          rcases hor with (h1 | ⟨h1, h2⟩) | h1
          · have k1 : ¬ ((97 : Int) ≤ (b.toNat : Int)) := by omega
            have k2 : ¬ ((48 : Int) ≤ (b.toNat : Int)) := by omega
            clear h1
            go_wp2
            go_ret
            exact ⟨by rw [HE.out]; rfl, rfl⟩
          · have k1 : ¬ ((97 : Int) ≤ (b.toNat : Int)) := by omega
            have k2 : (48 : Int) ≤ (b.toNat : Int) := by omega
            have k3 : ¬ ((b.toNat : Int) ≤ 57) := by omega
            clear h1 h2
            go_wp2
            go_ret
            exact ⟨by rw [HE.out]; rfl, rfl⟩
          · have k1 : (97 : Int) ≤ (b.toNat : Int) := by omega
            have k2 : (48 : Int) ≤ (b.toNat : Int) := by omega
            have k3 : ¬ ((b.toNat : Int) ≤ 57) := by omega
            have k4 : ¬ ((b.toNat : Int) ≤ 122) := by omega
            clear h1
            go_wp2
            go_ret
            exact ⟨by rw [HE.out]; rfl, rfl⟩
    · have HE : Hid (Act.nameB s = true) := Act.name_yes s hp (by omega) (HF.out (by omega)) (fun j hj => HA.out j hj (by omega))
      go_wp2
      go_ret
      exact ⟨by rw [HE.out]; rfl, rfl⟩
end Go.Proofs.Ytgidkmipecfjhaa
namespace Go.Proofs.Ytgidkmipecfjhaa
open Go.RowKit
structure AccAt (w : World) (g : Nat) (a b c d e f h : Value) : Prop where
  c0 : w.cell? ⟨g, 0, none⟩ = some a
  c1 : w.cell? ⟨g, 1, none⟩ = some b
  c2 : w.cell? ⟨g, 2, none⟩ = some c
  c3 : w.cell? ⟨g, 3, none⟩ = some d
  c4 : w.cell? ⟨g, 4, none⟩ = some e
  c5 : w.cell? ⟨g, 5, none⟩ = some f
  c6 : w.cell? ⟨g, 6, none⟩ = some h
  fz : ∀ i, i < 7 → w.frozen? ⟨g, i, none⟩ = false
  lt : g < w.heap.size
theorem AccAt.cells {w : World} {g : Nat} {a b c d e f h : Value} (x : AccAt w g a b c d e f h) :
    w.cell? ⟨g, 0, none⟩ = some a ∧ w.cell? ⟨g, 1, none⟩ = some b ∧ w.cell? ⟨g, 2, none⟩ = some c ∧ w.cell? ⟨g, 3, none⟩ = some d ∧ w.cell? ⟨g, 4, none⟩ = some e ∧ w.cell? ⟨g, 5, none⟩ = some f ∧ w.cell? ⟨g, 6, none⟩ = some h :=
  ⟨x.c0, x.c1, x.c2, x.c3, x.c4, x.c5, x.c6⟩
theorem AccAt.frozens {w : World} {g : Nat} {a b c d e f h : Value} (x : AccAt w g a b c d e f h) :
    w.frozen? ⟨g, 0, none⟩ = false ∧ w.frozen? ⟨g, 1, none⟩ = false ∧ w.frozen? ⟨g, 2, none⟩ = false ∧ w.frozen? ⟨g, 3, none⟩ = false ∧ w.frozen? ⟨g, 4, none⟩ = false ∧ w.frozen? ⟨g, 5, none⟩ = false ∧ w.frozen? ⟨g, 6, none⟩ = false :=
  ⟨x.fz 0 (by omega), x.fz 1 (by omega), x.fz 2 (by omega), x.fz 3 (by omega), x.fz 4 (by omega), x.fz 5 (by omega), x.fz 6 (by omega)⟩
theorem AccAt.gr {w w' : World} {g : Nat} {a b c d e f h : Value} (x : AccAt w g a b c d e f h) (k : Gr w w') : AccAt w' g a b c d e f h :=
  ⟨k.keep x.c0, k.keep x.c1, k.keep x.c2, k.keep x.c3, k.keep x.c4, k.keep x.c5, k.keep x.c6, fun i hi => k.keepF x.lt (x.fz i hi), Nat.lt_of_lt_of_le x.lt k.size⟩
theorem AccAt.new (w : World) (a b c d e f h : Value) (t : TypeId) (g : Nat) (hg : g = w.heap.size) : AccAt (w.alloc (.cells #[a, b, c, d, e, f, h] t)) g a b c d e f h := by
  subst hg
  exact ⟨by simp, by simp, by simp, by simp, by simp, by simp, by simp, fun i hi => by simp [go_sem], by simp⟩
theorem AccAt.set7 {w : World} {g : Nat} {a b c d e f h : Value} (x : AccAt w g a b c d e f h) (a' b' c' d' e' f' h' : Value) :
    AccAt (((((((w.setCell ⟨g, 0, none⟩ a').setCell ⟨g, 1, none⟩ b').setCell ⟨g, 2, none⟩ c').setCell ⟨g, 3, none⟩ d').setCell ⟨g, 4, none⟩ e').setCell ⟨g, 5, none⟩ f').setCell ⟨g, 6, none⟩ h') g a' b' c' d' e' f' h' := by
  obtain ⟨h0, h1, h2, h3, h4, h5, h6⟩ := x.cells
  have hl := x.lt
  have hf := x.fz
  exact ⟨by simp [go_sem, *], by simp [go_sem, *], by simp [go_sem, *], by simp [go_sem, *], by simp [go_sem, *], by simp [go_sem, *], by simp [go_sem, *], fun i hi => by simp [go_sem, *], by simpa using hl⟩
theorem Gr.set7 {a b : World} (h : Gr a b) (g : Nat) (hg : a.heap.size ≤ g) (v0 v1 v2 v3 v4 v5 v6 : Value) :
    Gr a (((((((b.setCell ⟨g, 0, none⟩ v0).setCell ⟨g, 1, none⟩ v1).setCell ⟨g, 2, none⟩ v2).setCell ⟨g, 3, none⟩ v3).setCell ⟨g, 4, none⟩ v4).setCell ⟨g, 5, none⟩ v5).setCell ⟨g, 6, none⟩ v6) :=
  ((((((h.set _ hg v0).set _ hg v1).set _ hg v2).set _ hg v3).set _ hg v4).set _ hg v5).set _ hg v6
def RoomB (w : World) (g : Nat) : Prop := ∃ a b c d e f h, AccAt w g a b c d e f h
theorem RoomB.gr {w w' : World} {g : Nat} (x : RoomB w g) (k : Gr w w') : RoomB w' g := by
  obtain ⟨a, b, c, d, e, f, h, x⟩ := x
  exact ⟨a, b, c, d, e, f, h, x.gr k⟩
theorem RoomB.drew {w : World} {g : Nat} (x : RoomB w g) : RoomB w.drew g := x.gr (Gr.refl _).drew
theorem RoomB.set7 {w : World} {g : Nat} (x : RoomB w g) (a' b' c' d' e' f' h' : Value) :
    RoomB (((((((w.setCell ⟨g, 0, none⟩ a').setCell ⟨g, 1, none⟩ b').setCell ⟨g, 2, none⟩ c').setCell ⟨g, 3, none⟩ d').setCell ⟨g, 4, none⟩ e').setCell ⟨g, 5, none⟩ f').setCell ⟨g, 6, none⟩ h') g := by
  obtain ⟨a, b, c, d, e, f, h, x⟩ := x
  exact ⟨_, _, _, _, _, _, _, x.set7 a' b' c' d' e' f' h'⟩
end Go.Proofs.Ytgidkmipecfjhaa
namespace Go.Proofs.Ytgidkmipecfjhaa
open Go.RowKit
theorem fits_any (a : Int) (w : World) :
    Calls Try.prog 50 #[.int .i64 a] w fun e w' => e = .returned (.bool (decide (0 ≤ a) && decide (a ≤ 1000000000000000))) ∧ w' = w := by
  by_cases h0 : 0 ≤ a
  · by_cases h1 : a ≤ 1000000000000000
    · have HF : Hid ((decide (0 ≤ a) && decide (a ≤ 1000000000000000)) = true) := by show _ = _; simp [h0, h1]
      rw [HF.out]
      go_enter Try.func50, Try.ntmps50
      go_wp2
      go_ret
      exact ⟨rfl, rfl⟩
    · have HF : Hid ((decide (0 ≤ a) && decide (a ≤ 1000000000000000)) = false) := by show _ = _; simp [h1]
      rw [HF.out]
      go_enter Try.func50, Try.ntmps50
      go_wp2
      go_ret
      exact ⟨rfl, rfl⟩
  · have HF : Hid ((decide (0 ≤ a) && decide (a ≤ 1000000000000000)) = false) := by show _ = _; simp [h0]
    rw [HF.out]
    go_enter Try.func50, Try.ntmps50
    go_wp2
    go_ret
    exact ⟨rfl, rfl⟩
end Go.Proofs.Ytgidkmipecfjhaa
namespace Go.Proofs.Ytgidkmipecfjhaa
open Go.RowKit
set_option maxHeartbeats 1000000 in
theorem mayBe_any (h i o : Int) (w : World) (ho : o ≤ 9223372036854775807) (hh : h ≤ 9223372036854775807) :
    Calls Try.prog 106 #[.agg #[.int .i64 h, .int .i64 i, .int .i64 o]] w fun e w' => e = .returned (.bool (Pot.mayB h i o)) ∧ Gr w w' := by
  go_enter Try.func106, Try.ntmps106
  go_wp2
  all_goals go_ret
  all_goals
    refine ⟨congrArg (fun b => Ending.returned (Value.bool b)) ?_, (by repeat (first | exact Gr.refl _ | refine Gr.alloc ?_ | refine Gr.drew ?_ | refine Gr.trans ?_ (by assumption)))⟩
    rw [Bool.eq_iff_iff, Pot.may_iff]
    simp
    omega
set_option maxHeartbeats 1000000 in
theorem check_any (h i o : Int) (w : World) (ho : o ≤ 9223372036854775807) (hh : h ≤ 9223372036854775807) :
    Calls Try.prog 93 #[.agg #[.int .i64 h, .int .i64 i, .int .i64 o]] w fun e w' => e = .returned (.int .i64 (Pot.chkE h i o)) ∧ Gr w w' := by
  have HM : Hid (∀ w', Calls Try.prog 106 #[.agg #[.int .i64 h, .int .i64 i, .int .i64 o]] w' fun e w2 => e = .returned (.bool (Pot.mayB h i o)) ∧ Gr w' w2) := fun w' => mayBe_any h i o w' ho hh
  unfold Pot.chkE
  generalize Pot.mayB h i o = b at *
  cases b
  all_goals
    go_enter Try.func93, Try.ntmps93
    go_wp2_with fail
    refine (HM.out _).mono ?_
    rintro e w1 ⟨rfl, hg1⟩
    go_wp2
    go_ret
    exact ⟨rfl, (by repeat (first | exact Gr.refl _ | refine Gr.alloc ?_ | refine Gr.drew ?_ | refine Gr.trans ?_ (by assumption)))⟩
set_option maxHeartbeats 1000000 in
theorem free_any (h i o : Int) (w : World) (ho : o ≤ 9223372036854775807) (hh : h ≤ 9223372036854775807) :
    Calls Try.prog 108 #[.agg #[.int .i64 h, .int .i64 i, .int .i64 o]] w fun e w' => e = .returned (.int .i64 (Pot.freeE h i o)) ∧ Gr w w' := by
  have HM : Hid (∀ w', Calls Try.prog 106 #[.agg #[.int .i64 h, .int .i64 i, .int .i64 o]] w' fun e w2 => e = .returned (.bool (Pot.mayB h i o)) ∧ Gr w' w2) := fun w' => mayBe_any h i o w' ho hh
  unfold Pot.freeE
  have hm := Pot.may_iff h i o
  generalize Pot.mayB h i o = b at *
  cases b
  · clear hm
    go_enter Try.func108, Try.ntmps108
    go_wp2_with fail
    refine (HM.out _).mono ?_
    rintro e w1 ⟨rfl, hg1⟩
    go_wp2
    go_ret
    exact ⟨rfl, (by repeat (first | exact Gr.refl _ | refine Gr.alloc ?_ | refine Gr.drew ?_ | refine Gr.trans ?_ (by assumption)))⟩
  · obtain ⟨h1, h2, h3, h4⟩ := hm.1 rfl
    clear hm
    go_enter Try.func108, Try.ntmps108
    go_wp2_with fail
    refine (HM.out _).mono ?_
    rintro e w1 ⟨rfl, hg1⟩
    obtain ⟨hc1, hf1⟩ := hg1.cells
    go_wp2
    go_ret
    exact ⟨rfl, (by repeat (first | exact Gr.refl _ | refine Gr.alloc ?_ | refine Gr.drew ?_ | refine Gr.trans ?_ (by assumption)))⟩
set_option maxHeartbeats 1000000 in
theorem room_any (h i o : Int) (w : World) (ho : o ≤ 9223372036854775807) (hh : h ≤ 9223372036854775807) :
    Calls Try.prog 109 #[.agg #[.int .i64 h, .int .i64 i, .int .i64 o]] w fun e w' => e = .returned (.int .i64 (Pot.roomE h i o)) ∧ Gr w w' := by
  have HM : Hid (∀ w', Calls Try.prog 106 #[.agg #[.int .i64 h, .int .i64 i, .int .i64 o]] w' fun e w2 => e = .returned (.bool (Pot.mayB h i o)) ∧ Gr w' w2) := fun w' => mayBe_any h i o w' ho hh
  unfold Pot.roomE
  have hm := Pot.may_iff h i o
  generalize Pot.mayB h i o = b at *
  cases b
  · clear hm
    go_enter Try.func109, Try.ntmps109
    go_wp2_with fail
    refine (HM.out _).mono ?_
    rintro e w1 ⟨rfl, hg1⟩
    go_wp2
    go_ret
    exact ⟨rfl, (by repeat (first | exact Gr.refl _ | refine Gr.alloc ?_ | refine Gr.drew ?_ | refine Gr.trans ?_ (by assumption)))⟩
  · obtain ⟨h1, h2, h3, h4⟩ := hm.1 rfl
    clear hm
    go_enter Try.func109, Try.ntmps109
    go_wp2_with fail
    refine (HM.out _).mono ?_
    rintro e w1 ⟨rfl, hg1⟩
    obtain ⟨hc1, hf1⟩ := hg1.cells
    go_wp2
    go_ret
    exact ⟨rfl, (by repeat (first | exact Gr.refl _ | refine Gr.alloc ?_ | refine Gr.drew ?_ | refine Gr.trans ?_ (by assumption)))⟩
set_option maxHeartbeats 1000000 in
theorem refCheck_any (h i o : Int) (w : World) :
    Calls Try.prog 73 #[.agg #[.int .i64 h, .int .i64 i, .int .i64 o]] w fun e w' => e = .returned (.int .i64 (Pot.chkE h i o)) ∧ Gr w w' := by
  cases hb : Pot.mayB h i o with
  | false =>
    have hn := Pot.may_no h i o hb
    have HE : Hid (Pot.chkE h i o = 2) := by show _ = _; unfold Pot.chkE; rw [hb]; rfl
    clear hb
    by_cases h1 : i < 0
    · go_enter Try.func73, Try.ntmps73
      go_wp2
      go_ret
      exact ⟨by rw [HE.out]; rfl, (by repeat (first | exact Gr.refl _ | refine Gr.alloc ?_ | refine Gr.drew ?_ | refine Gr.trans ?_ (by assumption)))⟩
    by_cases h2 : h < i
    · go_enter Try.func73, Try.ntmps73
      go_wp2
      go_ret
      exact ⟨by rw [HE.out]; rfl, (by repeat (first | exact Gr.refl _ | refine Gr.alloc ?_ | refine Gr.drew ?_ | refine Gr.trans ?_ (by assumption)))⟩
    by_cases h3 : o < 0
    · go_enter Try.func73, Try.ntmps73
      go_wp2
      go_ret
      exact ⟨by rw [HE.out]; rfl, (by repeat (first | exact Gr.refl _ | refine Gr.alloc ?_ | refine Gr.drew ?_ | refine Gr.trans ?_ (by assumption)))⟩
    by_cases h4 : 1000000000000000 < h
    · go_enter Try.func73, Try.ntmps73
      go_wp2
      go_ret
      exact ⟨by rw [HE.out]; rfl, (by repeat (first | exact Gr.refl _ | refine Gr.alloc ?_ | refine Gr.drew ?_ | refine Gr.trans ?_ (by assumption)))⟩
    by_cases h5 : 1000000000000000 < o
    · go_enter Try.func73, Try.ntmps73
      go_wp2
      go_ret
      exact ⟨by rw [HE.out]; rfl, (by repeat (first | exact Gr.refl _ | refine Gr.alloc ?_ | refine Gr.drew ?_ | refine Gr.trans ?_ (by assumption)))⟩
    have h6 : 1000000000000000 < h + o := by omega
    clear hn
    go_enter Try.func73, Try.ntmps73
    go_wp2
    go_ret
    exact ⟨by rw [HE.out]; rfl, (by repeat (first | exact Gr.refl _ | refine Gr.alloc ?_ | refine Gr.drew ?_ | refine Gr.trans ?_ (by assumption)))⟩
  | true =>
    obtain ⟨h1, h2, h3, h4⟩ := (Pot.may_iff h i o).1 hb
    have HE : Hid (Pot.chkE h i o = 0) := by show _ = _; unfold Pot.chkE; rw [hb]; rfl
    clear hb
    have k1 : ¬ h < i := by omega
    have k2 : ¬ 1000000000000000 < h := by omega
    have k3 : ¬ 1000000000000000 < o := by omega
    have k4 : ¬ 1000000000000000 < h + o := by omega
    go_enter Try.func73, Try.ntmps73
    go_wp2
    go_ret
    exact ⟨by rw [HE.out]; rfl, (by repeat (first | exact Gr.refl _ | refine Gr.alloc ?_ | refine Gr.drew ?_ | refine Gr.trans ?_ (by assumption)))⟩
set_option maxHeartbeats 1000000 in
theorem refFree_any (h i o : Int) (w : World) :
    Calls Try.prog 112 #[.agg #[.int .i64 h, .int .i64 i, .int .i64 o]] w fun e w' => e = .returned (.int .i64 (Pot.freeE h i o)) ∧ Gr w w' := by
  have HM : Hid (∀ w', Calls Try.prog 73 #[.agg #[.int .i64 h, .int .i64 i, .int .i64 o]] w' fun e w2 => e = .returned (.int .i64 (Pot.chkE h i o)) ∧ Gr w' w2) := fun w' => refCheck_any h i o w'
  unfold Pot.freeE
  unfold Pot.chkE at HM
  have hm := Pot.may_iff h i o
  generalize Pot.mayB h i o = b at *
  cases b
  · clear hm
    go_enter Try.func112, Try.ntmps112
    go_wp2_with fail
    refine (HM.out _).mono ?_
    rintro e w1 ⟨rfl, hg1⟩
    go_wp2
    go_ret
    exact ⟨rfl, (by repeat (first | exact Gr.refl _ | refine Gr.alloc ?_ | refine Gr.drew ?_ | refine Gr.trans ?_ (by assumption)))⟩
  · obtain ⟨h1, h2, h3, h4⟩ := hm.1 rfl
    clear hm
    go_enter Try.func112, Try.ntmps112
    go_wp2_with fail
    refine (HM.out _).mono ?_
    rintro e w1 ⟨rfl, hg1⟩
    obtain ⟨hc1, hf1⟩ := hg1.cells
    go_wp2
    go_ret
    exact ⟨rfl, (by repeat (first | exact Gr.refl _ | refine Gr.alloc ?_ | refine Gr.drew ?_ | refine Gr.trans ?_ (by assumption)))⟩
set_option maxHeartbeats 1000000 in
theorem refRoom_any (h i o : Int) (w : World) :
    Calls Try.prog 113 #[.agg #[.int .i64 h, .int .i64 i, .int .i64 o]] w fun e w' => e = .returned (.int .i64 (Pot.roomE h i o)) ∧ Gr w w' := by
  have HM : Hid (∀ w', Calls Try.prog 73 #[.agg #[.int .i64 h, .int .i64 i, .int .i64 o]] w' fun e w2 => e = .returned (.int .i64 (Pot.chkE h i o)) ∧ Gr w' w2) := fun w' => refCheck_any h i o w'
  unfold Pot.roomE
  unfold Pot.chkE at HM
  have hm := Pot.may_iff h i o
  generalize Pot.mayB h i o = b at *
  cases b
  · clear hm
    go_enter Try.func113, Try.ntmps113
    go_wp2_with fail
    refine (HM.out _).mono ?_
    rintro e w1 ⟨rfl, hg1⟩
    go_wp2
    go_ret
    exact ⟨rfl, (by repeat (first | exact Gr.refl _ | refine Gr.alloc ?_ | refine Gr.drew ?_ | refine Gr.trans ?_ (by assumption)))⟩
  · obtain ⟨h1, h2, h3, h4⟩ := hm.1 rfl
    clear hm
    go_enter Try.func113, Try.ntmps113
    go_wp2_with fail
    refine (HM.out _).mono ?_
    rintro e w1 ⟨rfl, hg1⟩
    obtain ⟨hc1, hf1⟩ := hg1.cells
    go_wp2
    go_ret
    exact ⟨rfl, (by repeat (first | exact Gr.refl _ | refine Gr.alloc ?_ | refine Gr.drew ?_ | refine Gr.trans ?_ (by assumption)))⟩
end Go.Proofs.Ytgidkmipecfjhaa
