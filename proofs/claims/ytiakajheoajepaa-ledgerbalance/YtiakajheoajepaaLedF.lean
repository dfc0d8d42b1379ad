/- ledger: an account, a mark, found. -/
import Derived.Test.YtiakajheoajepaaLedA
import Derived.Test.YtiakajheoajepaaShelf
namespace Go.Proofs.Ytiakajheoajepaa
open Go.RowKit
open Led (Acc Mk)

set_option maxHeartbeats 400000 in
theorem cmpA_any (x : Acc) (t : ByteArray) (w : World) : Calls Try.prog 65 #[.agg #[.string x.s, .int .i64 x.a, .int .i64 x.b, .int .i64 x.c, .int .i64 x.x, .int .i64 x.y, .int .i64 x.z], .string t] w fun e w' => e = .returned (.int .i64 (Led.cmpE x.s t)) ∧ Gr w w' := by
  have HC : Hid (∀ w', Calls Try.prog 66 #[.string x.s, .string t] w' fun e w2 => e = .returned (.int .i64 (Led.cmpE x.s t)) ∧ w2 = w') := fun w' => Try.strings_Compare x.s t w'
  go_enter Try.func65, Try.ntmps65
  go_wp2_with fail
  refine (HC.out _).mono ?_
  rintro e w1 ⟨rfl, hw1⟩
  obtain rfl := hw1.symm
  go_wp2
  go_ret
  exact ⟨rfl, (by repeat (first | exact Gr.refl _ | refine Gr.alloc ?_ | refine Gr.drew ?_ | refine Gr.trans ?_ (by assumption)))⟩

set_option maxHeartbeats 2000000 in
set_option maxRecDepth 100000 in
theorem searchA_any (A : List Acc) (t : ByteArray) (ad : Option Addr) (cap : Nat) (w : World) (hA : AccsAt w ad A) (hu : Led.upB (Led.nm A) = true) (hn : A.length ≤ 1000000) :
    Calls Try.prog 64 #[.slice ad A.length cap, .string t, .func (.func 65) #[] #[]] w fun e w' => e = .returned (.tuple #[.int .i64 (Led.pos (Led.nm A) t : Nat), .bool (Led.hasB (Led.nm A) t)]) ∧ Gr w w' := by
  have HC : Hid (∀ (x : Acc) w', Calls Try.prog 65 #[.agg #[.string x.s, .int .i64 x.a, .int .i64 x.b, .int .i64 x.c, .int .i64 x.x, .int .i64 x.y, .int .i64 x.z], .string t] w' fun e w2 => e = .returned (.int .i64 (Led.cmpE x.s t)) ∧ Gr w' w2) := fun x w' => cmpA_any x t w'
  have HL : Hid (AccsAt w ad A) := hA
  have HP : Hid (∀ j (h : j < A.length), (Led.cmpE A[j].s t < 0 ↔ j < Led.pos (Led.nm A) t)) := by
    intro j h
    have := Led.pos_iff (Led.nm A) t hu j (by rw [Led.nm_len]; exact h)
    rw [Led.nm_get A j h] at this
    rw [Led.cmp_neg, this]
  have HE : Hid (∀ q (h : q < A.length), q = Led.pos (Led.nm A) t → (Led.cmpE A[q].s t = 0 ↔ Led.hasB (Led.nm A) t = true)) := by
    intro q h hq
    subst hq
    rw [Led.cmp_zero, Led.has_iff]
    have hg := Led.nm_get A _ h
    rw [← hg]
    constructor
    · intro e; rw [← e]; exact List.getElem_mem _
    · intro hm; exact (Led.pos_mem hu hm).2
  have HN : Hid (A.length ≤ Led.pos (Led.nm A) t → Led.hasB (Led.nm A) t = false) := by
    intro h
    cases hb : Led.hasB (Led.nm A) t with
    | false => rfl
    | true =>
      obtain ⟨h1, _⟩ := Led.pos_mem hu ((Led.has_iff _ _).1 hb)
      rw [Led.nm_len] at h1
      omega
  have hpl : Led.pos (Led.nm A) t ≤ A.length := by have := Led.pos_le (Led.nm A) t; rw [Led.nm_len] at this; exact this
  obtain ⟨p, hp⟩ : ∃ p, p = Led.pos (Led.nm A) t := ⟨_, rfl⟩
  obtain ⟨r, hr⟩ : ∃ r, r = Led.hasB (Led.nm A) t := ⟨_, rfl⟩
  simp only [← hp, ← hr] at HP HE HN hpl ⊢
  clear hA hu hp hr
  go_enter Try.func64, Try.ntmps64
  go_wp2
  go_loopw [9, 10] (fun s9 s10 wr => ∃ lo hi : Nat, s9 = .int .i64 lo ∧ s10 = .int .i64 hi ∧ lo ≤ p ∧ p ≤ hi ∧ hi ≤ A.length ∧ Gr w wr) (fun s9 s10 _ => (intOf s10).toNat - (intOf s9).toNat)
  case atStart => exact ⟨0, A.length, rfl, rfl, Nat.zero_le _, hpl, Nat.le_refl _, Gr.refl _⟩
  case round =>
    obtain ⟨lo, hi, rfl, rfl, h1, h2, h3, hg⟩ := hrel
    have HG : Hid (Gr w wr) := hg
    clear hg
    by_cases hlt : lo < hi
    · have hm : (lo + hi) / 2 < A.length := by omega
      obtain ⟨b, off, rfl, hb, d0, d1, d2, d3, d4, d5, d6⟩ := (AccsAt.at HL.out ((lo + hi) / 2) hm)
      have d0 := HG.out.keep d0
      have d1 := HG.out.keep d1
      have d2 := HG.out.keep d2
      have d3 := HG.out.keep d3
      have d4 := HG.out.keep d4
      have d5 := HG.out.keep d5
      have d6 := HG.out.keep d6
      have hbw : b < wr.heap.size := Nat.lt_of_lt_of_le hb HG.out.size
      have hP := HP.out ((lo + hi) / 2) hm
      have hc := HC.out A[(lo + hi) / 2]
      generalize A[(lo + hi) / 2] = x at *
      have HX : Hid (∀ w', Calls Try.prog 65 #[.agg #[.string x.s, .int .i64 x.a, .int .i64 x.b, .int .i64 x.c, .int .i64 x.x, .int .i64 x.y, .int .i64 x.z], .string t] w' fun e w2 => e = .returned (.int .i64 (Led.cmpE x.s t)) ∧ Gr w' w2) := hc
      generalize Led.cmpE x.s t = cv at *
      clear hc HC
      by_cases hyx : cv < 0
      · have hlp : (lo + hi) / 2 < p := hP.1 hyx
        clear hP
        go_wp2_with fail
        refine (HX.out _).mono ?_
        rintro e w2 ⟨rfl, hg2⟩
        have HG2 : Hid (Gr w w2) := HG.out.trans hg2
        go_wp2
        go_roundw
        case rel => exact ⟨(lo + hi) / 2 + 1, hi, by rw [show ((lo : Int) + (hi : Int)) / 2 + 1 = (((lo + hi) / 2 + 1 : Nat) : Int) by omega], rfl, by omega, h2, h3, HG2.out⟩
        case measure => simp [intOf]; omega
      · have hlp : ¬ (lo + hi) / 2 < p := fun h => hyx (hP.2 h)
        clear hP
        go_wp2_with fail
        refine (HX.out _).mono ?_
        rintro e w2 ⟨rfl, hg2⟩
        have HG2 : Hid (Gr w w2) := HG.out.trans hg2
        go_wp2
        go_roundw
        case rel => exact ⟨lo, (lo + hi) / 2, rfl, by rw [show ((lo : Int) + (hi : Int)) / 2 = (((lo + hi) / 2 : Nat) : Int) by omega], h1, by omega, by omega, HG2.out⟩
        case measure => simp [intOf]; omega
    · obtain rfl : lo = p := by omega
      by_cases hin : lo < A.length
      · obtain ⟨b, off, rfl, hb, d0, d1, d2, d3, d4, d5, d6⟩ := (AccsAt.at HL.out lo hin)
        have d0 := HG.out.keep d0
        have d1 := HG.out.keep d1
        have d2 := HG.out.keep d2
        have d3 := HG.out.keep d3
        have d4 := HG.out.keep d4
        have d5 := HG.out.keep d5
        have d6 := HG.out.keep d6
        have hbw : b < wr.heap.size := Nat.lt_of_lt_of_le hb HG.out.size
        have hE := HE.out lo hin rfl
        have hc := HC.out A[lo]
        generalize A[lo] = x at *
        have HX : Hid (∀ w', Calls Try.prog 65 #[.agg #[.string x.s, .int .i64 x.a, .int .i64 x.b, .int .i64 x.c, .int .i64 x.x, .int .i64 x.y, .int .i64 x.z], .string t] w' fun e w2 => e = .returned (.int .i64 (Led.cmpE x.s t)) ∧ Gr w' w2) := hc
        generalize Led.cmpE x.s t = cv at *
        clear hc HC
        have hini : (lo : Int) < (A.length : Int) := by omega
        cases r with
        | true =>
          obtain rfl : cv = 0 := hE.2 rfl
          clear hE
          go_wp2_with fail
          refine (HX.out _).mono ?_
          rintro e w2 ⟨rfl, hg2⟩
          have HG2 : Hid (Gr w w2) := HG.out.trans hg2
          go_wp2
          go_ret2
          exact ⟨rfl, HG2.out⟩
        | false =>
          have hcv : (cv == 0) = false := by
            simp only [beq_eq_false_iff_ne, ne_eq]
            intro e
            have := hE.1 e
            cases this
          clear hE
          go_wp2_with fail
          refine (HX.out _).mono ?_
          rintro e w2 ⟨rfl, hg2⟩
          have HG2 : Hid (Gr w w2) := HG.out.trans hg2
          go_wp2
          go_ret2
          exact ⟨rfl, HG2.out⟩
      · obtain rfl : r = false := HN.out (by omega)
        have hini : ¬ (lo : Int) < (A.length : Int) := by omega
        go_wp2
        go_ret2
        exact ⟨rfl, HG.out⟩

set_option maxHeartbeats 400000 in
theorem findA_any (A : List Acc) (t : ByteArray) (ad : Option Addr) (cap : Nat) (w : World) (hA : AccsAt w ad A) (hu : Led.upB (Led.nm A) = true) (hn : A.length ≤ 1000000) :
    Calls Try.prog 30 #[.slice ad A.length cap, .string t] w fun e w' => e = .returned (.tuple #[.int .i64 (Led.pos (Led.nm A) t : Nat), .bool (Led.hasB (Led.nm A) t)]) ∧ Gr w w' := by
  have HS : Hid (∀ w', Gr w w' → Calls Try.prog 64 #[.slice ad A.length cap, .string t, .func (.func 65) #[] #[]] w' fun e w2 => e = .returned (.tuple #[.int .i64 (Led.pos (Led.nm A) t : Nat), .bool (Led.hasB (Led.nm A) t)]) ∧ Gr w' w2) := fun w' g => searchA_any A t ad cap w' (hA.gr g) hu hn
  clear hA hu
  generalize Led.pos (Led.nm A) t = p at *
  generalize Led.hasB (Led.nm A) t = r at *
  go_enter Try.func30, Try.ntmps30
  go_wp2_with fail
  refine (HS.out _ (Gr.refl _)).mono ?_
  rintro e w1 ⟨rfl, hg1⟩
  go_wp2
  go_ret2
  exact ⟨rfl, hg1⟩

set_option maxHeartbeats 400000 in
theorem cmpM_any (x : Mk) (t : ByteArray) (w : World) : Calls Try.prog 75 #[.agg #[.string x.key, .int .i64 x.k, .string x.t, .int .i64 x.n, .int .i64 x.st], .string t] w fun e w' => e = .returned (.int .i64 (Led.cmpE x.key t)) ∧ Gr w w' := by
  have HC : Hid (∀ w', Calls Try.prog 66 #[.string x.key, .string t] w' fun e w2 => e = .returned (.int .i64 (Led.cmpE x.key t)) ∧ w2 = w') := fun w' => Try.strings_Compare x.key t w'
  go_enter Try.func75, Try.ntmps75
  go_wp2_with fail
  refine (HC.out _).mono ?_
  rintro e w1 ⟨rfl, hw1⟩
  obtain rfl := hw1.symm
  go_wp2
  go_ret
  exact ⟨rfl, (by repeat (first | exact Gr.refl _ | refine Gr.alloc ?_ | refine Gr.drew ?_ | refine Gr.trans ?_ (by assumption)))⟩

set_option maxHeartbeats 2000000 in
set_option maxRecDepth 100000 in
theorem searchM_any (M : List Mk) (t : ByteArray) (ad : Option Addr) (cap : Nat) (w : World) (hM : MksAt w ad M) (hu : Led.upB (Led.ky M) = true) (hn : M.length ≤ 1000000) :
    Calls Try.prog 74 #[.slice ad M.length cap, .string t, .func (.func 75) #[] #[]] w fun e w' => e = .returned (.tuple #[.int .i64 (Led.pos (Led.ky M) t : Nat), .bool (Led.hasB (Led.ky M) t)]) ∧ Gr w w' := by
  have HC : Hid (∀ (x : Mk) w', Calls Try.prog 75 #[.agg #[.string x.key, .int .i64 x.k, .string x.t, .int .i64 x.n, .int .i64 x.st], .string t] w' fun e w2 => e = .returned (.int .i64 (Led.cmpE x.key t)) ∧ Gr w' w2) := fun x w' => cmpM_any x t w'
  have HL : Hid (MksAt w ad M) := hM
  have HP : Hid (∀ j (h : j < M.length), (Led.cmpE M[j].key t < 0 ↔ j < Led.pos (Led.ky M) t)) := by
    intro j h
    have := Led.pos_iff (Led.ky M) t hu j (by rw [Led.ky_len]; exact h)
    rw [Led.ky_get M j h] at this
    rw [Led.cmp_neg, this]
  have HE : Hid (∀ q (h : q < M.length), q = Led.pos (Led.ky M) t → (Led.cmpE M[q].key t = 0 ↔ Led.hasB (Led.ky M) t = true)) := by
    intro q h hq
    subst hq
    rw [Led.cmp_zero, Led.has_iff]
    have hg := Led.ky_get M _ h
    rw [← hg]
    constructor
    · intro e; rw [← e]; exact List.getElem_mem _
    · intro hm; exact (Led.pos_mem hu hm).2
  have HN : Hid (M.length ≤ Led.pos (Led.ky M) t → Led.hasB (Led.ky M) t = false) := by
    intro h
    cases hb : Led.hasB (Led.ky M) t with
    | false => rfl
    | true =>
      obtain ⟨h1, _⟩ := Led.pos_mem hu ((Led.has_iff _ _).1 hb)
      rw [Led.ky_len] at h1
      omega
  have hpl : Led.pos (Led.ky M) t ≤ M.length := by have := Led.pos_le (Led.ky M) t; rw [Led.ky_len] at this; exact this
  obtain ⟨p, hp⟩ : ∃ p, p = Led.pos (Led.ky M) t := ⟨_, rfl⟩
  obtain ⟨r, hr⟩ : ∃ r, r = Led.hasB (Led.ky M) t := ⟨_, rfl⟩
  simp only [← hp, ← hr] at HP HE HN hpl ⊢
  clear hM hu hp hr
  go_enter Try.func74, Try.ntmps74
  go_wp2
  go_loopw [9, 10] (fun s9 s10 wr => ∃ lo hi : Nat, s9 = .int .i64 lo ∧ s10 = .int .i64 hi ∧ lo ≤ p ∧ p ≤ hi ∧ hi ≤ M.length ∧ Gr w wr) (fun s9 s10 _ => (intOf s10).toNat - (intOf s9).toNat)
  case atStart => exact ⟨0, M.length, rfl, rfl, Nat.zero_le _, hpl, Nat.le_refl _, Gr.refl _⟩
  case round =>
    obtain ⟨lo, hi, rfl, rfl, h1, h2, h3, hg⟩ := hrel
    have HG : Hid (Gr w wr) := hg
    clear hg
    by_cases hlt : lo < hi
    · have hm : (lo + hi) / 2 < M.length := by omega
      obtain ⟨b, off, rfl, hb, d0, d1, d2, d3, d4⟩ := (MksAt.at HL.out ((lo + hi) / 2) hm)
      have d0 := HG.out.keep d0
      have d1 := HG.out.keep d1
      have d2 := HG.out.keep d2
      have d3 := HG.out.keep d3
      have d4 := HG.out.keep d4
      have hbw : b < wr.heap.size := Nat.lt_of_lt_of_le hb HG.out.size
      have hP := HP.out ((lo + hi) / 2) hm
      have hc := HC.out M[(lo + hi) / 2]
      generalize M[(lo + hi) / 2] = x at *
      have HX : Hid (∀ w', Calls Try.prog 75 #[.agg #[.string x.key, .int .i64 x.k, .string x.t, .int .i64 x.n, .int .i64 x.st], .string t] w' fun e w2 => e = .returned (.int .i64 (Led.cmpE x.key t)) ∧ Gr w' w2) := hc
      generalize Led.cmpE x.key t = cv at *
      clear hc HC
      by_cases hyx : cv < 0
      · have hlp : (lo + hi) / 2 < p := hP.1 hyx
        clear hP
        go_wp2_with fail
        refine (HX.out _).mono ?_
        rintro e w2 ⟨rfl, hg2⟩
        have HG2 : Hid (Gr w w2) := HG.out.trans hg2
        go_wp2
        go_roundw
        case rel => exact ⟨(lo + hi) / 2 + 1, hi, by rw [show ((lo : Int) + (hi : Int)) / 2 + 1 = (((lo + hi) / 2 + 1 : Nat) : Int) by omega], rfl, by omega, h2, h3, HG2.out⟩
        case measure => simp [intOf]; omega
      · have hlp : ¬ (lo + hi) / 2 < p := fun h => hyx (hP.2 h)
        clear hP
        go_wp2_with fail
        refine (HX.out _).mono ?_
        rintro e w2 ⟨rfl, hg2⟩
        have HG2 : Hid (Gr w w2) := HG.out.trans hg2
        go_wp2
        go_roundw
        case rel => exact ⟨lo, (lo + hi) / 2, rfl, by rw [show ((lo : Int) + (hi : Int)) / 2 = (((lo + hi) / 2 : Nat) : Int) by omega], h1, by omega, by omega, HG2.out⟩
        case measure => simp [intOf]; omega
    · obtain rfl : lo = p := by omega
      by_cases hin : lo < M.length
      · obtain ⟨b, off, rfl, hb, d0, d1, d2, d3, d4⟩ := (MksAt.at HL.out lo hin)
        have d0 := HG.out.keep d0
        have d1 := HG.out.keep d1
        have d2 := HG.out.keep d2
        have d3 := HG.out.keep d3
        have d4 := HG.out.keep d4
        have hbw : b < wr.heap.size := Nat.lt_of_lt_of_le hb HG.out.size
        have hE := HE.out lo hin rfl
        have hc := HC.out M[lo]
        generalize M[lo] = x at *
        have HX : Hid (∀ w', Calls Try.prog 75 #[.agg #[.string x.key, .int .i64 x.k, .string x.t, .int .i64 x.n, .int .i64 x.st], .string t] w' fun e w2 => e = .returned (.int .i64 (Led.cmpE x.key t)) ∧ Gr w' w2) := hc
        generalize Led.cmpE x.key t = cv at *
        clear hc HC
        have hini : (lo : Int) < (M.length : Int) := by omega
        cases r with
        | true =>
          obtain rfl : cv = 0 := hE.2 rfl
          clear hE
          go_wp2_with fail
          refine (HX.out _).mono ?_
          rintro e w2 ⟨rfl, hg2⟩
          have HG2 : Hid (Gr w w2) := HG.out.trans hg2
          go_wp2
          go_ret2
          exact ⟨rfl, HG2.out⟩
        | false =>
          have hcv : (cv == 0) = false := by
            simp only [beq_eq_false_iff_ne, ne_eq]
            intro e
            have := hE.1 e
            cases this
          clear hE
          go_wp2_with fail
          refine (HX.out _).mono ?_
          rintro e w2 ⟨rfl, hg2⟩
          have HG2 : Hid (Gr w w2) := HG.out.trans hg2
          go_wp2
          go_ret2
          exact ⟨rfl, HG2.out⟩
      · obtain rfl : r = false := HN.out (by omega)
        have hini : ¬ (lo : Int) < (M.length : Int) := by omega
        go_wp2
        go_ret2
        exact ⟨rfl, HG.out⟩

set_option maxHeartbeats 400000 in
theorem findM_any (M : List Mk) (t : ByteArray) (ad : Option Addr) (cap : Nat) (w : World) (hM : MksAt w ad M) (hu : Led.upB (Led.ky M) = true) (hn : M.length ≤ 1000000) :
    Calls Try.prog 47 #[.slice ad M.length cap, .string t] w fun e w' => e = .returned (.tuple #[.int .i64 (Led.pos (Led.ky M) t : Nat), .bool (Led.hasB (Led.ky M) t)]) ∧ Gr w w' := by
  have HS : Hid (∀ w', Gr w w' → Calls Try.prog 74 #[.slice ad M.length cap, .string t, .func (.func 75) #[] #[]] w' fun e w2 => e = .returned (.tuple #[.int .i64 (Led.pos (Led.ky M) t : Nat), .bool (Led.hasB (Led.ky M) t)]) ∧ Gr w' w2) := fun w' g => searchM_any M t ad cap w' (hM.gr g) hu hn
  clear hM hu
  generalize Led.pos (Led.ky M) t = p at *
  generalize Led.hasB (Led.ky M) t = r at *
  go_enter Try.func47, Try.ntmps47
  go_wp2_with fail
  refine (HS.out _ (Gr.refl _)).mono ?_
  rintro e w1 ⟨rfl, hg1⟩
  go_wp2
  go_ret2
  exact ⟨rfl, hg1⟩
end Go.Proofs.Ytiakajheoajepaa
