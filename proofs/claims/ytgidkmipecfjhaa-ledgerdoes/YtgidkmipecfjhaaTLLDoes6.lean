/- What the proof is made of, part 6. -/
import Derived.Test.YtgidkmipecfjhaaTLLDoes5
import Derived.Laws.Cover1
import Derived.Deep.MidRow
import Derived.BigQuiet
namespace Go.Proofs.Ytgidkmipecfjhaa
open Go.RowKit
open Led (Acc Mk)
theorem hold5a {a b : World} (g : Gr a b) {q0 q1 q2 q3 q4 : Addr} {v0 v1 v2 v3 v4 : Value} (h0 : a.cell? q0 = some v0) (h1 : a.cell? q1 = some v1) (h2 : a.cell? q2 = some v2) (h3 : a.cell? q3 = some v3) (h4 : a.cell? q4 = some v4) :
    Gr a b ∧ b.cell? q0 = some v0 ∧ b.cell? q1 = some v1 ∧ b.cell? q2 = some v2 ∧ b.cell? q3 = some v3 ∧ b.cell? q4 = some v4 :=
  ⟨g, g.keep h0, g.keep h1, g.keep h2, g.keep h3, g.keep h4⟩
theorem hold6a {a b : World} (g : Gr a b) {q0 q1 q2 q3 q4 q5 : Addr} {v0 v1 v2 v3 v4 v5 : Value} (h0 : a.cell? q0 = some v0) (h1 : a.cell? q1 = some v1) (h2 : a.cell? q2 = some v2) (h3 : a.cell? q3 = some v3) (h4 : a.cell? q4 = some v4) (h5 : a.cell? q5 = some v5) :
    Gr a b ∧ b.cell? q0 = some v0 ∧ b.cell? q1 = some v1 ∧ b.cell? q2 = some v2 ∧ b.cell? q3 = some v3 ∧ b.cell? q4 = some v4 ∧ b.cell? q5 = some v5 :=
  ⟨g, g.keep h0, g.keep h1, g.keep h2, g.keep h3, g.keep h4, g.keep h5⟩
set_option maxHeartbeats 4000000 in
set_option maxRecDepth 100000 in
theorem mks_any (A : List Acc) (M : List Mk) (adA : Option Addr) (capA : Nat) (ad : Option Addr) (cap : Nat) (w : World) (hA : AccsAt w adA A) (hu : Led.upB (Led.nm A) = true) (hnA : A.length ≤ 1000000) (hM : MksAt w ad M) (hr : ∀ x ∈ M, inM x) (hn : M.length ≤ 9223372036854775807) :
    Calls Try.prog 40 #[.slice ad M.length cap, .func (.func 30) #[.slice adA A.length capA] #[]] w fun e w' => e = .returned (.bool (Led.mksB A M)) ∧ Gr w w' := by
  have HL : Hid (MksAt w ad M) := hM
  have HR : Hid (∀ x ∈ M, inM x) := hr
  have HMM : Hid (∀ (m : Mk) w', inM m → Gr w w' → Calls Try.prog 71 #[.agg #[.string m.key, .int .i64 m.k, .string m.t, .int .i64 m.n, .int .i64 m.st], .func (.func 30) #[.slice adA A.length capA] #[]] w' fun e w2 => e = .returned (.bool (Led.mkOk A m)) ∧ Gr w' w2) := fun m w' hm g => markMay_any A m adA capA w' (hA.gr g) hu hnA hm
  clear hA hM hr hu
  by_cases hlen : (500 : Int) < (M.length : Int)
  · have HF : Hid (Led.mksB A M = false) := by
      show _ = _
      unfold Led.mksB
      rw [decide_eq_false (by omega)]; rfl
    have hlen2 : 500 < M.length := by omega
    go_enter Try.func40, Try.ntmps40
    go_wp2
    go_ret
    exact ⟨by rw [HF.out]; rfl, (by repeat (first | exact Gr.refl _ | refine Gr.alloc ?_ | refine Gr.drew ?_ | refine Gr.trans ?_ (by assumption)))⟩
  · have hlen2 : ¬ 500 < M.length := by omega
    go_enter Try.func40, Try.ntmps40
    go_wp2
    go_loopw [12] (fun s10 wr => ∃ k : Nat, s10 = .int .i64 k ∧ k ≤ M.length ∧ (∀ j (h : j < M.length), j < k → Led.mkOk A M[j] = true) ∧ (∀ j (h : j + 1 < M.length), j + 1 < k → Led.lt M[j].key M[j + 1].key = true) ∧ Gr w wr) (fun s10 _ => M.length - (intOf s10).toNat)
    case atStart => exact ⟨0, rfl, Nat.zero_le _, fun j _ h => absurd h (Nat.not_lt_zero _), fun j _ h => absurd h (Nat.not_lt_zero _), Gr.refl _⟩
    case round =>
      obtain ⟨k, rfl, hk, hok, hup, hg⟩ := hrel
      have HG : Hid (Gr w wr) := hg
      have HK : Hid (∀ j (h : j < M.length), j < k → Led.mkOk A M[j] = true) := hok
      have HU : Hid (∀ j (h : j + 1 < M.length), j + 1 < k → Led.lt M[j].key M[j + 1].key = true) := hup
      clear hg hok hup
      by_cases hlt : k < M.length
      · obtain ⟨b, off, rfl, hb, d0, d1, d2, d3, d4⟩ := (MksAt.at HL.out k hlt)
        have d0 := HG.out.keep d0
        have d1 := HG.out.keep d1
        have d2 := HG.out.keep d2
        have d3 := HG.out.keep d3
        have d4 := HG.out.keep d4
        have hbw : b < wr.heap.size := Nat.lt_of_lt_of_le hb HG.out.size
        have hki : (k : Int) < (M.length : Int) := by omega
        have hM := fun w' => HMM.out M[k] w' (HR.out M[k] (List.getElem_mem hlt))
        cases hacc : Led.mkOk A M[k] with
        | false =>
          have HF : Hid (Led.mksB A M = false) := by
            show _ = _
            unfold Led.mksB
            have : M.all (Led.mkOk A) = false := by rw [List.all_eq_false]; exact ⟨M[k], List.getElem_mem hlt, by rw [hacc]; simp⟩
            rw [this]; simp
          have hM2 : ∀ w', Gr w w' → Calls Try.prog 71 #[.agg #[.string M[k].key, .int .i64 M[k].k, .string M[k].t, .int .i64 M[k].n, .int .i64 M[k].st], .func (.func 30) #[.slice adA A.length capA] #[]] w' fun e w2 => e = .returned (.bool false) ∧ Gr w' w2 := fun w' g => by have := hM w' g; rw [hacc] at this; exact this
          clear hM hacc
          generalize M[k] = x at *
          have HM : Hid (∀ w', Gr w w' → Calls Try.prog 71 #[.agg #[.string x.key, .int .i64 x.k, .string x.t, .int .i64 x.n, .int .i64 x.st], .func (.func 30) #[.slice adA A.length capA] #[]] w' fun e w2 => e = .returned (.bool false) ∧ Gr w' w2) := hM2
          clear hM2
          go_wp2_with fail
          have X := FiveAt.new wr (.string x.key) (.int .i64 x.k) (.string x.t) (.int .i64 x.n) (.int .i64 x.st) 64 _ rfl
          obtain ⟨x0, x1, x2, x3, x4, _, _⟩ := X
          obtain ⟨W, hW⟩ : ∃ W, W = wr.alloc (.cells #[.string x.key, .int .i64 x.k, .string x.t, .int .i64 x.n, .int .i64 x.st] 64) := ⟨_, rfl⟩
          have HGW : Hid (Gr w W) := by show Gr _ _; rw [hW]; exact HG.out.alloc
          rw [← hW] at x0 x1 x2 x3 x4 ⊢
          clear hW d0 d1 d2 d3 d4
          refine wp_region_held_drew (S := (fun w' => Gr W w' ∧ w'.cell? ⟨wr.heap.size, 0, none⟩ = some (.string x.key) ∧ w'.cell? ⟨wr.heap.size, 1, none⟩ = some (.int .i64 x.k) ∧ w'.cell? ⟨wr.heap.size, 2, none⟩ = some (.string x.t) ∧ w'.cell? ⟨wr.heap.size, 3, none⟩ = some (.int .i64 x.n) ∧ w'.cell? ⟨wr.heap.size, 4, none⟩ = some (.int .i64 x.st))) (by kernel_rfl) (by exact hold5a (by (with_reducible repeat' (first | exact Gr.refl _ | refine Gr.set ?_ _ ?_ _ | refine Gr.alloc ?_ | refine Gr.drew ?_ | refine Gr.trans ?_ (by assumption))) <;> (first | (simp; done) | (simp; omega) | omega)) x0 x1 x2 x3 x4) (fun hHeld => ?_)
          refine ty 0 17 hHeld ?_
          refine ty 1 18 hHeld ?_
          refine wpAnyH_ready (rs := [2]) (by kernel_rfl) (by simp) (AllReadyH.cons rfl (fun K hK => ?_) AllReadyH.nil)
          go_simp
          (go_at_call 71; refine (HM.out _ (HGW.out.trans (by (with_reducible repeat' (first | exact Gr.refl _ | refine Gr.set ?_ _ ?_ _ | refine Gr.alloc ?_ | refine Gr.drew ?_ | refine Gr.trans ?_ (by assumption))) <;> (first | (simp; done) | (simp; omega) | omega)))).mono ?_; rintro e wn ⟨rfl, hgn⟩)
          (try go_wp2_with fail)
          refine hK.out _ _ (by exact hold5a (by (with_reducible repeat' (first | exact Gr.refl _ | refine Gr.set ?_ _ ?_ _ | refine Gr.alloc ?_ | refine Gr.drew ?_ | refine Gr.trans ?_ (by assumption))) <;> (first | (simp; done) | (simp; omega) | omega)) x0 x1 x2 x3 x4) (fun hHeldN => ?_)
          clear hHeld hK K
          have hHeld := hHeldN
          clear hHeldN
          refine ty 3 20 hHeld ?_
          refine ty 4 21 hHeld ?_
          refine tn 5 22 hHeld ?_
          refine tn 6 23 hHeld ?_
          refine tn 7 24 hHeld ?_
          refine tn 8 25 hHeld ?_
          refine tn 9 26 hHeld ?_
          refine tn 10 27 hHeld ?_
          refine tn 11 28 hHeld ?_
          refine tn 12 29 hHeld ?_
          refine tn 13 30 hHeld ?_
          refine tn 14 31 hHeld ?_
          refine tn 15 32 hHeld ?_
          refine tn 16 33 hHeld ?_
          refine tn 17 34 hHeld ?_
          refine ty 18 35 hHeld ?_
          refine wpAnyH_done (by kernel_rfl) ?_ _
          all_goals
            go_wp2
            go_ret
            exact ⟨by rw [HF.out]; rfl, HGW.out.trans (by (with_reducible repeat' (first | exact Gr.refl _ | refine Gr.set ?_ _ ?_ _ | refine Gr.alloc ?_ | refine Gr.drew ?_ | refine Gr.trans ?_ (by assumption))) <;> (first | (simp; done) | (simp; omega) | omega))⟩
        | true =>
          have HKX : Hid (Led.mkOk A M[k] = true) := hacc
          have hM2 : ∀ w', Gr w w' → Calls Try.prog 71 #[.agg #[.string M[k].key, .int .i64 M[k].k, .string M[k].t, .int .i64 M[k].n, .int .i64 M[k].st], .func (.func 30) #[.slice adA A.length capA] #[]] w' fun e w2 => e = .returned (.bool true) ∧ Gr w' w2 := fun w' g => by have := hM w' g; rw [hacc] at this; exact this
          clear hM hacc
          by_cases hk0 : k = 0
          · have hz1 : decide ((0 : Int) < (k : Int)) = false := by simp; omega
            have hz2 : decide (0 < k) = false := by simp; omega
            have HK0 : Hid (k = 0) := hk0
            clear hk0
            generalize M[k] = x at d0 d1 d2 d3 d4 hM2
            have HM : Hid (∀ w', Gr w w' → Calls Try.prog 71 #[.agg #[.string x.key, .int .i64 x.k, .string x.t, .int .i64 x.n, .int .i64 x.st], .func (.func 30) #[.slice adA A.length capA] #[]] w' fun e w2 => e = .returned (.bool true) ∧ Gr w' w2) := hM2
            clear hM2
            go_wp2_with fail
            have X := FiveAt.new wr (.string x.key) (.int .i64 x.k) (.string x.t) (.int .i64 x.n) (.int .i64 x.st) 64 _ rfl
            obtain ⟨x0, x1, x2, x3, x4, _, _⟩ := X
            obtain ⟨W, hW⟩ : ∃ W, W = wr.alloc (.cells #[.string x.key, .int .i64 x.k, .string x.t, .int .i64 x.n, .int .i64 x.st] 64) := ⟨_, rfl⟩
            have HGW : Hid (Gr w W) := by show Gr _ _; rw [hW]; exact HG.out.alloc
            rw [← hW] at x0 x1 x2 x3 x4 ⊢
            clear hW d0 d1 d2 d3 d4
            refine wp_region_held_drew (S := (fun w' => Gr W w' ∧ w'.cell? ⟨wr.heap.size, 0, none⟩ = some (.string x.key) ∧ w'.cell? ⟨wr.heap.size, 1, none⟩ = some (.int .i64 x.k) ∧ w'.cell? ⟨wr.heap.size, 2, none⟩ = some (.string x.t) ∧ w'.cell? ⟨wr.heap.size, 3, none⟩ = some (.int .i64 x.n) ∧ w'.cell? ⟨wr.heap.size, 4, none⟩ = some (.int .i64 x.st))) (by kernel_rfl) (by exact hold5a (by (with_reducible repeat' (first | exact Gr.refl _ | refine Gr.set ?_ _ ?_ _ | refine Gr.alloc ?_ | refine Gr.drew ?_ | refine Gr.trans ?_ (by assumption))) <;> (first | (simp; done) | (simp; omega) | omega)) x0 x1 x2 x3 x4) (fun hHeld => ?_)
            refine ty 0 17 hHeld ?_
            refine ty 1 18 hHeld ?_
            refine wpAnyH_ready (rs := [2]) (by kernel_rfl) (by simp) (AllReadyH.cons rfl (fun K hK => ?_) AllReadyH.nil)
            go_simp
            (go_at_call 71; refine (HM.out _ (HGW.out.trans (by (with_reducible repeat' (first | exact Gr.refl _ | refine Gr.set ?_ _ ?_ _ | refine Gr.alloc ?_ | refine Gr.drew ?_ | refine Gr.trans ?_ (by assumption))) <;> (first | (simp; done) | (simp; omega) | omega)))).mono ?_; rintro e wn ⟨rfl, hgn⟩)
            (try go_wp2_with fail)
            refine hK.out _ _ (by exact hold5a (by (with_reducible repeat' (first | exact Gr.refl _ | refine Gr.set ?_ _ ?_ _ | refine Gr.alloc ?_ | refine Gr.drew ?_ | refine Gr.trans ?_ (by assumption))) <;> (first | (simp; done) | (simp; omega) | omega)) x0 x1 x2 x3 x4) (fun hHeldN => ?_)
            clear hHeld hK K
            have hHeld := hHeldN
            clear hHeldN
            refine ty 3 20 hHeld ?_
            refine ty 4 21 hHeld ?_
            refine ty 5 22 hHeld ?_
            refine ty 6 23 hHeld ?_
            refine ty 7 24 hHeld ?_
            refine tn 8 25 hHeld ?_
            refine tn 9 26 hHeld ?_
            refine tn 10 27 hHeld ?_
            refine tn 11 28 hHeld ?_
            refine tn 12 29 hHeld ?_
            refine tn 13 30 hHeld ?_
            refine tn 14 31 hHeld ?_
            refine tn 15 32 hHeld ?_
            refine tn 16 33 hHeld ?_
            refine ty 17 34 hHeld ?_
            refine ty 18 35 hHeld ?_
            refine wpAnyH_done (by kernel_rfl) ?_ _
            go_wp2
            go_roundw
            case rel =>
              have hk0 := HK0.out
              exact ⟨k + 1, by go_num, by omega, (fun j h hj => by
                by_cases e : j = k
                · subst e; exact HKX.out
                · exact HK.out j h (by omega)), (fun j h hj => by omega), HGW.out.trans (by (with_reducible repeat' (first | exact Gr.refl _ | refine Gr.set ?_ _ ?_ _ | refine Gr.alloc ?_ | refine Gr.drew ?_ | refine Gr.trans ?_ (by assumption))) <;> (first | (simp; done) | (simp; omega) | omega))⟩
            case measure => simp [intOf]; omega
          · obtain ⟨k', hk'⟩ : ∃ k', k = k' + 1 := ⟨k - 1, by omega⟩
            have hlt' : k' < M.length := by omega
            have hz1 : decide ((0 : Int) < (k : Int)) = true := by simp; omega
            have hz2 : decide (0 < k) = true := by simp; omega
            have hz3 : IntKind.i64.wrap (k' : Int) = (k' : Int) := by rw [IntKind.wrap_i64]; omega
            have hz4 : (k : Int) - 1 = (k' : Int) := by omega
            have hz5 : (k' : Int) < (M.length : Int) := by omega
            obtain ⟨b', off', e', _, c0, _⟩ := (MksAt.at HL.out k' hlt')
            cases e'
            have c0 := HG.out.keep c0
            have HLT0 : Hid (Led.lt M[k'].key M[k].key = true → ∀ (j : Nat) (h : j + 1 < M.length), j + 1 = k → Led.lt M[j].key M[j + 1].key = true) := by
              intro hl j h e
              subst e
              obtain rfl : k' = j := by omega
              exact hl
            have HLF : Hid (Led.lt M[k'].key M[k].key = false → Led.mksB A M = false) := by
              intro hl
              cases hb : Led.mksB A M with
              | false => rfl
              | true =>
                obtain ⟨_, _, h3⟩ := (Led.mks_iff A M).1 hb
                have := (Led.up_iff _).1 h3 k' (by rw [Led.ky_len]; omega)
                rw [Led.ky_get M k' (by omega), Led.ky_get M (k' + 1) (by omega)] at this
                subst hk'
                rw [this] at hl; cases hl
            have hbl : Op.bytesLess M[k'].key.toList M[k].key.toList = Led.lt M[k'].key M[k].key := rfl
            generalize M[k'].key = y at c0 HLT0 HLF hbl
            generalize M[k] = x at d0 d1 d2 d3 d4 hM2 HLT0 HLF hbl
            have HM : Hid (∀ w', Gr w w' → Calls Try.prog 71 #[.agg #[.string x.key, .int .i64 x.k, .string x.t, .int .i64 x.n, .int .i64 x.st], .func (.func 30) #[.slice adA A.length capA] #[]] w' fun e w2 => e = .returned (.bool true) ∧ Gr w' w2) := hM2
            clear hM2 hk0
            cases hl : Led.lt y x.key with
            | false =>
              rw [hl] at hbl
              have HF : Hid (Led.mksB A M = false) := HLF.out hl
              clear HLF HLT0 hl hk'
              go_wp2_with fail
              have X := FiveAt.new wr (.string x.key) (.int .i64 x.k) (.string x.t) (.int .i64 x.n) (.int .i64 x.st) 64 _ rfl
              obtain ⟨x0, x1, x2, x3, x4, _, _⟩ := X
              obtain ⟨W, hW⟩ : ∃ W, W = wr.alloc (.cells #[.string x.key, .int .i64 x.k, .string x.t, .int .i64 x.n, .int .i64 x.st] 64) := ⟨_, rfl⟩
              have HGW : Hid (Gr w W) := by show Gr _ _; rw [hW]; exact HG.out.alloc
              have c0 := (Gr.refl wr).alloc (o := .cells #[.string x.key, .int .i64 x.k, .string x.t, .int .i64 x.n, .int .i64 x.st] 64) |>.keep c0
              rw [← hW] at x0 x1 x2 x3 x4 c0 ⊢
              clear hW d0 d1 d2 d3 d4
              refine wp_region_held_drew (S := (fun w' => Gr W w' ∧ w'.cell? ⟨wr.heap.size, 0, none⟩ = some (.string x.key) ∧ w'.cell? ⟨wr.heap.size, 1, none⟩ = some (.int .i64 x.k) ∧ w'.cell? ⟨wr.heap.size, 2, none⟩ = some (.string x.t) ∧ w'.cell? ⟨wr.heap.size, 3, none⟩ = some (.int .i64 x.n) ∧ w'.cell? ⟨wr.heap.size, 4, none⟩ = some (.int .i64 x.st) ∧ w'.cell? ⟨b, off + k' * 5, none⟩ = some (.string y))) (by kernel_rfl) (by exact hold6a (by (with_reducible repeat' (first | exact Gr.refl _ | refine Gr.set ?_ _ ?_ _ | refine Gr.alloc ?_ | refine Gr.drew ?_ | refine Gr.trans ?_ (by assumption))) <;> (first | (simp; done) | (simp; omega) | omega)) x0 x1 x2 x3 x4 c0) (fun hHeld => ?_)
              refine ty 0 17 hHeld ?_
              refine ty 1 18 hHeld ?_
              refine wpAnyH_ready (rs := [2]) (by kernel_rfl) (by simp) (AllReadyH.cons rfl (fun K hK => ?_) AllReadyH.nil)
              go_simp
              (go_at_call 71; refine (HM.out _ (HGW.out.trans (by (with_reducible repeat' (first | exact Gr.refl _ | refine Gr.set ?_ _ ?_ _ | refine Gr.alloc ?_ | refine Gr.drew ?_ | refine Gr.trans ?_ (by assumption))) <;> (first | (simp; done) | (simp; omega) | omega)))).mono ?_; rintro e wn ⟨rfl, hgn⟩)
              (try go_wp2_with fail)
              refine hK.out _ _ (by exact hold6a (by (with_reducible repeat' (first | exact Gr.refl _ | refine Gr.set ?_ _ ?_ _ | refine Gr.alloc ?_ | refine Gr.drew ?_ | refine Gr.trans ?_ (by assumption))) <;> (first | (simp; done) | (simp; omega) | omega)) x0 x1 x2 x3 x4 c0) (fun hHeldN => ?_)
              clear hHeld hK K
              have hHeld := hHeldN
              clear hHeldN
              refine ty 3 20 hHeld ?_
              refine ty 4 21 hHeld ?_
              refine ty 5 22 hHeld ?_
              refine ty 6 23 hHeld ?_
              refine ty 7 24 hHeld ?_
              refine ty 8 25 hHeld ?_
              refine ty 9 26 hHeld ?_
              refine ty 10 27 hHeld ?_
              refine ty 11 28 hHeld ?_
              refine ty 12 29 hHeld ?_
              refine ty 13 30 hHeld ?_
              refine ty 14 31 hHeld ?_
              refine ty 15 32 hHeld ?_
              refine ty 16 33 hHeld ?_
              refine ty 17 34 hHeld ?_
              refine ty 18 35 hHeld ?_
              refine wpAnyH_done (by kernel_rfl) ?_ _
              go_wp2
              go_ret
              exact ⟨by rw [HF.out]; rfl, HGW.out.trans (by (with_reducible repeat' (first | exact Gr.refl _ | refine Gr.set ?_ _ ?_ _ | refine Gr.alloc ?_ | refine Gr.drew ?_ | refine Gr.trans ?_ (by assumption))) <;> (first | (simp; done) | (simp; omega) | omega))⟩
            | true =>
              rw [hl] at hbl
              have HLT : Hid (∀ (j : Nat) (h : j + 1 < M.length), j + 1 = k → Led.lt M[j].key M[j + 1].key = true) := HLT0.out hl
              clear HLF HLT0 hl hk'
              go_wp2_with fail
              have X := FiveAt.new wr (.string x.key) (.int .i64 x.k) (.string x.t) (.int .i64 x.n) (.int .i64 x.st) 64 _ rfl
              obtain ⟨x0, x1, x2, x3, x4, _, _⟩ := X
              obtain ⟨W, hW⟩ : ∃ W, W = wr.alloc (.cells #[.string x.key, .int .i64 x.k, .string x.t, .int .i64 x.n, .int .i64 x.st] 64) := ⟨_, rfl⟩
              have HGW : Hid (Gr w W) := by show Gr _ _; rw [hW]; exact HG.out.alloc
              have c0 := (Gr.refl wr).alloc (o := .cells #[.string x.key, .int .i64 x.k, .string x.t, .int .i64 x.n, .int .i64 x.st] 64) |>.keep c0
              rw [← hW] at x0 x1 x2 x3 x4 c0 ⊢
              clear hW d0 d1 d2 d3 d4
              refine wp_region_held_drew (S := (fun w' => Gr W w' ∧ w'.cell? ⟨wr.heap.size, 0, none⟩ = some (.string x.key) ∧ w'.cell? ⟨wr.heap.size, 1, none⟩ = some (.int .i64 x.k) ∧ w'.cell? ⟨wr.heap.size, 2, none⟩ = some (.string x.t) ∧ w'.cell? ⟨wr.heap.size, 3, none⟩ = some (.int .i64 x.n) ∧ w'.cell? ⟨wr.heap.size, 4, none⟩ = some (.int .i64 x.st) ∧ w'.cell? ⟨b, off + k' * 5, none⟩ = some (.string y))) (by kernel_rfl) (by exact hold6a (by (with_reducible repeat' (first | exact Gr.refl _ | refine Gr.set ?_ _ ?_ _ | refine Gr.alloc ?_ | refine Gr.drew ?_ | refine Gr.trans ?_ (by assumption))) <;> (first | (simp; done) | (simp; omega) | omega)) x0 x1 x2 x3 x4 c0) (fun hHeld => ?_)
              refine ty 0 17 hHeld ?_
              refine ty 1 18 hHeld ?_
              refine wpAnyH_ready (rs := [2]) (by kernel_rfl) (by simp) (AllReadyH.cons rfl (fun K hK => ?_) AllReadyH.nil)
              go_simp
              (go_at_call 71; refine (HM.out _ (HGW.out.trans (by (with_reducible repeat' (first | exact Gr.refl _ | refine Gr.set ?_ _ ?_ _ | refine Gr.alloc ?_ | refine Gr.drew ?_ | refine Gr.trans ?_ (by assumption))) <;> (first | (simp; done) | (simp; omega) | omega)))).mono ?_; rintro e wn ⟨rfl, hgn⟩)
              (try go_wp2_with fail)
              refine hK.out _ _ (by exact hold6a (by (with_reducible repeat' (first | exact Gr.refl _ | refine Gr.set ?_ _ ?_ _ | refine Gr.alloc ?_ | refine Gr.drew ?_ | refine Gr.trans ?_ (by assumption))) <;> (first | (simp; done) | (simp; omega) | omega)) x0 x1 x2 x3 x4 c0) (fun hHeldN => ?_)
              clear hHeld hK K
              have hHeld := hHeldN
              clear hHeldN
              refine ty 3 20 hHeld ?_
              refine ty 4 21 hHeld ?_
              refine ty 5 22 hHeld ?_
              refine ty 6 23 hHeld ?_
              refine ty 7 24 hHeld ?_
              refine ty 8 25 hHeld ?_
              refine ty 9 26 hHeld ?_
              refine ty 10 27 hHeld ?_
              refine ty 11 28 hHeld ?_
              refine ty 12 29 hHeld ?_
              refine ty 13 30 hHeld ?_
              refine ty 14 31 hHeld ?_
              refine ty 15 32 hHeld ?_
              refine ty 16 33 hHeld ?_
              refine ty 17 34 hHeld ?_
              refine ty 18 35 hHeld ?_
              refine wpAnyH_done (by kernel_rfl) ?_ _
              go_wp2
              go_roundw
              case rel =>
                exact ⟨k + 1, by go_num, by omega, (fun j h hj => by
                  by_cases e : j = k
                  · subst e; exact HKX.out
                  · exact HK.out j h (by omega)), (fun j h hj => by
                  by_cases e : j + 1 = k
                  · exact HLT.out j h e
                  · exact HU.out j h (by omega)), HGW.out.trans (by (with_reducible repeat' (first | exact Gr.refl _ | refine Gr.set ?_ _ ?_ _ | refine Gr.alloc ?_ | refine Gr.drew ?_ | refine Gr.trans ?_ (by assumption))) <;> (first | (simp; done) | (simp; omega) | omega))⟩
              case measure => simp [intOf]; omega
      · have hge : ¬ ((k : Int) < (M.length : Int)) := by omega
        obtain rfl : k = M.length := by omega
        have HF : Hid (Led.mksB A M = true) := by
          refine (Led.mks_iff A M).2 ⟨by omega, ?_, (Led.up_iff _).2 ?_⟩
          · intro x hx
            obtain ⟨j, hj, rfl⟩ := List.getElem_of_mem hx
            exact HK.out j hj hj
          · intro j hj
            rw [Led.ky_len] at hj
            rw [Led.ky_get M j (by omega), Led.ky_get M (j + 1) hj]
            exact HU.out j hj hj
        go_wp2
        go_ret
        exact ⟨by rw [HF.out]; rfl, HG.out⟩
end Go.Proofs.Ytgidkmipecfjhaa
namespace Go.Proofs.Ytgidkmipecfjhaa
open Go.RowKit
theorem run_forIn_all {P : Program} {w : World} (r : Nat → Bool) (f : Nat → Sem Bool) : ∀ (l : List Nat), (∀ i ∈ l, (f i).run P w = .ok (r i) w) →
    ((forIn l ((none, ()) : Option Bool × Unit) (fun i _ => do let b ← f i; if (!b) = true then pure (ForInStep.done (some false, ())) else pure (ForInStep.yield (none, ()))) : Sem (Option Bool × Unit)).run P w) = .ok (if l.all r = true then (none, ()) else (some false, ())) w
  | [], _ => by simp
  | i :: l, h => by
    rw [List.forIn_cons]
    simp only [Sem.run_bind, h i (by simp), Result.andThen_ok]
    cases hr : r i with
    | false => simp [hr]
    | true =>
      have := run_forIn_all r f l (fun j hj => h j (by simp [hj]))
      simp only [Bool.not_true, Bool.false_eq_true, if_false, Sem.run_pure, Result.andThen_ok, this, List.all_cons, hr, Bool.true_and]
theorem run_equalIn_arr {P : Program} {w : World} (d : Nat) (t e : TypeId) (len n : Nat) (xs ys : Array Value) (ht : P.underlying t = some (.array len e)) (hn : (sizeOf e).run P w = .ok n w) (r : Nat → Bool)
    (h : ∀ i, i < len → ((do let a ← part e xs (i * n); let b ← part e ys (i * n); Op.equalIn d e a b) : Sem Bool).run P w = .ok (r i) w) :
    (Op.equalIn (d + 1) t (.agg xs) (.agg ys)).run P w = .ok ((List.range len).all r) w := by
  simp only [Op.equalIn, Sem.run_bind, run_underlying ht, Result.andThen_ok, hn]
  rw [Std.Legacy.Range.forIn_eq_forIn_range']
  have hl : List.range' 0 len = List.range len := List.range_eq_range'.symm
  have := run_forIn_all (P := P) (w := w) r (fun i => do let a ← part e xs (i * n); let b ← part e ys (i * n); Op.equalIn d e a b) (List.range len) (fun i hi => h i (List.mem_range.1 hi))
  simp only [bind_assoc] at this
  simp only [Std.Legacy.Range.size, Nat.sub_zero, Nat.add_sub_cancel, Nat.div_one, hl, this, Result.andThen_ok]
  cases (List.range len).all r <;> simp
def arrL (f : Nat → Int) : List Value := (List.range 48).map fun j => .int .i64 (f j)
theorem arrL_len (f : Nat → Int) : (arrL f).length = 48 := by simp [arrL]
theorem arrL_get (f : Nat → Int) (j : Nat) (h : j < 48) : (arrL f)[j]? = some (.int .i64 (f j)) := by
  simp [arrL, h]
theorem arrL_one (f : Nat → Int) : ∀ v ∈ arrL f, v.oneCell' = true := by
  intro v hv
  simp only [arrL, List.mem_map] at hv
  obtain ⟨j, _, rfl⟩ := hv
  rfl
theorem arr_size : (Try.prog.info? 82).map (·.size) = some 48 := by kernel_rfl
theorem ext4 (f : Nat → Int) (i : Nat) (hi : i < 12) : (arrL f).toArray.extract (i * 4) (i * 4 + 4) = #[.int .i64 (f (i * 4)), .int .i64 (f (i * 4 + 1)), .int .i64 (f (i * 4 + 2)), .int .i64 (f (i * 4 + 3))] := by
  apply Array.ext_getElem?
  intro j
  rw [Array.getElem?_extract]
  have hs : (arrL f).toArray.size = 48 := by simp [arrL]
  by_cases hj : j < 4
  · rw [if_pos (by rw [hs]; omega), List.getElem?_toArray, arrL_get f (i * 4 + j) (by omega)]
    match j, hj with
    | 0, _ => rfl
    | 1, _ => rfl
    | 2, _ => rfl
    | 3, _ => rfl
  · rw [if_neg (by rw [hs]; omega)]
    simp
    omega
theorem pen_eq (w : World) (d : Nat) (a b c e a' b' c' e' : Int) : (Op.equalIn (d + 1 + 1) 81 (.agg #[.int .i64 a, .int .i64 b, .int .i64 c, .int .i64 e]) (.agg #[.int .i64 a', .int .i64 b', .int .i64 c', .int .i64 e'])).run Try.prog w = .ok ((a == a') && ((b == b') && ((c == c') && ((e == e') && true)))) w := by
  have := run_equalIn_arr (P := Try.prog) (w := w) (d + 1) 81 2 4 1 #[.int .i64 a, .int .i64 b, .int .i64 c, .int .i64 e] #[.int .i64 a', .int .i64 b', .int .i64 c', .int .i64 e'] (by kernel_rfl) (by kernel_rfl)
    (fun i => match i with | 0 => a == a' | 1 => b == b' | 2 => c == c' | _ => e == e') (by
      intro i hi
      have hp : ∀ (xs : Array Value) (o : Nat) (v : Value), xs[o]? = some v → (part 2 xs o).run Try.prog w = .ok v w := by
        intro xs o v h
        have ha : (isAgg 2).run Try.prog w = .ok false w := by kernel_rfl
        simp [part, Sem.run_bind, ha, h]
      simp only [Sem.run_bind]
      match i, hi with
      | 0, _ => rw [hp _ _ (.int .i64 a) rfl]; simp only [Result.andThen_ok]; rw [hp _ _ (.int .i64 a') rfl]; simp only [Result.andThen_ok]; exact run_equalIn_int w d 2 .i64 .i64 a a' Try.underlying2
      | 1, _ => rw [hp _ _ (.int .i64 b) rfl]; simp only [Result.andThen_ok]; rw [hp _ _ (.int .i64 b') rfl]; simp only [Result.andThen_ok]; exact run_equalIn_int w d 2 .i64 .i64 b b' Try.underlying2
      | 2, _ => rw [hp _ _ (.int .i64 c) rfl]; simp only [Result.andThen_ok]; rw [hp _ _ (.int .i64 c') rfl]; simp only [Result.andThen_ok]; exact run_equalIn_int w d 2 .i64 .i64 c c' Try.underlying2
      | 3, _ => rw [hp _ _ (.int .i64 e) rfl]; simp only [Result.andThen_ok]; rw [hp _ _ (.int .i64 e') rfl]; simp only [Result.andThen_ok]; exact run_equalIn_int w d 2 .i64 .i64 e e' Try.underlying2)
  rw [this]
  rfl
def same4 (f g : Nat → Int) (i : Nat) : Bool := (f (i * 4) == g (i * 4)) && ((f (i * 4 + 1) == g (i * 4 + 1)) && ((f (i * 4 + 2) == g (i * 4 + 2)) && ((f (i * 4 + 3) == g (i * 4 + 3)) && true)))
theorem arr_eqIn (w : World) (d : Nat) (f g : Nat → Int) : (Op.equalIn (d + 1 + 1 + 1) 82 (.agg (arrL f).toArray) (.agg (arrL g).toArray)).run Try.prog w = .ok ((List.range 12).all (same4 f g)) w := by
  refine run_equalIn_arr (P := Try.prog) (w := w) (d + 1 + 1) 82 81 12 4 _ _ (by kernel_rfl) (by kernel_rfl) (same4 f g) ?_
  intro i hi
  have hp : ∀ (xs : Array Value) (o : Nat), (part 81 xs o).run Try.prog w = .ok (.agg (xs.extract o (o + 4))) w := by
    intro xs o
    have ha : (isAgg 81).run Try.prog w = .ok true w := by kernel_rfl
    simp [part, Sem.run_bind, ha]
  simp only [Sem.run_bind, hp, Result.andThen_ok, ext4 _ i hi]
  exact pen_eq w d _ _ _ _ _ _ _ _
theorem same_all (f g : Nat → Int) : (List.range 12).all (same4 f g) = true ↔ ∀ i, i < 12 → f (i * 4) = g (i * 4) ∧ f (i * 4 + 1) = g (i * 4 + 1) ∧ f (i * 4 + 2) = g (i * 4 + 2) ∧ f (i * 4 + 3) = g (i * 4 + 3) := by
  rw [List.all_eq_true]
  constructor
  · intro h i hi
    have := h i (List.mem_range.2 hi)
    simp only [same4, Bool.and_eq_true, beq_iff_eq] at this
    exact ⟨this.1, this.2.1, this.2.2.1, this.2.2.2.1⟩
  · intro h i hi
    obtain ⟨h1, h2, h3, h4⟩ := h i (List.mem_range.1 hi)
    simp only [same4, Bool.and_eq_true, beq_iff_eq]
    exact ⟨h1, h2, h3, h4, trivial⟩
structure ArrAt (w : World) (g : Nat) (f : Nat → Int) : Prop where
  c : ∀ j, j < 48 → w.cell? ⟨g, j, none⟩ = some (.int .i64 (f j))
  fz : ∀ j, j < 48 → w.frozen? ⟨g, j, none⟩ = false
  lt : g < w.heap.size
theorem ArrAt.gr {w w' : World} {g : Nat} {f : Nat → Int} (h : ArrAt w g f) (k : Gr w w') : ArrAt w' g f := ⟨fun j hj => k.keep (h.c j hj), fun j hj => k.keepF h.lt (h.fz j hj), Nat.lt_of_lt_of_le h.lt k.size⟩
def upd (f : Nat → Int) (i : Nat) (v : Int) : Nat → Int := fun j => if j = i then v else f j
theorem ArrAt.set {w : World} {g : Nat} {f : Nat → Int} (h : ArrAt w g f) (i : Nat) (hi : i < 48) (v : Int) : ArrAt (w.setCell ⟨g, i, none⟩ (.int .i64 v)) g (upd f i v) := by
  refine ⟨fun j hj => ?_, fun j hj => by rw [World.frozen?_setCell]; exact h.fz j hj, by simpa using h.lt⟩
  by_cases e : j = i
  · subst e
    rw [World.cell?_setCell_same _ _ _ (h.c j hj)]
    unfold upd; rw [if_pos rfl]
  · rw [World.cell?_setCell_other _ _ _ _ (fun h => e (by cases h; rfl))]
    unfold upd; rw [if_neg e]; exact h.c j hj
theorem ArrAt.far {w : World} {g : Nat} {f : Nat → Int} (h : ArrAt w g f) (p : Addr) (v : Value) (hp : p.block ≠ g) : ArrAt (w.setCell p v) g f :=
  ⟨fun j hj => by rw [World.cell?_setCell_far _ _ _ _ (by simpa using hp)]; exact h.c j hj, fun j hj => by rw [World.frozen?_setCell]; exact h.fz j hj, by simpa using h.lt⟩
theorem ArrAt.range {w : World} {g : Nat} {f : Nat → Int} (h : ArrAt w g f) : w.rangeAt g 0 (arrL f) := by
  intro j v hv
  have hj : j < 48 := by
    have := (List.getElem?_eq_some_iff.1 hv).1
    rw [arrL_len] at this; exact this
  rw [arrL_get f j hj] at hv
  cases hv
  rw [Nat.zero_add]; exact h.c j hj
theorem ArrAt.there {w : World} {g : Nat} {f : Nat → Int} (h : ArrAt w g f) : w.there g 0 48 := by
  intro j hj
  rw [Nat.zero_add]
  exact ⟨by rw [h.c j hj]; rfl, h.fz j hj⟩
theorem ArrAt.congr {w : World} {g : Nat} {f f' : Nat → Int} (h : ArrAt w g f) (e : ∀ j, j < 48 → f j = f' j) : ArrAt w g f' := ⟨fun j hj => by rw [← e j hj]; exact h.c j hj, h.fz, h.lt⟩
theorem ArrAt.new (w : World) (cs : Array Value) (t : TypeId) (f : Nat → Int) (g : Nat) (hg : g = w.heap.size) (hcs : cs = (arrL f).toArray) : ArrAt (w.alloc (.cells cs t)) g f := by
  subst hg hcs
  refine ⟨fun j hj => ?_, fun j hj => by simp [go_sem], by simp⟩
  rw [World.cell?_alloc_at (w := w) _ _ w.heap.size j rfl, List.getElem?_toArray, arrL_get f j hj]
theorem Gr.setCells {a b : World} (h : Gr a b) (g : Nat) (hg : a.heap.size ≤ g) : ∀ (vs : List Value) (o : Nat), Gr a (b.setCells g o vs)
  | [], _ => h
  | v :: vs, o => by
    rw [World.setCells]
    exact Gr.setCells (h.set ⟨g, o, none⟩ hg v) g hg vs (o + 1)
theorem ArrAt.stored {w : World} {g : Nat} {f : Nat → Int} (h : ArrAt w g f) (f' : Nat → Int) : (w.setCells g 0 (arrL f')).rangeAt g 0 (arrL f') := World.rangeAt_setCells_same w g 0 (arrL f') (by rw [arrL_len]; exact h.there)
theorem results_arr {fn : Func} {p : Tmp} (h : fn.results = #[.cell p 82]) (tmps : Array Value) (w : World) (g : Nat) (f : Nat → Int) (hp : tmps.getD p undef = .pointer (some ⟨g, 0, none⟩)) (hr : w.rangeAt g 0 (arrL f)) :
    (results fn tmps).run Try.prog w = .ok (.agg (arrL f).toArray) w := by
  have hp' : tmps[p]?.getD undef = .pointer (some ⟨g, 0, none⟩) := by simpa using hp
  have hl := run_loadVar_mid (P := Try.prog) w g 0 82 (arrL f) _ hr Try.underlying82 rfl (by rw [arrL_len]; exact arr_size)
  simp [results, h, hp', asAddr, hl]
theorem arrL_congr {f g : Nat → Int} (h : ∀ j, j < 48 → f j = g j) : arrL f = arrL g := by
  unfold arrL
  apply List.map_congr_left
  intro j hj
  rw [h j (List.mem_range.1 hj)]
end Go.Proofs.Ytgidkmipecfjhaa
namespace Go.Proofs.Ytgidkmipecfjhaa
open Go.RowKit
open Led (Acc Mk)
def row4 (x : Acc) (i : Nat) : Int := match i with | 0 => x.b | 1 => x.c | 2 => x.y | _ => x.z
def wrF (A : List Acc) (j : Nat) : Int := match A[j / 4]? with | some x => row4 x (j % 4) | none => 0
def wrK (A : List Acc) (k : Nat) (j : Nat) : Int := if j < k * 4 then wrF A j else 0
theorem wr_round (A : List Acc) (k : Nat) (hk : k < A.length) (j : Nat) : upd (upd (upd (upd (wrK A k) (k * 4) A[k].b) (k * 4 + 1) A[k].c) (k * 4 + 2) A[k].y) (k * 4 + 3) A[k].z j = wrK A (k + 1) j := by
  have hx : A[k]? = some A[k] := List.getElem?_eq_getElem hk
  unfold upd wrK
  by_cases h0 : j = k * 4 + 3
  · subst h0
    rw [if_pos rfl, if_pos (by omega)]
    unfold wrF
    rw [show (k * 4 + 3) / 4 = k by omega, hx, show (k * 4 + 3) % 4 = 3 by omega]; rfl
  rw [if_neg h0]
  by_cases h1 : j = k * 4 + 2
  · subst h1
    rw [if_pos rfl, if_pos (by omega)]
    unfold wrF
    rw [show (k * 4 + 2) / 4 = k by omega, hx, show (k * 4 + 2) % 4 = 2 by omega]; rfl
  rw [if_neg h1]
  by_cases h2 : j = k * 4 + 1
  · subst h2
    rw [if_pos rfl, if_pos (by omega)]
    unfold wrF
    rw [show (k * 4 + 1) / 4 = k by omega, hx, show (k * 4 + 1) % 4 = 1 by omega]; rfl
  rw [if_neg h2]
  by_cases h3 : j = k * 4
  · subst h3
    rw [if_pos rfl, if_pos (by omega)]
    unfold wrF
    rw [show (k * 4) / 4 = k by omega, hx, show (k * 4) % 4 = 0 by omega]; rfl
  rw [if_neg h3]
  by_cases h4 : j < k * 4
  · rw [if_pos h4, if_pos (by omega)]
  · rw [if_neg h4, if_neg (by omega)]
theorem wr_end (A : List Acc) (j : Nat) : wrK A A.length j = wrF A j := by
  unfold wrK
  by_cases h : j < A.length * 4
  · rw [if_pos h]
  · rw [if_neg h]
    unfold wrF
    rw [List.getElem?_eq_none (by omega)]
set_option maxHeartbeats 4000000 in
set_option maxRecDepth 100000 in
theorem written_any (A : List Acc) (ad : Option Addr) (cap : Nat) (w : World) (hA : AccsAt w ad A) (hn : A.length ≤ 12) :
    Calls Try.prog 41 #[.slice ad A.length cap] w fun e w' => e = .returned (.agg (arrL (wrF A)).toArray) ∧ Gr w w' := by
  have HL : Hid (AccsAt w ad A) := hA
  have hu := Try.underlying82
  clear hA
  go_enter Try.func41, Try.ntmps41
  go_wp2_with fail
  have R0 : ArrAt ((w.alloc (.cells (arrL (fun _ => 0)).toArray 82)).alloc (.cells (arrL (fun _ => 0)).toArray 82)) w.heap.size (fun _ => 0) := (ArrAt.new w _ _ _ _ rfl rfl).gr (Gr.refl _).alloc
  have R1 : ArrAt ((w.alloc (.cells (arrL (fun _ => 0)).toArray 82)).alloc (.cells (arrL (fun _ => 0)).toArray 82)) (w.heap.size + 1) (fun _ => 0) := ArrAt.new _ _ _ _ _ (by simp) rfl
  go_loopw [8] (fun s8 wr => ∃ k : Nat, s8 = .int .i64 k ∧ k ≤ A.length ∧ ArrAt wr w.heap.size (fun _ => 0) ∧ ArrAt wr (w.heap.size + 1) (wrK A k) ∧ Gr w wr) (fun s8 _ => A.length - (intOf s8).toNat)
  case atStart => exact ⟨0, rfl, Nat.zero_le _, R0, R1.congr (fun j _ => by unfold wrK; rw [if_neg (by omega)]), (Gr.refl _).alloc.alloc⟩
  case round =>
    clear R0 R1
    obtain ⟨k, rfl, hk, h0, h1, hg⟩ := hrel
    have H0 : Hid (ArrAt wr w.heap.size (fun _ => 0)) := h0
    have H1 : Hid (ArrAt wr (w.heap.size + 1) (wrK A k)) := h1
    have HG : Hid (Gr w wr) := hg
    clear h0 h1 hg
    by_cases hlt : k < A.length
    · obtain ⟨b, off, rfl, hb, d0, d1, d2, d3, d4, d5, d6⟩ := (AccsAt.at HL.out k hlt)
      have d0 := HG.out.keep d0
      have d1 := HG.out.keep d1
      have d2 := HG.out.keep d2
      have d3 := HG.out.keep d3
      have d4 := HG.out.keep d4
      have d5 := HG.out.keep d5
      have d6 := HG.out.keep d6
      have hbw : b < wr.heap.size := Nat.lt_of_lt_of_le hb HG.out.size
      have hki : (k : Int) < (A.length : Int) := by omega
      have hk12 : (k : Int) < 12 := by omega
      have HW : Hid (∀ j, upd (upd (upd (upd (wrK A k) (k * 4) A[k].b) (k * 4 + 1) A[k].c) (k * 4 + 2) A[k].y) (k * 4 + 3) A[k].z j = wrK A (k + 1) j) := fun j => wr_round A k hlt j
      generalize A[k] = x at *
      have p0 := H1.out.c (k * 4) (by omega)
      have p1 := H1.out.c (k * 4 + 1) (by omega)
      have p2 := H1.out.c (k * 4 + 2) (by omega)
      have p3 := H1.out.c (k * 4 + 3) (by omega)
      have q0 := H1.out.fz (k * 4) (by omega)
      have q1 := H1.out.fz (k * 4 + 1) (by omega)
      have q2 := H1.out.fz (k * 4 + 2) (by omega)
      have q3 := H1.out.fz (k * 4 + 3) (by omega)
      have pl := H1.out.lt
      go_wp2
      go_roundw
      case rel =>
        refine ⟨k + 1, by go_num, by omega, ?_, ?_, ?_⟩
        · exact ((((H0.out.far _ _ (by simp)).far _ _ (by simp)).far _ _ (by simp)).far _ _ (by simp)).gr (Gr.refl _).alloc
        · exact (((((H1.out.set (k * 4) (by omega) x.b).set (k * 4 + 1) (by omega) x.c).set (k * 4 + 2) (by omega) x.y).set (k * 4 + 3) (by omega) x.z).gr (Gr.refl _).alloc).congr (fun j _ => HW.out j)
        · exact ((((HG.out.set _ (by simp) _).set _ (by simp) _).set _ (by simp) _).set _ (by simp) _).alloc
      case measure => simp [intOf]; omega
    · have hge : ¬ ((k : Int) < (A.length : Int)) := by omega
      obtain rfl : k = A.length := by omega
      go_wp2_with (first
        | (refine wpList_load_mid rfl 82 _ rfl (w.heap.size + 1) 0 rfl (arrL (wrK A A.length)) _ H1.out.range hu rfl (by rw [arrL_len]; exact arr_size) ?_)
        | (refine wpList_store_mid rfl 82 _ _ rfl w.heap.size 0 (arrL (wrK A A.length)).toArray rfl rfl (by simpa [arrL_len] using H0.out.there) (by rw [List.size_toArray, arrL_len]; exact arr_size) (all_oneCell_toArray (arrL_one _)) ?_)
        | fail)
      exact bodyPost_ret (v := .agg (arrL (wrK A A.length)).toArray) (results_arr Try.results41 _ _ _ _ rfl (H0.out.stored _)) rfl ⟨by rw [arrL_congr (fun j _ => wr_end A j)], HG.out.setCells _ (Nat.le_refl _) _ _⟩
end Go.Proofs.Ytgidkmipecfjhaa
namespace Go.Proofs.Ytgidkmipecfjhaa
open Go.RowKit
theorem wrap_in {n : Int} (h0 : -9223372036854775808 ≤ n) (h1 : n ≤ 9223372036854775807) : wrap64 n = n := by unfold wrap64; omega
theorem Gr.drewN {a b : World} (h : Gr a b) (n : Nat) : Gr a (b.drewN n) := by
  induction n with
  | zero => exact h
  | succ n ih => exact ih.drew
set_option maxHeartbeats 400000 in
theorem clone_any (s : ByteArray) (w : World) (hs : s.size ≤ 140737488355328) : Calls Try.prog 31 #[.string s] w fun e w' => e = .returned (.string s) ∧ Gr w w' := by
  have HC : Hid (∀ w : World, Calls Try.prog 67 #[.string s] w fun e w' => e = .returned (.string s) ∧ Below w.heap.size w w') := fun w => Try.stringslite_Clone s w (by omega)
  go_enter Try.func31, Try.ntmps31
  go_wp2_with fail
  refine (HC.out _).mono ?_
  rintro e w1 ⟨rfl, hb⟩
  go_wp2
  go_ret
  exact ⟨rfl, ⟨hb⟩⟩
set_option maxHeartbeats 1000000 in
theorem ways_any (k : Int) (w : World) : Calls Try.prog 63 #[.int .i64 k] w fun e w' => e = .returned (.agg #[.int .i64 (Act.wF k), .int .i64 (Act.wK k)]) ∧ Gr w w' := by
  by_cases h3 : k = 3
  · subst h3
    go_enter Try.func63, Try.ntmps63
    go_wp2
    exact bodyPost_ret (v := .agg #[.int .i64 (-1), .int .i64 1]) (by simp [results, Try.results63, go_sem]) rfl ⟨rfl, (by (with_reducible repeat' (first | exact Gr.refl _ | refine Gr.set ?_ _ ?_ _ | refine Gr.alloc ?_ | refine Gr.drew ?_ | refine Gr.trans ?_ (by assumption))) <;> (first | (simp; done) | (simp; omega) | omega))⟩
  by_cases h1 : k = 1
  · subst h1
    go_enter Try.func63, Try.ntmps63
    go_wp2
    exact bodyPost_ret (v := .agg #[.int .i64 (-1), .int .i64 0]) (by simp [results, Try.results63, go_sem]) rfl ⟨rfl, (by (with_reducible repeat' (first | exact Gr.refl _ | refine Gr.set ?_ _ ?_ _ | refine Gr.alloc ?_ | refine Gr.drew ?_ | refine Gr.trans ?_ (by assumption))) <;> (first | (simp; done) | (simp; omega) | omega))⟩
  by_cases h4 : k = 4
  · subst h4
    go_enter Try.func63, Try.ntmps63
    go_wp2
    exact bodyPost_ret (v := .agg #[.int .i64 1, .int .i64 (-1)]) (by simp [results, Try.results63, go_sem]) rfl ⟨rfl, (by (with_reducible repeat' (first | exact Gr.refl _ | refine Gr.set ?_ _ ?_ _ | refine Gr.alloc ?_ | refine Gr.drew ?_ | refine Gr.trans ?_ (by assumption))) <;> (first | (simp; done) | (simp; omega) | omega))⟩
  by_cases h2 : k = 2
  · subst h2
    go_enter Try.func63, Try.ntmps63
    go_wp2
    exact bodyPost_ret (v := .agg #[.int .i64 1, .int .i64 0]) (by simp [results, Try.results63, go_sem]) rfl ⟨rfl, (by (with_reducible repeat' (first | exact Gr.refl _ | refine Gr.set ?_ _ ?_ _ | refine Gr.alloc ?_ | refine Gr.drew ?_ | refine Gr.trans ?_ (by assumption))) <;> (first | (simp; done) | (simp; omega) | omega))⟩
  have e1 : (k == 1) = false := by simpa using h1
  have e2 : (k == 2) = false := by simpa using h2
  have e3 : (k == 3) = false := by simpa using h3
  have e4 : (k == 4) = false := by simpa using h4
  have EF : Hid (Act.wF k = 0) := by show _ = _; unfold Act.wF; rw [if_neg (by omega), if_neg (by omega)]
  have EK : Hid (Act.wK k = 0) := by show _ = _; unfold Act.wK; rw [if_neg (by omega), if_neg (by omega)]
  clear h1 h2 h3 h4
  go_enter Try.func63, Try.ntmps63
  go_wp2
  exact bodyPost_ret (v := .agg #[.int .i64 0, .int .i64 0]) (by simp [results, Try.results63, go_sem]) rfl ⟨by rw [EF.out, EK.out], (by (with_reducible repeat' (first | exact Gr.refl _ | refine Gr.set ?_ _ ?_ _ | refine Gr.alloc ?_ | refine Gr.drew ?_ | refine Gr.trans ?_ (by assumption))) <;> (first | (simp; done) | (simp; omega) | omega))⟩
set_option maxHeartbeats 1000000 in
theorem delta_any (k n : Int) (s : ByteArray) (w : World) (hs : s.size ≤ 9223372036854775807) :
    Calls Try.prog 29 #[.agg #[.int .i64 k, .string s, .int .i64 n]] w fun e w' => e = .returned (.tuple #[.int .i64 (Act.dF k s n), .int .i64 (Act.dK k s n)]) ∧ Gr w w' := by
  have HC : Hid (∀ w', Calls Try.prog 56 #[.agg #[.int .i64 k, .string s, .int .i64 n]] w' fun e w2 => e = .returned (.int .i64 (Act.chkE k s n)) ∧ Gr w' w2) := fun w' => actCheck_any k n s w' hs
  have HW : Hid (∀ w', Calls Try.prog 63 #[.int .i64 k] w' fun e w2 => e = .returned (.agg #[.int .i64 (Act.wF k), .int .i64 (Act.wK k)]) ∧ Gr w' w2) := fun w' => ways_any k w'
  unfold Act.dF Act.dK
  cases hb : Act.actB k s n with
  | false =>
    rw [Act.chk_no hb] at HC
    clear hb hs
    go_enter Try.func29, Try.ntmps29
    go_wp2_with fail
    refine (HC.out _).mono ?_
    rintro e w1 ⟨rfl, hg1⟩
    go_wp2
    go_ret2
    exact ⟨rfl, (by repeat (first | exact Gr.refl _ | refine Gr.alloc ?_ | refine Gr.drew ?_ | refine Gr.trans ?_ (by assumption)))⟩
  | true =>
    rw [Act.chk_yes hb] at HC
    have hr := (Act.act_iff k s n).1 hb
    obtain ⟨p1, p2⟩ : (-9223372036854775808 ≤ Act.wF k * n ∧ Act.wF k * n ≤ 9223372036854775807) ∧ (-9223372036854775808 ≤ Act.wK k * n ∧ Act.wK k * n ≤ 9223372036854775807) := Act.way_rng k n hr.2.2.1 hr.2.2.2
    have q1 : wrap64 (Act.wF k * n) = Act.wF k * n := wrap_in p1.1 p1.2
    have q2 : wrap64 (Act.wK k * n) = Act.wK k * n := wrap_in p2.1 p2.2
    clear hb hs hr p1 p2
    rw [if_pos rfl, if_pos rfl]
    obtain ⟨u, hu⟩ : ∃ u, u = Act.wF k * n := ⟨_, rfl⟩
    obtain ⟨v, hv⟩ : ∃ u, u = Act.wK k * n := ⟨_, rfl⟩
    have hq1 : wrap64 (Act.wF k * n) = u := q1.trans hu.symm
    have hq2 : wrap64 (Act.wK k * n) = v := q2.trans hv.symm
    rw [← hu, ← hv]
    clear q1 q2 hu hv
    generalize Act.wF k = f at *
    generalize Act.wK k = g at *
    go_enter Try.func29, Try.ntmps29
    go_wp2_with fail
    refine (HC.out _).mono ?_
    rintro e w1 ⟨rfl, hg1⟩
    have B := (BoxAt.new w _ _ _ _ w.heap.size rfl).gr hg1
    obtain ⟨b0, b1, b2, _, _, _, b6⟩ := B
    go_wp2_with fail
    refine (HW.out _).mono ?_
    rintro e w2 ⟨rfl, hg2⟩
    have c2 := hg2.keep b2
    have hlt : w.heap.size < w2.heap.size := Nat.lt_of_lt_of_le b6 hg2.size
    go_wp2_with fail
    go_quiet (fail)
    go_wp2
    go_ret2
    refine ⟨?_, Gr.drewN (by repeat (first | exact Gr.refl _ | refine Gr.alloc ?_ | refine Gr.drew ?_ | refine Gr.trans ?_ (by assumption))) _⟩
    show Ending.returned (.tuple #[.int .i64 (wrap64 (f * n)), .int .i64 (wrap64 (g * n))]) = _
    rw [hq1, hq2]
theorem eqB (t s : ByteArray) : (t.toList == s.toList) = decide (t = s) := by
  rw [show t.toList = t.data.toList from ByteArray.toList_eq t, show s.toList = s.data.toList from ByteArray.toList_eq s]
  by_cases h : t = s
  · rw [decide_eq_true h]; exact beq_iff_eq.2 (by rw [h])
  · rw [decide_eq_false h]
    refine beq_eq_false_iff_ne.2 fun e => h ?_
    have : t.data = s.data := by simpa using e
    cases t; cases s; simp_all
set_option maxHeartbeats 1000000 in
theorem actFits_any (s : ByteArray) (a b c x y z : Int) (k n : Int) (t : ByteArray) (w : World) (hs : s.size ≤ 9223372036854775807) (ht : t.size ≤ 9223372036854775807) (hF1 : a ≤ 9223372036854775807) (hF2 : c ≤ 9223372036854775807) (hK1 : x ≤ 9223372036854775807) (hK2 : z ≤ 9223372036854775807) :
    Calls Try.prog 101 #[.agg #[.string s, .int .i64 a, .int .i64 b, .int .i64 c, .int .i64 x, .int .i64 y, .int .i64 z], .agg #[.int .i64 k, .string t, .int .i64 n]] w fun e w' => e = .returned (.int .i64 (Act.fitE s a b c x y z k t n)) ∧ Gr w w' := by
  have HM : Hid (∀ w', Calls Try.prog 70 #[.agg #[.string s, .int .i64 a, .int .i64 b, .int .i64 c, .int .i64 x, .int .i64 y, .int .i64 z]] w' fun e w2 => e = .returned (.int .i64 (Act.mayE s a b c x y z)) ∧ Gr w' w2) := fun w' => may_any s a b c x y z w' hs hF1 hF2 hK1 hK2
  have HC : Hid (∀ w', Calls Try.prog 56 #[.agg #[.int .i64 k, .string t, .int .i64 n]] w' fun e w2 => e = .returned (.int .i64 (Act.chkE k t n)) ∧ Gr w' w2) := fun w' => actCheck_any k n t w' ht
  have hq := eqB t s
  unfold Act.fitE
  unfold Act.mayE at HM
  unfold Act.chkE at HC
  clear hF1 hF2 hK1 hK2
  generalize Act.accB s a b c x y z = p at *
  generalize Act.actB k t n = q at *
  generalize decide (t = s) = r at *
  cases p with
  | false =>
    clear hq
    go_enter Try.func101, Try.ntmps101
    go_wp2_with fail
    refine (HM.out _).mono ?_
    rintro e w1 ⟨rfl, hg1⟩
    go_wp2
    go_ret
    exact ⟨rfl, (by repeat (first | exact Gr.refl _ | refine Gr.alloc ?_ | refine Gr.drew ?_ | refine Gr.trans ?_ (by assumption)))⟩
  | true =>
    cases q with
    | false =>
      clear hq
      go_enter Try.func101, Try.ntmps101
      go_wp2_with fail
      refine (HM.out _).mono ?_
      rintro e w1 ⟨rfl, hg1⟩
      obtain ⟨b0, b1, b2, _, _, _, b6⟩ := (BoxAt.new _ _ _ _ _ (w.heap.size + 1) (by simp)).gr hg1
      go_wp2_with fail
      refine (HC.out _).mono ?_
      rintro e w2 ⟨rfl, hg2⟩
      go_wp2
      go_ret
      exact ⟨rfl, (by repeat (first | exact Gr.refl _ | refine Gr.alloc ?_ | refine Gr.drew ?_ | refine Gr.trans ?_ (by assumption)))⟩
    | true =>
      cases r
      all_goals
        go_enter Try.func101, Try.ntmps101
        go_wp2_with fail
        refine (HM.out _).mono ?_
        rintro e w1 ⟨rfl, hg1⟩
        have X := ((AccAt.new w _ _ _ _ _ _ _ _ w.heap.size rfl).gr (Gr.refl _).alloc).gr hg1
        obtain ⟨b0, b1, b2, _, _, _, b6⟩ := (BoxAt.new _ _ _ _ _ (w.heap.size + 1) (by simp)).gr hg1
        go_wp2_with fail
        refine (HC.out _).mono ?_
        rintro e w2 ⟨rfl, hg2⟩
        have x0 := (X.gr hg2).c0
        have c1 := hg2.keep b1
        go_wp2
        go_ret
        exact ⟨rfl, (by repeat (first | exact Gr.refl _ | refine Gr.alloc ?_ | refine Gr.drew ?_ | refine Gr.trans ?_ (by assumption)))⟩
end Go.Proofs.Ytgidkmipecfjhaa
