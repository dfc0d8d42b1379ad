/- ledger: Net, whole. -/
import Derived.Test.YtiakajheoajepaaNetC
namespace Go.Proofs.Ytiakajheoajepaa
open Go.RowKit
open Led (Acc Mk)

theorem one_at (w : World) (v : Value) (t : TypeId) (g : Nat) (hg : g = w.heap.size) : (w.alloc (.cells #[v] t)).cell? ⟨g, 0, none⟩ = some v := by subst hg; simp
/- what Net answers -/
def netE (A : List Acc) (M : List Mk) (s : ByteArray) : Int := if Led.mayB A M = true then (if Led.hasB (Led.nm A) s = true then 0 else 70) else 2
def netF (A : List Acc) (M : List Mk) (s a : ByteArray) : Int := if netE A M s = 0 then Csh.sumE (fsL s a M) else 0
def netK (A : List Acc) (M : List Mk) (s a : ByteArray) : Int := if netE A M s = 0 then Csh.sumE (ksL s a M) else 0
theorem fs_sum {A : List Acc} {M : List Mk} (s a : ByteArray) (hm : Led.May A M) : (-500000000000000000 ≤ Csh.sumE (fsL s a M) ∧ Csh.sumE (fsL s a M) ≤ 500000000000000000) ∧ (-500000000000000000 ≤ Csh.sumE (ksL s a M) ∧ Csh.sumE (ksL s a M) ≤ 500000000000000000) := by
  have r := fs_rng s a hm.om
  have l := fs_len s a M
  have h5 := hm.lm
  have s1 := sum_within 1000000000000000 r.1
  have s2 := sum_within 1000000000000000 r.2
  omega

set_option maxHeartbeats 4000000 in
set_option maxRecDepth 100000 in
theorem net7_any (A : List Acc) (M : List Mk) (s a : ByteArray) (adA : Option Addr) (capA : Nat) (adM : Option Addr) (capM : Nat) (w : World) (h : LedAt w adA adM A M) :
    Calls Try.prog 12 #[.agg #[.slice adA A.length capA, .slice adM M.length capM], .string s, .string a] w fun e w' => e = .returned (.tuple #[.int .i64 (netF A M s a), .int .i64 (netK A M s a), .int .i64 (netE A M s)]) ∧ Gr w w' := by
  have HM : Hid (∀ w', Gr w w' → Calls Try.prog 14 #[.agg #[.slice adA A.length capA, .slice adM M.length capM]] w' fun e w2 => e = .returned (.int .i64 (mayL A M)) ∧ Gr w' w2) := fun w' g => (h.gr g).may capA capM
  have hmf : ∀ (fn : Fn) (first cap : Array Value) (w : World), (Instr.makeFunc fn first cap).run Try.prog w = .ok (.func fn first cap) w := fun _ _ _ _ => rfl
  cases hm : Led.mayB A M with
  | false =>
    rw [mayL_no hm] at HM
    have hE : netE A M s = 2 := by unfold netE; rw [hm]; rfl
    have hF : netF A M s a = 0 := by unfold netF; rw [hE]; rfl
    have hK : netK A M s a = 0 := by unfold netK; rw [hE]; rfl
    rw [hE, hF, hK]
    clear h hm hE hF hK
    go_enter Try.func12, Try.ntmps12
    go_wp2_with fail
    refine (HM.out _ ((Gr.refl _).alloc.alloc.alloc)).mono ?_
    rintro e w1 ⟨rfl, hg1⟩
    have g1 : Gr w w1 := (by repeat (first | exact Gr.refl _ | refine Gr.alloc ?_ | refine Gr.drew ?_ | refine Gr.trans ?_ (by assumption)))
    clear hg1
    go_wp2
    exact bodyPost_ret (v := .tuple #[.int .i64 0, .int .i64 0, .int .i64 2]) (by simp [results, Try.results12, go_sem, *]) rfl ⟨rfl, g1⟩
  | true =>
    rw [mayL_yes hm] at HM
    have hM := (Led.may_iff A M).1 hm
    have HF : Hid (∀ w', Gr w w' → Calls Try.prog 30 #[.slice adA A.length capA, .string s] w' fun e w2 => e = .returned (.tuple #[.int .i64 (Led.pos (Led.nm A) s : Nat), .bool (Led.hasB (Led.nm A) s)]) ∧ Gr w' w2) := fun w' g => findA_any A s adA capA w' (h.a.gr g) hM.ua (by have := hM.la; omega)
    cases hb : Led.hasB (Led.nm A) s with
    | false =>
      rw [hb] at HF
      have hE : netE A M s = 70 := by unfold netE; rw [hm, hb]; rfl
      have hF : netF A M s a = 0 := by unfold netF; rw [hE]; rfl
      have hK : netK A M s a = 0 := by unfold netK; rw [hE]; rfl
      rw [hE, hF, hK]
      generalize Led.pos (Led.nm A) s = p at *
      clear h hm hM hb hE hF hK
      go_enter Try.func12, Try.ntmps12
      go_wp2_with fail
      refine (HM.out _ ((Gr.refl _).alloc.alloc.alloc)).mono ?_
      rintro e w1 ⟨rfl, hg1⟩
      have g1 : Gr w w1 := (by repeat (first | exact Gr.refl _ | refine Gr.alloc ?_ | refine Gr.drew ?_ | refine Gr.trans ?_ (by assumption)))
      obtain ⟨b0, b1, _, _, bl⟩ := (((TwoAt.new w (.slice adA A.length capA) (.slice adM M.length capM) 25 _ rfl).gr (Gr.refl _).alloc).gr (Gr.refl _).alloc).gr hg1
      have n0 : w1.cell? ⟨w.heap.size + 1, 0, none⟩ = some (.string s) := hg1.keep ((Gr.refl _).alloc.keep (one_at (w.alloc _) (.string s) _ (w.heap.size + 1) (by simp)))
      have nl : w.heap.size + 1 < w1.heap.size := World.block_lt_of_cell? w1 _ n0
      clear hg1
      go_wp2_with fail
      refine (HF.out _ g1).mono ?_
      rintro e w2 ⟨rfl, hg2⟩
      have g2 : Gr w w2 := g1.trans hg2
      clear hg2 b0 b1 bl n0 nl
      go_wp2
      exact bodyPost_ret (v := .tuple #[.int .i64 0, .int .i64 0, .int .i64 70]) (by simp [results, Try.results12, go_sem, *]) rfl ⟨rfl, g2⟩
    | true =>
      rw [hb] at HF
      have hE : netE A M s = 0 := by unfold netE; rw [hm, hb]; rfl
      have hF : netF A M s a = Csh.sumE (fsL s a M) := by unfold netF; rw [hE]; rfl
      have hK : netK A M s a = Csh.sumE (ksL s a M) := by unfold netK; rw [hE]; rfl
      rw [hE, hF, hK]
      have hmk : Led.mksB A M = true := (Led.mks_iff A M).2 ⟨hM.lm, hM.om, hM.um⟩
      have HCH : Hid (∀ (N H F1 F2 base : Nat) (w0 w' : World), Gr w w0 → w0.cell? ⟨N, 0, none⟩ = some (.string s) → w0.cell? ⟨H, 0, none⟩ = some (.string a) → w0.heap.size ≤ F1 → w0.heap.size ≤ F2 → Gr w0 w' → NetM w' base F1 F2 (.slice none 0 0) (.slice none 0 0) (.slice none 0 0) (.slice none 0 0) [] [] →
          Calls Try.prog 33 #[.slice adM M.length capM, .func (.func 34) #[] #[.pointer (some ⟨N, 0, none⟩), .pointer (some ⟨H, 0, none⟩), .pointer (some ⟨F1, 0, none⟩), .pointer (some ⟨F2, 0, none⟩)]] w' fun e w2 => e = .returned (.tuple #[]) ∧ (∃ u1 u2, NetM w2 base F1 F2 u1 u2 u1 u2 (fsL s a M) (ksL s a M)) ∧ Gr w0 w2) :=
        fun N H F1 F2 base w0 w' g h1 h2 h3 h4 h5 h6 => changesN_any A M adM capM N H F1 F2 base s a w0 w' (h.m.gr g) hmk h1 h2 h3 h4 h5 h6
      have HTG : Hid (∀ (a1 a2 : Option Addr) (c1 c2 : Nat) (w' : World), IntsAt w' a1 (fsL s a M) → IntsAt w' a2 (ksL s a M) → Calls Try.prog 36 #[.slice a1 (fsL s a M).length c1, .slice a2 (ksL s a M).length c2] w' fun e w2 => e = .returned (.tuple #[.int .i64 (Csh.sumE (fsL s a M)), .int .i64 (Csh.sumE (ksL s a M)), .int .i64 0]) ∧ w2 = w') := fun a1 a2 c1 c2 w' h1 h2 => by
        have r := fs_rng s a hM.om
        have l := fs_len s a M
        have h5 := hM.lm
        have ss := fs_sum s a hM
        exact together_any _ _ a1 a2 c1 c2 w' h1 h2 (by omega) (by omega) (fun x hx => by have := r.1 x hx; omega) (fun x hx => by have := r.2 x hx; omega) (by omega) (by omega)
      generalize Led.pos (Led.nm A) s = p at *
      generalize Csh.sumE (fsL s a M) = r1 at *
      generalize Csh.sumE (ksL s a M) = r2 at *
      generalize fsL s a M = fs at *
      generalize ksL s a M = ks at *
      clear h hm hM hb hE hF hK hmk
      go_enter Try.func12, Try.ntmps12
      go_wp2_with fail
      refine (HM.out _ ((Gr.refl _).alloc.alloc.alloc)).mono ?_
      rintro e w1 ⟨rfl, hg1⟩
      have g1 : Gr w w1 := (by repeat (first | exact Gr.refl _ | refine Gr.alloc ?_ | refine Gr.drew ?_ | refine Gr.trans ?_ (by assumption)))
      have HB1 : Hid (TwoAt w1 w.heap.size (.slice adA A.length capA) (.slice adM M.length capM)) := (((TwoAt.new w _ _ 25 _ rfl).gr (Gr.refl _).alloc).gr (Gr.refl _).alloc).gr hg1
      obtain ⟨b0, b1, _, _, bl⟩ := HB1.out
      have n0 : w1.cell? ⟨w.heap.size + 1, 0, none⟩ = some (.string s) := hg1.keep ((Gr.refl _).alloc.keep (one_at (w.alloc _) (.string s) _ (w.heap.size + 1) (by simp)))
      have h0 : w1.cell? ⟨w.heap.size + 1 + 1, 0, none⟩ = some (.string a) := hg1.keep (one_at ((w.alloc _).alloc _) (.string a) _ (w.heap.size + 1 + 1) (by simp))
      have nl : w.heap.size + 1 < w1.heap.size := World.block_lt_of_cell? w1 _ n0
      clear hg1
      go_wp2_with fail
      refine (HF.out _ g1).mono ?_
      rintro e w2 ⟨rfl, hg2⟩
      have g2 : Gr w w2 := g1.trans hg2
      have HB2 : Hid (TwoAt w2 w.heap.size (.slice adA A.length capA) (.slice adM M.length capM)) := HB1.out.gr hg2
      have HN0 : Hid (w2.cell? ⟨w.heap.size + 1, 0, none⟩ = some (.string s)) := hg2.keep n0
      have HH0 : Hid (w2.cell? ⟨w.heap.size + 1 + 1, 0, none⟩ = some (.string a)) := hg2.keep h0
      clear hg2 b0 b1 bl n0 nl h0 HB1 g1
      obtain ⟨b0, b1, _, _, bl⟩ := HB2.out
      have HNM : Hid (NetM ((w2.alloc (.cells #[.slice none 0 0] 71)).alloc (.cells #[.slice none 0 0] 71)) (w2.heap.size + 1 + 1) w2.heap.size (w2.heap.size + 1) (.slice none 0 0) (.slice none 0 0) (.slice none 0 0) (.slice none 0 0) [] []) :=
        ⟨by simp, by simp, by simp, by simp, own_none _ _ _ _, own_none _ _ _ _, (fun g e => by cases e), by omega, by omega, by omega, by simp⟩
      go_wp2_with fail
      refine (HCH.out (w.heap.size + 1) (w.heap.size + 1 + 1) w2.heap.size (w2.heap.size + 1) (w2.heap.size + 1 + 1) w2 _ g2 HN0.out HH0.out (by omega) (by omega) (Gr.refl _).alloc.alloc HNM.out).mono ?_
      rintro e w3 ⟨rfl, ⟨u1, u2, hn3⟩, hg3⟩
      have g3 : Gr w w3 := g2.trans hg3
      obtain ⟨a1, c1, rfl, _, hi1⟩ := own_ints (l := fs) hn3.o1
      obtain ⟨a2, c2, rfl, _, hi2⟩ := own_ints (l := ks) hn3.o2
      have HT3 : Hid (Calls Try.prog 36 #[.slice a1 fs.length c1, .slice a2 ks.length c2] w3 fun e w2 => e = .returned (.tuple #[.int .i64 r1, .int .i64 r2, .int .i64 0]) ∧ w2 = w3) := HTG.out a1 a2 c1 c2 w3 hi1 hi2
      have k1 := hn3.c1
      have k2 := hn3.c2
      have kl := hn3.bs
      clear hn3 hg3 hi1 hi2 HNM HCH HTG b0 b1 bl HB2 g2
      go_wp2_with fail
      refine HT3.out.mono ?_
      rintro e w4 ⟨rfl, hw4⟩; obtain rfl := hw4.symm
      go_wp2
      exact bodyPost_ret (v := .tuple #[.int .i64 r1, .int .i64 r2, .int .i64 0]) (by simp [results, Try.results12, go_sem, *]) rfl ⟨rfl, g3⟩
end Go.Proofs.Ytiakajheoajepaa
