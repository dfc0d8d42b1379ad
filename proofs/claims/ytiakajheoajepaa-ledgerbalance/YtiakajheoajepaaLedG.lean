/- ledger: what is pending by what the marks say: one mark. -/
import Derived.Test.YtiakajheoajepaaArrA
import Derived.Test.YtiakajheoajepaaLedK
import Derived.Test.YtiakajheoajepaaActW
import Derived.BigRegion
namespace Go.Proofs.Ytiakajheoajepaa
open Go.RowKit
open Led (Acc Mk)

set_option maxHeartbeats 4000000 in
set_option maxRecDepth 100000 in
theorem moved1_done (A : List Acc) (m : Mk) (free kept : Int) (F P : Nat) (ad : Option Addr) (cap : Nat) (f : Nat → Int) (w0 w : World) (hA : AccsAt w0 ad A) (hu : Led.upB (Led.nm A) = true) (hn : A.length ≤ 12) (hm : m.t ∈ Led.nm A) (hst : m.st = 1)
    (hF : w0.cell? ⟨F, 0, none⟩ = some (.func (.func 30) #[.slice ad A.length cap] #[])) (hP : w0.heap.size ≤ P) (hg : Gr w0 w) (hf : ArrAt w P f)
    (hfr : -1000000000000000 ≤ free ∧ free ≤ 1000000000000000) (hkp : -1000000000000000 ≤ kept ∧ kept ≤ 1000000000000000) (hb : ∀ j, -1000000000000000000 ≤ f j ∧ f j ≤ 1000000000000000000) :
    Calls Try.prog 72 #[.agg #[.string m.key, .int .i64 m.k, .string m.t, .int .i64 m.n, .int .i64 m.st], .int .i64 free, .int .i64 kept, .pointer (some ⟨F, 0, none⟩), .pointer (some ⟨P, 0, none⟩)] w fun e w' => e = .returned (.tuple #[]) ∧
      ArrAt w' P (upd (upd (upd (upd f (Led.pos (Led.nm A) m.t * 4) (f (Led.pos (Led.nm A) m.t * 4) + max free 0)) (Led.pos (Led.nm A) m.t * 4 + 1) (f (Led.pos (Led.nm A) m.t * 4 + 1) + max (-free) 0)) (Led.pos (Led.nm A) m.t * 4 + 2) (f (Led.pos (Led.nm A) m.t * 4 + 2) + max kept 0)) (Led.pos (Led.nm A) m.t * 4 + 3) (f (Led.pos (Led.nm A) m.t * 4 + 3) + max (-kept) 0)) ∧ Gr w0 w' := by
  have HF : Hid (∀ w', Gr w0 w' → Calls Try.prog 30 #[.slice ad A.length cap, .string m.t] w' fun e w2 => e = .returned (.tuple #[.int .i64 (Led.pos (Led.nm A) m.t : Nat), .bool (Led.hasB (Led.nm A) m.t)]) ∧ Gr w' w2) := fun w' g => findA_any A m.t ad cap w' (hA.gr g) hu (by omega)
  have hp : Led.pos (Led.nm A) m.t < 12 := by
    obtain ⟨h1, _⟩ := Led.pos_mem hu hm
    rw [Led.nm_len] at h1
    omega
  generalize Led.hasB (Led.nm A) m.t = has at *
  generalize Led.pos (Led.nm A) m.t = p at *
  obtain ⟨key, k, t, n, st⟩ := m
  simp only at hst HF ⊢
  subst hst
  clear hm hu hA
  have HB : Hid (∀ j, -1000000000000000000 ≤ f j ∧ f j ≤ 1000000000000000000) := hb
  have HP : Hid (w0.heap.size ≤ P) := hP
  have HG : Hid (Gr w0 w) := hg
  have HFF : Hid (w0.cell? ⟨F, 0, none⟩ = some (.func (.func 30) #[.slice ad A.length cap] #[])) := hF
  have HA : Hid (ArrAt w P f) := hf
  have hpi : (p : Int) < 12 := by omega
  have c0 := hg.keep hF
  have hFl : F < w.heap.size := World.block_lt_of_cell? w _ c0
  clear hb hP hF hf hg
  go_enter Try.func72, Try.ntmps72
  go_wp2_with fail
  refine (HF.out _ (HG.out.alloc)).mono ?_
  rintro e w1 ⟨rfl, hg1⟩
  have HG1 : Hid (Gr w w1) := (Gr.refl w).alloc.trans hg1
  have HA1 : Hid (ArrAt w1 P f) := HA.out.gr HG1.out
  have HG01 : Hid (Gr w0 w1) := HG.out.trans HG1.out
  clear hg1 HG1 HA HF HG c0
  have e0 := HA1.out.c (p * 4) (by omega)
  have q0 := HA1.out.fz (p * 4) (by omega)
  have el := HA1.out.lt
  have r0 : IntKind.i64.wrap (f (p * 4) + max free 0) = f (p * 4) + max free 0 := by rw [IntKind.wrap_i64]; have := HB.out (p * 4); omega
  have n1 : IntKind.i64.wrap (-free) = -free := by rw [IntKind.wrap_i64]; omega
  have n2 : IntKind.i64.wrap (-kept) = -kept := by rw [IntKind.wrap_i64]; omega
  go_wp2_with fail
  go_region
  obtain ⟨w2, ew2⟩ : ∃ x, x = (w1.setCell ⟨P, p * 4, none⟩ (.int .i64 (f (p * 4) + max free 0))).drew := ⟨_, rfl⟩
  rw [← ew2]
  have HA2 : Hid (ArrAt w2 P (upd f (p * 4) (f (p * 4) + max free 0))) := by show ArrAt _ _ _; rw [ew2]; exact (HA1.out.set (p * 4) (by omega) _).gr (Gr.refl _).drew
  have HG2 : Hid (Gr w0 w2) := by show Gr _ _; rw [ew2]; exact (HG01.out.set _ HP.out _).drew
  clear ew2 e0 q0 el r0 HA1 HG01
  have e0 : w2.cell? ⟨P, p * 4 + 1, none⟩ = some (.int .i64 (f (p * 4 + 1))) := by have := HA2.out.c (p * 4 + 1) (by omega); simpa [upd] using this
  have q0 := HA2.out.fz (p * 4 + 1) (by omega)
  have el := HA2.out.lt
  have r0 : IntKind.i64.wrap (f (p * 4 + 1) + max (-free) 0) = f (p * 4 + 1) + max (-free) 0 := by rw [IntKind.wrap_i64]; have := HB.out (p * 4 + 1); omega
  go_wp2_with fail
  go_region
  obtain ⟨w3, ew3⟩ : ∃ x, x = (w2.setCell ⟨P, p * 4 + 1, none⟩ (.int .i64 (f (p * 4 + 1) + max (-free) 0))).drew := ⟨_, rfl⟩
  rw [← ew3]
  have HA3 : Hid (ArrAt w3 P (upd (upd f (p * 4) (f (p * 4) + max free 0)) (p * 4 + 1) (f (p * 4 + 1) + max (-free) 0))) := by show ArrAt _ _ _; rw [ew3]; exact (HA2.out.set (p * 4 + 1) (by omega) _).gr (Gr.refl _).drew
  have HG3 : Hid (Gr w0 w3) := by show Gr _ _; rw [ew3]; exact (HG2.out.set _ HP.out _).drew
  clear ew3 e0 q0 el r0 HA2 HG2
  have e0 : w3.cell? ⟨P, p * 4 + 2, none⟩ = some (.int .i64 (f (p * 4 + 2))) := by have := HA3.out.c (p * 4 + 2) (by omega); simpa [upd] using this
  have q0 := HA3.out.fz (p * 4 + 2) (by omega)
  have el := HA3.out.lt
  have r0 : IntKind.i64.wrap (f (p * 4 + 2) + max kept 0) = f (p * 4 + 2) + max kept 0 := by rw [IntKind.wrap_i64]; have := HB.out (p * 4 + 2); omega
  go_wp2_with fail
  go_region
  obtain ⟨w4, ew4⟩ : ∃ x, x = (w3.setCell ⟨P, p * 4 + 2, none⟩ (.int .i64 (f (p * 4 + 2) + max kept 0))).drew := ⟨_, rfl⟩
  rw [← ew4]
  have HA4 : Hid (ArrAt w4 P (upd (upd (upd f (p * 4) (f (p * 4) + max free 0)) (p * 4 + 1) (f (p * 4 + 1) + max (-free) 0)) (p * 4 + 2) (f (p * 4 + 2) + max kept 0))) := by show ArrAt _ _ _; rw [ew4]; exact (HA3.out.set (p * 4 + 2) (by omega) _).gr (Gr.refl _).drew
  have HG4 : Hid (Gr w0 w4) := by show Gr _ _; rw [ew4]; exact (HG3.out.set _ HP.out _).drew
  clear ew4 e0 q0 el r0 HA3 HG3
  have e0 : w4.cell? ⟨P, p * 4 + 3, none⟩ = some (.int .i64 (f (p * 4 + 3))) := by have := HA4.out.c (p * 4 + 3) (by omega); simpa [upd] using this
  have q0 := HA4.out.fz (p * 4 + 3) (by omega)
  have el := HA4.out.lt
  have r0 : IntKind.i64.wrap (f (p * 4 + 3) + max (-kept) 0) = f (p * 4 + 3) + max (-kept) 0 := by rw [IntKind.wrap_i64]; have := HB.out (p * 4 + 3); omega
  go_wp2_with fail
  go_region
  obtain ⟨w5, ew5⟩ : ∃ x, x = (w4.setCell ⟨P, p * 4 + 3, none⟩ (.int .i64 (f (p * 4 + 3) + max (-kept) 0))).drew := ⟨_, rfl⟩
  rw [← ew5]
  have HA5 : Hid (ArrAt w5 P (upd (upd (upd (upd f (p * 4) (f (p * 4) + max free 0)) (p * 4 + 1) (f (p * 4 + 1) + max (-free) 0)) (p * 4 + 2) (f (p * 4 + 2) + max kept 0)) (p * 4 + 3) (f (p * 4 + 3) + max (-kept) 0))) := by show ArrAt _ _ _; rw [ew5]; exact (HA4.out.set (p * 4 + 3) (by omega) _).gr (Gr.refl _).drew
  have HG5 : Hid (Gr w0 w5) := by show Gr _ _; rw [ew5]; exact (HG4.out.set _ HP.out _).drew
  clear ew5 e0 q0 el r0 HA4 HG4
  go_wp2
  go_end0
  exact ⟨rfl, HA5.out, HG5.out⟩

set_option maxHeartbeats 400000 in
theorem moved1_not (m : Mk) (free kept : Int) (F P : Nat) (f : Nat → Int) (w0 w : World) (hst : m.st ≠ 1) (hg : Gr w0 w) (hf : ArrAt w P f) :
    Calls Try.prog 72 #[.agg #[.string m.key, .int .i64 m.k, .string m.t, .int .i64 m.n, .int .i64 m.st], .int .i64 free, .int .i64 kept, .pointer (some ⟨F, 0, none⟩), .pointer (some ⟨P, 0, none⟩)] w fun e w' => e = .returned (.tuple #[]) ∧ ArrAt w' P f ∧ Gr w0 w' := by
  have HG : Hid (Gr w0 w) := hg
  have HA : Hid (ArrAt w P f) := hf
  have h1 : (m.st == 1) = false := by simpa using hst
  clear hg hf hst
  go_enter Try.func72, Try.ntmps72
  go_wp2
  refine bodyPost_ret (results_none rfl _ _ _) rfl ?_
  exact ⟨rfl, HA.out.gr (Gr.refl _).alloc, HG.out.alloc⟩
end Go.Proofs.Ytiakajheoajepaa
