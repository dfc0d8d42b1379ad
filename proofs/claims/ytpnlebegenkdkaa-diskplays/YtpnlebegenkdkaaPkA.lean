
/- Both disks beside each other. -/
import Derived.Test.YtpnlebegenkdkaaRkL
import Derived.Test.YtpnlebegenkdkaaDkO
namespace Go.Proofs.Ytpnlebegenkdkaa
open Go.RowKit Go.Maps
open Dk (Fl Fo St Ok Up zf used)

abbrev Xb (b m : Nat) : Nat → Prop := fun j => j = b ∨ j = m
structure Pq (a w : World) (b m r : Nat) (s t : St) : Prop where
  nw : New a w b m s
  rf : Rf (Xb b m) w r t
  rb : a.heap.size ≤ r
variable {a w w' : World} {b m r : Nat} {s t s' t' : St}
theorem Pq.up (h : Pq a w b m r s t) (g : Gr w w') : Pq a w' b m r s t := ⟨h.nw.up g, h.rf.gr g, h.rb⟩
theorem Pq.far (h : Pq a w b m r s t) (f : FaR w w' b m s') : Pq a w' b m r s' t := by
  obtain ⟨fa, fc, ka, kc, hr⟩ := h.rf
  exact ⟨h.nw.far f, ⟨fa, fc, ka, kc, hr.keep f.2.size (fun j hj hx => f.2.block j hj (fun e => hx (Or.inl e)) (fun e => hx (Or.inr e)))⟩, h.rb⟩
theorem Pq.ref (h : Pq a w b m r s t) (hr : Rf (Xb b m) w' r t') (ht : Tr w w' r) : Pq a w' b m r s t' := by
  obtain ⟨A, hA⟩ := h.nw.at_
  obtain ⟨fa, fc, ka, kc, h0⟩ := h.rf
  refine ⟨⟨⟨A, hA.grown ht (fun e => h0.xr (Or.inl (by injection e))) (fun e => h0.xr (Or.inr (by injection e)))⟩, h.nw.b0, h.nw.m0, h.nw.gr.grow ht (fun j hj => by cases hj; exact h.rb)⟩, hr, h.rb⟩
theorem pq_app (h : Pq a w b m r s t) (n : Int) (d : ByteArray) : Calls Try.prog 18 #[ptr b, .int .i64 n, .string d] w fun e w' => e = .returned (.int .i64 (Dk.appE s n d)) ∧ Pq a w' b m r (Dk.appS s n d) t := by
  obtain ⟨A, hA⟩ := h.nw.at_
  refine (append_any hA n d).mono ?_
  rintro e w2 ⟨rfl, q⟩
  exact ⟨rfl, h.far q⟩
theorem pq_syn (h : Pq a w b m r s t) {n : Int} (h0 : -9223372036854775808 ≤ n) (h1 : n ≤ 9223372036854775807) : Calls Try.prog 19 #[ptr b, .int .i64 n] w fun e w' => e = .returned (.int .i64 (Dk.stpE s 1 n 0)) ∧ Pq a w' b m r (Dk.stpS s 1 n 0) t := by
  obtain ⟨A, hA⟩ := h.nw.at_
  refine (sync_any hA h0 h1).mono ?_
  rintro e w2 ⟨rfl, q⟩
  exact ⟨rfl, h.far q⟩
theorem pq_cut (h : Pq a w b m r s t) {n : Int} (h0 : -9223372036854775808 ≤ n) (h1 : n ≤ 9223372036854775807) (k : Int) : Calls Try.prog 20 #[ptr b, .int .i64 n, .int .i64 k] w fun e w' => e = .returned (.int .i64 (Dk.stpE s 2 n k)) ∧ Pq a w' b m r (Dk.stpS s 2 n k) t := by
  obtain ⟨A, hA⟩ := h.nw.at_
  refine (cut_any hA h0 h1 k).mono ?_
  rintro e w2 ⟨rfl, q⟩
  exact ⟨rfl, h.far q⟩
theorem pq_rmv (h : Pq a w b m r s t) {n : Int} (h0 : -9223372036854775808 ≤ n) (h1 : n ≤ 9223372036854775807) : Calls Try.prog 21 #[ptr b, .int .i64 n] w fun e w' => e = .returned (.int .i64 (Dk.stpE s 3 n 0)) ∧ Pq a w' b m r (Dk.stpS s 3 n 0) t := by
  obtain ⟨A, hA⟩ := h.nw.at_
  refine (remove_any hA h0 h1).mono ?_
  rintro e w2 ⟨rfl, q⟩
  exact ⟨rfl, h.far q⟩
theorem pq_arm (h : Pq a w b m r s t) {n : Int} (h1 : n ≤ 9223372036854775807) {ad : Option Addr} {cap : Nat} {l : List Int} (hl : KAt w ad cap l) : Calls Try.prog 22 #[ptr b, .int .i64 n, .slice ad l.length cap] w fun e w' => e = .returned (.int .i64 (Dk.armE s n)) ∧ Pq a w' b m r (Dk.armS s n l) t := by
  obtain ⟨A, hA⟩ := h.nw.at_
  refine (arm_any hA h1 hl).mono ?_
  rintro e w2 ⟨rfl, q⟩
  exact ⟨rfl, h.far q⟩
theorem pq_cra (h : Pq a w b m r s t) {ad : Option Addr} {cap : Nat} {l : List Int} (hl : KAt w ad cap l) : Calls Try.prog 23 #[ptr b, .slice ad l.length cap] w fun e w' => e = .returned (.int .i64 (Dk.craE s)) ∧ Pq a w' b m r (Dk.craS s l) t := by
  obtain ⟨A, hA⟩ := h.nw.at_
  refine (crash_any hA hl).mono ?_
  rintro e w2 ⟨rfl, q⟩
  exact ⟨rfl, h.far q⟩
theorem pq_boo (h : Pq a w b m r s t) : Calls Try.prog 24 #[ptr b] w fun e w' => e = .returned (.int .i64 0) ∧ Pq a w' b m r (Dk.booS s) t := by
  obtain ⟨A, hA⟩ := h.nw.at_
  refine (boot_any hA).mono ?_
  rintro e w2 ⟨rfl, q⟩
  exact ⟨rfl, h.far q⟩
theorem pq_rap (h : Pq a w b m r s t) (n : Int) (d : ByteArray) (hd : d.size ≤ 1000000) : Calls Try.prog 31 #[ptr r, .int .i64 n, .string d] w fun e w' => e = .returned (.int .i64 (Dk.appE t n d)) ∧ Pq a w' b m r s (Dk.appS t n d) ∧ Tr w w' r := by
  obtain ⟨fa, fc, ka, kc, hr⟩ := h.rf
  refine (rappend_any hr n d hd).mono ?_
  rintro e w2 ⟨rfl, q1, q2⟩
  exact ⟨rfl, h.ref q1 q2, q2⟩
theorem pq_rst1 (h : Pq a w b m r s t) (n : Int) : Calls Try.prog 32 #[ptr r, .int .i64 1, .int .i64 n, .int .i64 0] w fun e w' => e = .returned (.int .i64 (Dk.stpE t 1 n 0)) ∧ Pq a w' b m r s (Dk.stpS t 1 n 0) ∧ Tr w w' r := by
  obtain ⟨fa, fc, ka, kc, hr⟩ := h.rf
  refine (rstep1_any hr n).mono ?_
  rintro e w2 ⟨rfl, q1, q2⟩
  exact ⟨rfl, h.ref q1 q2, q2⟩
theorem pq_rst2 (h : Pq a w b m r s t) (n k : Int) : Calls Try.prog 32 #[ptr r, .int .i64 2, .int .i64 n, .int .i64 k] w fun e w' => e = .returned (.int .i64 (Dk.stpE t 2 n k)) ∧ Pq a w' b m r s (Dk.stpS t 2 n k) ∧ Tr w w' r := by
  obtain ⟨fa, fc, ka, kc, hr⟩ := h.rf
  refine (rstep2_any hr n k).mono ?_
  rintro e w2 ⟨rfl, q1, q2⟩
  exact ⟨rfl, h.ref q1 q2, q2⟩
theorem pq_rst3 (h : Pq a w b m r s t) (n : Int) : Calls Try.prog 32 #[ptr r, .int .i64 3, .int .i64 n, .int .i64 0] w fun e w' => e = .returned (.int .i64 (Dk.stpE t 3 n 0)) ∧ Pq a w' b m r s (Dk.stpS t 3 n 0) ∧ Tr w w' r := by
  obtain ⟨fa, fc, ka, kc, hr⟩ := h.rf
  refine (rstep3_any hr n).mono ?_
  rintro e w2 ⟨rfl, q1, q2⟩
  exact ⟨rfl, h.ref q1 q2, q2⟩
/- a row of numbers that lay there ahead of both -/
structure Kb (a : World) (ad : Option Addr) (cap : Nat) (l : List Int) : Prop where
  at_ : KAt a ad cap l
  len : l.length ≤ 9223372036854775807
theorem Kb.off {ad : Option Addr} {cap : Nat} {l : List Int} (h : Kb a ad cap l) (hn : l ≠ []) : ∀ p, ad = some p → p.block < a.heap.size := by
  intro p e
  cases l with
  | nil => exact absurd rfl hn
  | cons x t =>
    obtain ⟨b, off, e2, hb, _⟩ := h.at_.row 0 (by simp)
    rw [e] at e2
    cases e2
    exact hb
theorem pq_rar (h : Pq a w b m r s t) {n : Int} (h1 : n ≤ 9223372036854775807) {ad : Option Addr} {cap : Nat} {l : List Int} (hl : Kb a ad cap l) : Calls Try.prog 33 #[ptr r, .int .i64 n, .slice ad l.length cap] w fun e w' => e = .returned (.int .i64 (Dk.armE t n)) ∧ Pq a w' b m r s (Dk.armS t n l) ∧ Tr w w' r := by
  obtain ⟨fa, fc, ka, kc, hr⟩ := h.rf
  refine (rarm_any hr h1 (hl.at_.gr h.nw.gr) hl.len (fun hn p e => ⟨by have := hl.off hn p e; have := h.rb; omega, fun hx => by have := hl.off hn p e; have := h.nw.b0; have := h.nw.m0; rcases hx with hx | hx <;> omega⟩)).mono ?_
  rintro e w2 ⟨rfl, q1, q2⟩
  exact ⟨rfl, h.ref q1 q2, q2⟩
theorem pq_rcr (h : Pq a w b m r s t) {ad : Option Addr} {cap : Nat} {l : List Int} (hl : KAt w ad cap l) : Calls Try.prog 34 #[ptr r, .slice ad l.length cap] w fun e w' => e = .returned (.int .i64 (Dk.craE t)) ∧ Pq a w' b m r s (Dk.craS t l) ∧ Tr w w' r := by
  obtain ⟨fa, fc, ka, kc, hr⟩ := h.rf
  refine (rcrash_any hr hl).mono ?_
  rintro e w2 ⟨rfl, q1, q2⟩
  exact ⟨rfl, h.ref q1 q2, q2⟩
theorem pq_rbo (h : Pq a w b m r s t) : Calls Try.prog 35 #[ptr r] w fun e w' => e = .returned (.tuple #[]) ∧ Pq a w' b m r s (Dk.booS t) ∧ Tr w w' r := by
  obtain ⟨fa, fc, ka, kc, hr⟩ := h.rf
  refine (rboot_any hr).mono ?_
  rintro e w2 ⟨rfl, q1, q2⟩
  exact ⟨rfl, h.ref q1 q2, q2⟩
/- an act that lay there ahead of both -/
structure Ab (a : World) (x : Ac) : Prop where
  in_ : AcIn a x
  d1 : x.d.size ≤ 1000000
theorem Ab.kb {x : Ac} (h : Ab a x) : Kb a x.ka x.kc x.K := ⟨h.in_.row, h.in_.K1⟩
end Go.Proofs.Ytpnlebegenkdkaa
