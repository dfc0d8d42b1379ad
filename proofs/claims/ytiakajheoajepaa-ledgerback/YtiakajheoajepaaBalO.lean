/- What one opened account comes to. -/
import Derived.Test.YtiakajheoajepaaLedU
import Derived.Test.YtiakajheoajepaaBalN
namespace Go.Proofs.Ytiakajheoajepaa
open Go.RowKit
open Led (Acc Mk)

theorem sm_take (g : Mk → Int) (M : List Mk) (j : Nat) (h : j < M.length) : Led.sm g (M.take (j + 1)) = Led.sm g (M.take j) + g M[j] := by
  rw [List.take_succ_eq_append_getElem h, Led.sm_app]
  show _ + (g M[j] + 0) = _
  omega
theorem sm_rng {A : List Acc} {M : List Mk} (s : ByteArray) (hm : Led.May A M) (j : Nat) : (-500000000000000000 ≤ Led.sm (Led.gNF s) (M.take j) ∧ Led.sm (Led.gNF s) (M.take j) ≤ 500000000000000000) ∧ (-500000000000000000 ≤ Led.sm (Led.gNK s) (M.take j) ∧ Led.sm (Led.gNK s) (M.take j) ≤ 500000000000000000) := by
  have r := fs_rng (A := A) s ⟨#[]⟩ (M := M.take j) (fun m hmm => hm.om m (List.mem_of_mem_take hmm))
  have l := fs_len s ⟨#[]⟩ (M.take j)
  have h5 := hm.lm
  have s1 := sum_within 1000000000000000 r.1
  have s2 := sum_within 1000000000000000 r.2
  rw [(net_all s (M.take j)).1] at s1
  rw [(net_all s (M.take j)).2] at s2
  have h6 : (M.take j).length ≤ 500 := by rw [List.length_take]; omega
  omega
/- what one opened account comes to -/
theorem bal_one {A : List Acc} {M : List Mk} {F : List (ByteArray × Int)} (hm : Led.May A M) (hb : Bal A M F) (k : Nat) (hk : k < F.length) :
    ∃ x : Acc, x ∈ A ∧ findE A M F[k].1 = x ∧ findB A M F[k].1 = true ∧ x.s = F[k].1 ∧ x.a = F[k].2 + Led.sm (Led.gNF F[k].1) M ∧ x.x = Led.sm (Led.gNK F[k].1) M ∧ (0 ≤ x.a ∧ x.a ≤ 1000000000000000) ∧ netE A M F[k].1 = 0 ∧ netF A M F[k].1 ⟨#[]⟩ = Led.sm (Led.gNF F[k].1) M ∧ netK A M F[k].1 ⟨#[]⟩ = Led.sm (Led.gNK F[k].1) M := by
  obtain ⟨x, hx1, hx2, hx3, hx4⟩ := hb.2 F[k] (List.getElem_mem hk)
  have hmB : Led.mayB A M = true := (Led.may_iff A M).2 hm
  obtain ⟨j, hj, rfl⟩ := List.getElem_of_mem hx1
  have hjn : j < (Led.nm A).length := by rw [Led.nm_len]; exact hj
  have hnm : (Led.nm A)[j] = F[k].1 := by rw [Led.nm_get A j hj]; exact hx2
  have hhas : Led.hasB (Led.nm A) F[k].1 = true := (Led.has_iff _ _).2 (by rw [← hnm]; exact List.getElem_mem hjn)
  have hpos : Led.pos (Led.nm A) F[k].1 = j := Led.pos_eq hm.ua j hjn hnm
  have hr := (Act.acc_rng (hm.oa _ hx1)).1
  have hE : netE A M F[k].1 = 0 := by unfold netE; rw [if_pos hmB, if_pos hhas]
  refine ⟨A[j], hx1, ?_, ?_, hx2, hx3, hx4, hr, hE, ?_, ?_⟩
  · unfold findE
    rw [if_pos hmB, if_pos hhas, hpos, List.getD_eq_getElem?_getD, List.getElem?_eq_getElem hj]; rfl
  · unfold findB; rw [hmB, hhas]; rfl
  · unfold netF; rw [if_pos hE]; exact (net_all _ M).1
  · unfold netK; rw [if_pos hE]; exact (net_all _ M).2

theorem hold3 {a b : World} (g : Gr a b) {q0 q1 q2 : Addr} {v0 v1 v2 : Value} (h0 : a.cell? q0 = some v0) (h1 : a.cell? q1 = some v1) (h2 : a.cell? q2 = some v2) : Gr a b ∧ b.cell? q0 = some v0 ∧ b.cell? q1 = some v1 ∧ b.cell? q2 = some v2 := ⟨g, g.keep h0, g.keep h1, g.keep h2⟩
end Go.Proofs.Ytiakajheoajepaa
