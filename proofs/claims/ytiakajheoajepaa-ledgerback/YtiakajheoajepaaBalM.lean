/- Ledgers: each account has what it was opened with, and what is in effect on it. -/
import Derived.Test.YtiakajheoajepaaLedZ
namespace Go.Proofs.Ytiakajheoajepaa
open Led (Acc Mk)

/- what was opened, with what: F -/
def Bal (A : List Acc) (M : List Mk) (F : List (ByteArray × Int)) : Prop :=
  F.length = A.length ∧ ∀ q ∈ F, ∃ x ∈ A, x.s = q.1 ∧ x.a = q.2 + Led.sm (Led.gNF q.1) M ∧ x.x = Led.sm (Led.gNK q.1) M
theorem bal_change {A : List Acc} {M M' : List Mk} {F : List (ByteArray × Int)} {p : Nat} {y : Acc} {t : ByteArray} {d g : Int} (h : Bal A M F) (hu : Led.upB (Led.nm A) = true) (hp : p < A.length) (ht : A[p].s = t) (hy : y.s = t) (ha : y.a = A[p].a + d) (hx : y.x = A[p].x + g)
    (s1 : ∀ s, Led.sm (Led.gNF s) M' = Led.sm (Led.gNF s) M + if t = s then d else 0) (s2 : ∀ s, Led.sm (Led.gNK s) M' = Led.sm (Led.gNK s) M + if t = s then g else 0) : Bal (A.set p y) M' F := by
  refine ⟨by rw [List.length_set]; exact h.1, fun q hq => ?_⟩
  obtain ⟨x, hx1, hx2, hx3, hx4⟩ := h.2 q hq
  obtain ⟨j, hj, rfl⟩ := List.getElem_of_mem hx1
  by_cases e : j = p
  · subst e
    have hts : t = q.1 := by rw [← ht, hx2]
    refine ⟨y, ?_, by rw [hy, hts], ?_, ?_⟩
    · have : (A.set j y)[j]'(by rw [List.length_set]; exact hj) = y := List.getElem_set_self _
      exact List.mem_iff_getElem.2 ⟨j, by rw [List.length_set]; exact hj, this⟩
    · rw [s1, if_pos hts, ha, hx3]; omega
    · rw [s2, if_pos hts, hx, hx4]
  · have hts : ¬ t = q.1 := fun e2 => e (Led.up_one hu (by rw [Led.nm_len]; exact hj) (by rw [Led.nm_len]; exact hp) (by rw [Led.nm_get A j hj, Led.nm_get A p hp, hx2, ht, e2]))
    refine ⟨A[j], ?_, hx2, ?_, ?_⟩
    · have : (A.set p y)[j]'(by rw [List.length_set]; exact hj) = A[j] := List.getElem_set_ne (fun e2 => e e2.symm) _
      exact List.mem_iff_getElem.2 ⟨j, by rw [List.length_set]; exact hj, this⟩
    · rw [s1, if_neg hts, hx3]; omega
    · rw [s2, if_neg hts, hx4]; omega
theorem bal_open {A : List Acc} {M : List Mk} {F : List (ByteArray × Int)} {s : ByteArray} {n : Int} (h : Bal A M F) (he : openE A M s n = 0) : Bal (openA A s n) M (F ++ [(s, n)]) := by
  obtain ⟨hm, _, _, hh, _⟩ := open_parts he
  have hM := (Led.may_iff A M).1 hm
  have hns : s ∉ Led.nm A := fun hs => by rw [(Led.has_iff _ _).2 hs] at hh; cases hh
  refine ⟨by rw [open_len, List.length_append, h.1]; rfl, fun q hq => ?_⟩
  rcases List.mem_append.1 hq with hq | hq
  · obtain ⟨x, hx1, hx2⟩ := h.2 q hq
    refine ⟨x, ?_, hx2⟩
    unfold openA
    rw [← List.take_append_drop (Led.pos (Led.nm A) s) A] at hx1
    rcases List.mem_append.1 hx1 with h1 | h1
    · exact List.mem_append.2 (Or.inl h1)
    · exact List.mem_append.2 (Or.inr (List.mem_cons.2 (Or.inr h1)))
  · obtain rfl : q = (s, n) := by simpa using hq
    have z : ∀ m ∈ M, ¬ Led.eff s m = true := fun m hmm he => by
      have h1 := ((Led.mk_iff A m).1 (hM.om m hmm)).2.2.1
      unfold Led.eff at he
      simp only [Bool.and_eq_true, decide_eq_true_eq] at he
      rw [he.1] at h1
      exact hns h1
    have z1 : Led.sm (Led.gNF s) M = 0 := Led.sm_zero fun m hmm => by unfold Led.gNF; rw [if_neg (z m hmm)]
    have z2 : Led.sm (Led.gNK s) M = 0 := Led.sm_zero fun m hmm => by unfold Led.gNK; rw [if_neg (z m hmm)]
    refine ⟨newA s n, ?_, rfl, ?_, ?_⟩
    · unfold openA
      exact List.mem_append.2 (Or.inr (List.mem_cons.2 (Or.inl rfl)))
    · show n = n + Led.sm (Led.gNF s) M
      rw [z1]; omega
    · show (0 : Int) = Led.sm (Led.gNK s) M
      rw [z2]
theorem bal_do {A : List Acc} {M : List Mk} {F : List (ByteArray × Int)} {key : ByteArray} {k : Int} {t : ByteArray} {n : Int} (h : Bal A M F) (he : doE A M key k t n = 0) : Bal (doA A M key k t n) (doM M key k t n) F := by
  obtain ⟨hm, hk, hab, ⟨hh, _⟩ | ⟨hh, ha, hl, hmv⟩⟩ := do_parts he
  · unfold doA doM; rw [hh, if_pos rfl, if_pos rfl]; exact h
  · have hM := (Led.may_iff A M).1 hm
    obtain ⟨hp, hpx⟩ := Led.pos_mem hM.ua ((Led.has_iff _ _).1 ha)
    rw [Led.nm_len] at hp
    rw [Led.nm_get A _ hp] at hpx
    have hat : atA A t = A[Led.pos (Led.nm A) t] := by unfold atA; rw [List.getD_eq_getElem?_getD, List.getElem?_eq_getElem hp]; rfl
    obtain ⟨_, _, _, hy0, _⟩ := Led.mv_do hmv
    have hy : mvA Act.chDo (atA A t) k n = _ := hy0
    unfold doA doM
    rw [hh, if_neg (by decide), if_neg (by decide), hy]
    refine bal_change h hM.ua hp hpx (by show (atA A t).s = t; rw [hat]; exact hpx) (d := Act.dF k t n) (g := Act.dK k t n) ?_ ?_ ?_ ?_
    · rw [hat]; show _ + _ * _ = _; omega
    · rw [hat]; show _ + _ * _ = _; omega
    · intro s
      unfold insK
      rw [Led.sm_ins]
      congr 1
      unfold Led.gNF Led.eff Led.amF
      by_cases e : t = s
      · simp [e]
      · simp [e]
    · intro s
      unfold insK
      rw [Led.sm_ins]
      congr 1
      unfold Led.gNK Led.eff Led.amK
      by_cases e : t = s
      · simp [e]
      · simp [e]
theorem eff_at {s : ByteArray} {m : Mk} : (Led.eff s m = true ↔ m.t = s ∧ m.st ≠ 2) := by
  unfold Led.eff
  simp only [Bool.and_eq_true, decide_eq_true_eq, Bool.not_eq_true', decide_eq_false_iff_not, ne_eq]
theorem g_at (s : ByteArray) (m : Mk) : Led.gNF s m = (if m.t = s ∧ m.st ≠ 2 then Led.amF m else 0) ∧ Led.gNK s m = (if m.t = s ∧ m.st ≠ 2 then Led.amK m else 0) := by
  unfold Led.gNF Led.gNK
  by_cases h : m.t = s ∧ m.st ≠ 2
  · rw [if_pos (eff_at.2 h), if_pos (eff_at.2 h), if_pos h, if_pos h]; exact ⟨rfl, rfl⟩
  · rw [if_neg (fun e => h (eff_at.1 e)), if_neg (fun e => h (eff_at.1 e)), if_neg h, if_neg h]; exact ⟨rfl, rfl⟩
theorem bal_end {C : Act.Ch} {st : Int} {A : List Acc} {M : List Mk} {F : List (ByteArray × Int)} {key : ByteArray} (hC : (C = Act.chUn ∧ st = 2) ∨ (C = Act.chKe ∧ st = 3)) (h : Bal A M F) (he : endE C st A M key = 0) : Bal (endA C st A M key) (endM st M key) F := by
  obtain ⟨hm, hk, hh, h1 | ⟨h1, h2⟩⟩ := end_parts he
  · unfold endA endM; rw [if_pos h1, if_pos h1]; exact h
  · have hM := (Led.may_iff A M).1 hm
    obtain ⟨hp, hx, hxs, hq, hmx, _, _, ⟨_, hun, _⟩, ⟨_, hke, _⟩⟩ := done_mark hM ((Led.has_iff _ _).1 hh) h2
    unfold endA endM
    rw [if_neg h1, if_neg h1]
    have hps : A[Led.pos (Led.nm A) (atM M key).t].s = (atM M key).t := by rw [hx]; exact hxs
    have g0 : ∀ s, Led.gNF s M[Led.pos (Led.ky M) key] = (if (atM M key).t = s then Led.amF (atM M key) else 0) ∧ Led.gNK s M[Led.pos (Led.ky M) key] = (if (atM M key).t = s then Led.amK (atM M key) else 0) := fun s => by
      rw [hmx, (g_at s _).1, (g_at s _).2, h2]
      simp
    rcases hC with ⟨rfl, rfl⟩ | ⟨rfl, rfl⟩
    · rw [hun]
      refine bal_change h hM.ua hp hps hxs (d := -Led.amF (atM M key)) (g := -Led.amK (atM M key)) ?_ ?_ ?_ ?_
      · rw [hx]; show _ + _ * _ = _; omega
      · rw [hx]; show _ + _ * _ = _; omega
      · intro s
        rw [Led.sm_set _ _ _ hq, (g0 s).1, (g_at s _).1]
        by_cases e : (atM M key).t = s
        · simp [e]; omega
        · simp [e]
      · intro s
        rw [Led.sm_set _ _ _ hq, (g0 s).2, (g_at s _).2]
        by_cases e : (atM M key).t = s
        · simp [e]; omega
        · simp [e]
    · rw [hke]
      refine bal_change h hM.ua hp hps hxs (d := 0) (g := 0) ?_ ?_ ?_ ?_
      · rw [hx]; show _ + _ * _ = _; omega
      · rw [hx]; show _ + _ * _ = _; omega
      · intro s
        rw [Led.sm_set _ _ _ hq, (g0 s).1, (g_at s _).1]
        by_cases e : (atM M key).t = s
        · simp [e, Led.amF]
        · simp [e]
      · intro s
        rw [Led.sm_set _ _ _ hq, (g0 s).2, (g_at s _).2]
        by_cases e : (atM M key).t = s
        · simp [e, Led.amK]
        · simp [e]
/- one call -/
def stF (A : List Acc) (M : List Mk) (F : List (ByteArray × Int)) (q : Cal) : List (ByteArray × Int) := if stE A M q = 0 ∧ q.kd = 0 then F ++ [(q.t, q.n)] else F
theorem bal_st {A : List Acc} {M : List Mk} {F : List (ByteArray × Int)} (h : Bal A M F) (q : Cal) : Bal (stA A M q) (stM A M q) (stF A M F q) := by
  unfold stA stM stF
  by_cases he : stE A M q = 0
  · rw [if_pos he, if_pos he]
    have he' := he
    unfold stE at he'
    by_cases h0 : q.kd = 0
    · rw [if_pos h0] at he'; rw [if_pos h0, if_pos h0, if_pos ⟨he, h0⟩]; exact bal_open h he'
    have e3 : (if stE A M q = 0 ∧ q.kd = 0 then F ++ [(q.t, q.n)] else F) = F := if_neg (fun e => h0 e.2)
    rw [if_neg h0] at he'; rw [e3, if_neg h0, if_neg h0]
    by_cases h1 : q.kd = 1
    · rw [if_pos h1] at he'; rw [if_pos h1, if_pos h1]; exact bal_do h he'
    rw [if_neg h1] at he'; rw [if_neg h1, if_neg h1]
    by_cases h2 : q.kd = 2
    · rw [if_pos h2] at he'; rw [if_pos h2, if_pos h2]; exact bal_end (Or.inl ⟨rfl, rfl⟩) h he'
    rw [if_neg h2] at he'; rw [if_neg h2, if_neg h2]
    by_cases h3 : q.kd = 3
    · rw [if_pos h3] at he'; exact bal_end (Or.inr ⟨rfl, rfl⟩) h he'
    · rw [if_neg h3] at he'; cases he'
  · have e3 : (if stE A M q = 0 ∧ q.kd = 0 then F ++ [(q.t, q.n)] else F) = F := if_neg (fun e => he e.1)
    rw [e3, if_neg he, if_neg he]; exact h
end Go.Proofs.Ytiakajheoajepaa
