/- Ledgers: all that is done, undone, in whatever order. -/
import Derived.Test.YtiakajheoajepaaBalM
namespace Go.Proofs.Ytiakajheoajepaa
open Led (Acc Mk)

/- what an account has, but for what is in effect, stays -/
def Rl (A0 : List Acc) (M0 : List Mk) (A : List Acc) (M : List Mk) : Prop :=
  A.length = A0.length ∧ ∀ p (h : p < A.length) (h0 : p < A0.length), A[p].s = A0[p].s ∧ A[p].a - Led.sm (Led.gNF A0[p].s) M = A0[p].a - Led.sm (Led.gNF A0[p].s) M0 ∧ A[p].x - Led.sm (Led.gNK A0[p].s) M = A0[p].x - Led.sm (Led.gNK A0[p].s) M0
theorem rl_refl (A : List Acc) (M : List Mk) : Rl A M A M := ⟨rfl, fun _ _ _ => ⟨rfl, rfl, rfl⟩⟩
theorem rl_change {A0 A : List Acc} {M0 M M' : List Mk} {p : Nat} {y : Acc} {t : ByteArray} {d g : Int} (h : Rl A0 M0 A M) (hu : Led.upB (Led.nm A) = true) (hp : p < A.length) (ht : A[p].s = t) (hy : y.s = t) (ha : y.a = A[p].a + d) (hx : y.x = A[p].x + g)
    (s1 : ∀ s, Led.sm (Led.gNF s) M' = Led.sm (Led.gNF s) M + if t = s then d else 0) (s2 : ∀ s, Led.sm (Led.gNK s) M' = Led.sm (Led.gNK s) M + if t = s then g else 0) : Rl A0 M0 (A.set p y) M' := by
  refine ⟨by rw [List.length_set]; exact h.1, fun j hj h0 => ?_⟩
  rw [List.length_set] at hj
  obtain ⟨e1, e2, e3⟩ := h.2 j hj h0
  rw [s1, s2]
  by_cases e : p = j
  · subst e
    have hts : t = A0[p].s := by rw [← ht, e1]
    rw [List.getElem_set_self, if_pos hts, if_pos hts, hy, ha, hx]
    exact ⟨hts, by omega, by omega⟩
  · have hts : ¬ t = A0[j].s := fun e2 => e (Led.up_one hu (by rw [Led.nm_len]; exact hp) (by rw [Led.nm_len]; exact hj) (by rw [Led.nm_get A p hp, Led.nm_get A j hj, ht, e1, e2]))
    rw [List.getElem_set_ne e, if_neg hts, if_neg hts]
    exact ⟨e1, by omega, by omega⟩
theorem rl_end {A0 A : List Acc} {M0 M : List Mk} {key : ByteArray} (h : Rl A0 M0 A M) (he : endE Act.chUn 2 A M key = 0) (h2 : (atM M key).st = 1) : Rl A0 M0 (endA Act.chUn 2 A M key) (endM 2 M key) := by
  obtain ⟨hm, hk, hh, _⟩ := end_parts he
  have h1 : ¬ (atM M key).st = 2 := by omega
  have hM := (Led.may_iff A M).1 hm
  obtain ⟨hp, hx, hxs, hq, hmx, _, _, ⟨_, hun, _⟩, _⟩ := done_mark hM ((Led.has_iff _ _).1 hh) h2
  unfold endA endM
  rw [if_neg h1, if_neg h1]
  have hps : A[Led.pos (Led.nm A) (atM M key).t].s = (atM M key).t := by rw [hx]; exact hxs
  have g0 : ∀ s, Led.gNF s M[Led.pos (Led.ky M) key] = (if (atM M key).t = s then Led.amF (atM M key) else 0) ∧ Led.gNK s M[Led.pos (Led.ky M) key] = (if (atM M key).t = s then Led.amK (atM M key) else 0) := fun s => by
    rw [hmx, (g_at s _).1, (g_at s _).2, h2]
    simp
  rw [hun]
  refine rl_change h hM.ua hp hps hxs (d := -Led.amF (atM M key)) (g := -Led.amK (atM M key)) ?_ ?_ ?_ ?_
  · rw [hx]; show _ + _ * _ = _; omega
  · rw [hx]; show _ + _ * _ = _; omega
  · intro s
    rw [Led.sm_set _ _ _ hq, (g0 s).1, (g_at s _).1]
    by_cases e : (atM M key).t = s
    · simp [e]; omega
    · simp [e]
  · intro s
    rw [Led.sm_set _ _ _ hq, (g0 s).2, (g_at s _).2]
    by_cases e : (atM M key).t = s
    · simp [e]; omega
    · simp [e]
theorem acc_ext {x y : Acc} (h1 : x.s = y.s) (h2 : x.a = y.a) (h3 : x.b = y.b) (h4 : x.c = y.c) (h5 : x.x = y.x) (h6 : x.y = y.y) (h7 : x.z = y.z) : x = y := by
  cases x; cases y; simp at *; exact ⟨h1, h2, h3, h4, h5, h6, h7⟩
theorem pots_of {A : List Acc} {M : List Mk} (hm : Led.May A M) {x : Acc} (hx : x ∈ A) : x.b = Led.sm (Led.gFI x.s) M ∧ x.c = Led.sm (Led.gFO x.s) M ∧ x.y = Led.sm (Led.gKI x.s) M ∧ x.z = Led.sm (Led.gKO x.s) M := by
  have := hm.po x hx
  unfold Led.potsB at this
  simp only [Bool.and_eq_true, decide_eq_true_eq] at this
  exact ⟨this.1.1.1, this.1.1.2, this.1.2, this.2⟩
theorem rl_one {A0 A A' : List Acc} {M0 M : List Mk} (h : Rl A0 M0 A M) (h' : Rl A0 M0 A' M) (hm : Led.May A M) (hm' : Led.May A' M) : A = A' := by
  refine List.ext_getElem (by rw [h.1, h'.1]) fun p hp hp' => ?_
  have h0 : p < A0.length := by rw [← h.1]; exact hp
  obtain ⟨e1, e2, e3⟩ := h.2 p hp h0
  obtain ⟨f1, f2, f3⟩ := h'.2 p hp' h0
  obtain ⟨b1, b2, b3, b4⟩ := pots_of hm (List.getElem_mem hp)
  obtain ⟨d1, d2, d3, d4⟩ := pots_of hm' (List.getElem_mem hp')
  have es : A[p].s = A'[p].s := by rw [e1, f1]
  refine acc_ext es (by omega) ?_ ?_ (by omega) ?_ ?_
  · rw [b1, d1, es]
  · rw [b2, d2, es]
  · rw [b3, d3, es]
  · rw [b4, d4, es]

/- marks of which some are undone -/
def unM (m : Mk) : Mk := { m with st := 2 }
def und (P : Nat → Bool) (M : List Mk) : List Mk := M.mapIdx (fun j m => if P j = true ∧ m.st = 1 then unM m else m)
theorem und_len (P : Nat → Bool) (M : List Mk) : (und P M).length = M.length := by simp [und]
theorem und_get (P : Nat → Bool) (M : List Mk) (j : Nat) (h : j < M.length) : (und P M)[j]'(by rw [und_len]; exact h) = if P j = true ∧ M[j].st = 1 then unM M[j] else M[j] := by simp [und]
theorem und_key (P : Nat → Bool) (M : List Mk) (j : Nat) (h : j < M.length) : ((und P M)[j]'(by rw [und_len]; exact h)).key = M[j].key := by
  rw [und_get P M j h]; split <;> rfl
theorem und_congr {P P' : Nat → Bool} {M : List Mk} (h : ∀ j (hj : j < M.length), (P j = true ∧ M[j].st = 1) ↔ (P' j = true ∧ M[j].st = 1)) : und P M = und P' M := by
  refine List.ext_getElem (by rw [und_len, und_len]) fun j h1 h2 => ?_
  rw [und_len] at h1
  rw [und_get P M j h1, und_get P' M j h1]
  by_cases e : P j = true ∧ M[j].st = 1
  · rw [if_pos e, if_pos ((h j h1).1 e)]
  · rw [if_neg e, if_neg (fun e2 => e ((h j h1).2 e2))]
theorem und_none (M : List Mk) : und (fun _ => false) M = M := by
  refine List.ext_getElem (und_len _ _) fun j h1 h2 => ?_
  rw [und_get _ M j h2, if_neg (fun e => by cases e.1)]

structure BkI (F : List (ByteArray × Int)) (A0 : List Acc) (M0 : List Mk) (P : Nat → Bool) (A : List Acc) (M : List Mk) : Prop where
  may : Led.May A M
  bal : Bal A M F
  rl : Rl A0 M0 A M
  eq : M = und P M0
theorem BkI.start {F : List (ByteArray × Int)} {A : List Acc} {M : List Mk} (hm : Led.May A M) (hb : Bal A M F) {P : Nat → Bool} (hP : ∀ j, j < M.length → P j = false) : BkI F A M P A M :=
  ⟨hm, hb, rl_refl A M, by
    have := und_congr (P := P) (P' := fun _ => false) (M := M) (fun j hj => by rw [hP j hj])
    rw [this, und_none]⟩
theorem BkI.skip {F : List (ByteArray × Int)} {A0 A : List Acc} {M0 M : List Mk} {P P' : Nat → Bool} (h : BkI F A0 M0 P A M) (hP : ∀ j (hj : j < M0.length), (P j = true ∧ M0[j].st = 1) ↔ (P' j = true ∧ M0[j].st = 1)) : BkI F A0 M0 P' A M :=
  ⟨h.may, h.bal, h.rl, by rw [h.eq]; exact und_congr hP⟩
theorem BkI.step {F : List (ByteArray × Int)} {A0 A : List Acc} {M0 M : List Mk} {P P' : Nat → Bool} (h : BkI F A0 M0 P A M) (k : Nat) (hk : k < M0.length) (h1 : M0[k].st = 1) (hP : P k = false) (hP1 : P' k = true) (hP2 : ∀ j, j < M0.length → j ≠ k → P' j = P j) :
    endE Act.chUn 2 A M M0[k].key = 0 ∧ BkI F A0 M0 P' (endA Act.chUn 2 A M M0[k].key) (endM 2 M M0[k].key) := by
  have hM := h.may
  have hlen : M.length = M0.length := by rw [h.eq, und_len]
  have hkM : k < M.length := by omega
  have hMk : M[k] = M0[k] := by
    have e : M[k] = (und P M0)[k]'(by rw [und_len]; exact hk) := by simp only [h.eq]
    rw [e, und_get P M0 k hk, if_neg (fun e => by rw [hP] at e; cases e.1)]
  have hky : k < (Led.ky M).length := by rw [Led.ky_len]; exact hkM
  have hkk : (Led.ky M)[k] = M0[k].key := by rw [Led.ky_get M k hkM, hMk]
  have hmem : M0[k].key ∈ Led.ky M := by rw [← hkk]; exact List.getElem_mem hky
  have hpos : Led.pos (Led.ky M) M0[k].key = k := Led.pos_eq hM.um k hky hkk
  have hat : atM M M0[k].key = M0[k] := by unfold atM; rw [hpos, List.getD_eq_getElem?_getD, List.getElem?_eq_getElem hkM, ← hMk]; rfl
  have hst : (atM M M0[k].key).st = 1 := by rw [hat]; exact h1
  have hkb : Led.keyB M0[k].key = true := by
    have := hM.om M[k] (List.getElem_mem hkM)
    rw [hMk] at this
    unfold Led.mkOk at this
    simp only [Bool.and_eq_true] at this
    exact this.1.1.1
  obtain ⟨_, _, _, _, _, _, _, ⟨hmv, _, _⟩, _⟩ := done_mark hM hmem hst
  have he : endE Act.chUn 2 A M M0[k].key = 0 := by
    unfold endE
    rw [(Led.may_iff A M).2 hM, hkb, show (true && true) = true from rfl, if_pos rfl, (Led.has_iff _ _).2 hmem, if_pos rfl, if_neg (by omega), if_pos hst]
    exact hmv
  refine ⟨he, end_may (Or.inl ⟨rfl, rfl⟩) he, bal_end (Or.inl ⟨rfl, rfl⟩) h.bal he, rl_end h.rl he hst, ?_⟩
  unfold endM
  rw [if_neg (by omega), hpos, hat]
  refine List.ext_getElem (by rw [List.length_set, und_len]; exact hlen) fun j hj hj' => ?_
  rw [und_len] at hj'
  rw [und_get P' M0 j hj']
  by_cases e : k = j
  · subst e
    rw [List.getElem_set_self, if_pos ⟨hP1, h1⟩]; rfl
  · rw [List.getElem_set_ne e, hP2 j hj' (fun e2 => e e2.symm)]
    have e3 : M[j]'(by omega) = (und P M0)[j]'(by rw [und_len]; exact hj') := by simp only [h.eq]
    rw [e3, und_get P M0 j hj']
/- where all is undone: the ledgers are one, nothing is pending -/
theorem BkI.one {F : List (ByteArray × Int)} {A0 A A' : List Acc} {M0 M M' : List Mk} {P P' : Nat → Bool} (h : BkI F A0 M0 P A M) (h' : BkI F A0 M0 P' A' M') (hP : ∀ j, j < M0.length → P j = true) (hP' : ∀ j, j < M0.length → P' j = true) : A' = A ∧ M' = M := by
  have e : M' = M := by
    rw [h.eq, h'.eq]
    exact und_congr fun j hj => by rw [hP j hj, hP' j hj]
  subst e
  exact ⟨(rl_one h.rl h'.rl h.may h'.may).symm, rfl⟩
theorem BkI.zero {F : List (ByteArray × Int)} {A0 A : List Acc} {M0 M : List Mk} {P : Nat → Bool} (h : BkI F A0 M0 P A M) (hP : ∀ j, j < M0.length → P j = true) {x : Acc} (hx : x ∈ A) : x.b = 0 ∧ x.c = 0 ∧ x.y = 0 ∧ x.z = 0 := by
  have hn : ∀ m ∈ M, ¬ m.st = 1 := by
    intro m hm
    rw [h.eq] at hm
    obtain ⟨j, hj, rfl⟩ := List.getElem_of_mem hm
    rw [und_len] at hj
    rw [und_get P M0 j hj]
    split
    · show ¬ (2 : Int) = 1; decide
    · rename_i e
      exact fun e2 => e ⟨hP j hj, e2⟩
  have z : ∀ s, ∀ m ∈ M, ¬ Led.hit s m = true := fun s m hm e => by
    unfold Led.hit at e
    simp only [Bool.and_eq_true, decide_eq_true_eq] at e
    exact hn m hm e.2
  obtain ⟨b1, b2, b3, b4⟩ := pots_of h.may hx
  refine ⟨?_, ?_, ?_, ?_⟩
  · rw [b1]; exact Led.sm_zero fun m hm => by unfold Led.gFI; rw [if_neg (z _ m hm)]
  · rw [b2]; exact Led.sm_zero fun m hm => by unfold Led.gFO; rw [if_neg (z _ m hm)]
  · rw [b3]; exact Led.sm_zero fun m hm => by unfold Led.gKI; rw [if_neg (z _ m hm)]
  · rw [b4]; exact Led.sm_zero fun m hm => by unfold Led.gKO; rw [if_neg (z _ m hm)]
end Go.Proofs.Ytiakajheoajepaa
