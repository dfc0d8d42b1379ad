/- What the proof is made of, part 25. -/
import Derived.Test.YtgidkmipecfjhaaTLLBack24
import Derived.Laws.OwnMore
import Derived.Tactics
import Derived.BigQuiet
namespace Go.Proofs.Ytgidkmipecfjhaa
open Led (Acc Mk)
def Rl (A0 : List Acc) (M0 : List Mk) (A : List Acc) (M : List Mk) : Prop :=
  A.length = A0.length ∧ ∀ p (h : p < A.length) (h0 : p < A0.length), A[p].s = A0[p].s ∧ A[p].a - Led.sm (Led.gNF A0[p].s) M = A0[p].a - Led.sm (Led.gNF A0[p].s) M0 ∧ A[p].x - Led.sm (Led.gNK A0[p].s) M = A0[p].x - Led.sm (Led.gNK A0[p].s) M0
theorem rl_refl (A : List Acc) (M : List Mk) : Rl A M A M := ⟨rfl, fun _ _ _ => ⟨rfl, rfl, rfl⟩⟩
theorem rl_change {A0 A : List Acc} {M0 M M' : List Mk} {p : Nat} {y : Acc} {t : ByteArray} {d g : Int} (h : Rl A0 M0 A M) (hu : Led.upB (Led.nm A) = true) (hp : p < A.length) (ht : A[p].s = t) (hy : y.s = t) (ha : y.a = A[p].a + d) (hx : y.x = A[p].x + g)
    (s1 : ∀ s, Led.sm (Led.gNF s) M' = Led.sm (Led.gNF s) M + if t = s then d else 0) (s2 : ∀ s, Led.sm (Led.gNK s) M' = Led.sm (Led.gNK s) M + if t = s then g else 0) : Rl A0 M0 (A.set p y) M' := by
  refine ⟨by rw [List.length_set]; exact h.1, fun j hj h0 => ?_⟩
  rw [List.length_set] at hj
  obtain ⟨e1, e2, e3⟩ := h.2 j hj h0
  rw [s1, s2]
  by_cases e : p = j
  · subst e
    have hts : t = A0[p].s := by rw [← ht, e1]
    rw [List.getElem_set_self, if_pos hts, if_pos hts, hy, ha, hx]
    exact ⟨hts, by omega, by omega⟩
  · have hts : ¬ t = A0[j].s := fun e2 => e (Led.up_one hu (by rw [Led.nm_len]; exact hp) (by rw [Led.nm_len]; exact hj) (by rw [Led.nm_get A p hp, Led.nm_get A j hj, ht, e1, e2]))
    rw [List.getElem_set_ne e, if_neg hts, if_neg hts]
    exact ⟨e1, by omega, by omega⟩
theorem rl_end {A0 A : List Acc} {M0 M : List Mk} {key : ByteArray} (h : Rl A0 M0 A M) (he : endE Act.chUn 2 A M key = 0) (h2 : (atM M key).st = 1) : Rl A0 M0 (endA Act.chUn 2 A M key) (endM 2 M key) := by
  obtain ⟨hm, hk, hh, _⟩ := end_parts he
  have h1 : ¬ (atM M key).st = 2 := by omega
  have hM := (Led.may_iff A M).1 hm
  obtain ⟨hp, hx, hxs, hq, hmx, _, _, ⟨_, hun, _⟩, _⟩ := done_mark hM ((Led.has_iff _ _).1 hh) h2
  unfold endA endM
  rw [if_neg h1, if_neg h1]
  have hps : A[Led.pos (Led.nm A) (atM M key).t].s = (atM M key).t := by rw [hx]; exact hxs
  have g0 : ∀ s, Led.gNF s M[Led.pos (Led.ky M) key] = (if (atM M key).t = s then Led.amF (atM M key) else 0) ∧ Led.gNK s M[Led.pos (Led.ky M) key] = (if (atM M key).t = s then Led.amK (atM M key) else 0) := fun s => by
    rw [hmx, (g_at s _).1, (g_at s _).2, h2]
    simp
  rw [hun]
  refine rl_change h hM.ua hp hps hxs (d := -Led.amF (atM M key)) (g := -Led.amK (atM M key)) ?_ ?_ ?_ ?_
  · rw [hx]; show _ + _ * _ = _; omega
  · rw [hx]; show _ + _ * _ = _; omega
  · intro s
    rw [Led.sm_set _ _ _ hq, (g0 s).1, (g_at s _).1]
    by_cases e : (atM M key).t = s
    · simp [e]; omega
    · simp [e]
  · intro s
    rw [Led.sm_set _ _ _ hq, (g0 s).2, (g_at s _).2]
    by_cases e : (atM M key).t = s
    · simp [e]; omega
    · simp [e]
theorem acc_ext {x y : Acc} (h1 : x.s = y.s) (h2 : x.a = y.a) (h3 : x.b = y.b) (h4 : x.c = y.c) (h5 : x.x = y.x) (h6 : x.y = y.y) (h7 : x.z = y.z) : x = y := by
  cases x; cases y; simp at *; exact ⟨h1, h2, h3, h4, h5, h6, h7⟩
theorem pots_of {A : List Acc} {M : List Mk} (hm : Led.May A M) {x : Acc} (hx : x ∈ A) : x.b = Led.sm (Led.gFI x.s) M ∧ x.c = Led.sm (Led.gFO x.s) M ∧ x.y = Led.sm (Led.gKI x.s) M ∧ x.z = Led.sm (Led.gKO x.s) M := by
  have := hm.po x hx
  unfold Led.potsB at this
  simp only [Bool.and_eq_true, decide_eq_true_eq] at this
  exact ⟨this.1.1.1, this.1.1.2, this.1.2, this.2⟩
theorem rl_one {A0 A A' : List Acc} {M0 M : List Mk} (h : Rl A0 M0 A M) (h' : Rl A0 M0 A' M) (hm : Led.May A M) (hm' : Led.May A' M) : A = A' := by
  refine List.ext_getElem (by rw [h.1, h'.1]) fun p hp hp' => ?_
  have h0 : p < A0.length := by rw [← h.1]; exact hp
  obtain ⟨e1, e2, e3⟩ := h.2 p hp h0
  obtain ⟨f1, f2, f3⟩ := h'.2 p hp' h0
  obtain ⟨b1, b2, b3, b4⟩ := pots_of hm (List.getElem_mem hp)
  obtain ⟨d1, d2, d3, d4⟩ := pots_of hm' (List.getElem_mem hp')
  have es : A[p].s = A'[p].s := by rw [e1, f1]
  refine acc_ext es (by omega) ?_ ?_ (by omega) ?_ ?_
  · rw [b1, d1, es]
  · rw [b2, d2, es]
  · rw [b3, d3, es]
  · rw [b4, d4, es]
def unM (m : Mk) : Mk := { m with st := 2 }
def und (P : Nat → Bool) (M : List Mk) : List Mk := M.mapIdx (fun j m => if P j = true ∧ m.st = 1 then unM m else m)
theorem und_len (P : Nat → Bool) (M : List Mk) : (und P M).length = M.length := by simp [und]
theorem und_get (P : Nat → Bool) (M : List Mk) (j : Nat) (h : j < M.length) : (und P M)[j]'(by rw [und_len]; exact h) = if P j = true ∧ M[j].st = 1 then unM M[j] else M[j] := by simp [und]
theorem und_congr {P P' : Nat → Bool} {M : List Mk} (h : ∀ j (hj : j < M.length), (P j = true ∧ M[j].st = 1) ↔ (P' j = true ∧ M[j].st = 1)) : und P M = und P' M := by
  refine List.ext_getElem (by rw [und_len, und_len]) fun j h1 h2 => ?_
  rw [und_len] at h1
  rw [und_get P M j h1, und_get P' M j h1]
  by_cases e : P j = true ∧ M[j].st = 1
  · rw [if_pos e, if_pos ((h j h1).1 e)]
  · rw [if_neg e, if_neg (fun e2 => e ((h j h1).2 e2))]
theorem und_none (M : List Mk) : und (fun _ => false) M = M := by
  refine List.ext_getElem (und_len _ _) fun j h1 h2 => ?_
  rw [und_get _ M j h2, if_neg (fun e => by cases e.1)]
structure BkI (F : List (ByteArray × Int)) (A0 : List Acc) (M0 : List Mk) (P : Nat → Bool) (A : List Acc) (M : List Mk) : Prop where
  may : Led.May A M
  bal : Bal A M F
  rl : Rl A0 M0 A M
  eq : M = und P M0
theorem BkI.start {F : List (ByteArray × Int)} {A : List Acc} {M : List Mk} (hm : Led.May A M) (hb : Bal A M F) {P : Nat → Bool} (hP : ∀ j, j < M.length → P j = false) : BkI F A M P A M :=
  ⟨hm, hb, rl_refl A M, by
    have := und_congr (P := P) (P' := fun _ => false) (M := M) (fun j hj => by rw [hP j hj])
    rw [this, und_none]⟩
theorem BkI.skip {F : List (ByteArray × Int)} {A0 A : List Acc} {M0 M : List Mk} {P P' : Nat → Bool} (h : BkI F A0 M0 P A M) (hP : ∀ j (hj : j < M0.length), (P j = true ∧ M0[j].st = 1) ↔ (P' j = true ∧ M0[j].st = 1)) : BkI F A0 M0 P' A M :=
  ⟨h.may, h.bal, h.rl, by rw [h.eq]; exact und_congr hP⟩
theorem BkI.step {F : List (ByteArray × Int)} {A0 A : List Acc} {M0 M : List Mk} {P P' : Nat → Bool} (h : BkI F A0 M0 P A M) (k : Nat) (hk : k < M0.length) (h1 : M0[k].st = 1) (hP : P k = false) (hP1 : P' k = true) (hP2 : ∀ j, j < M0.length → j ≠ k → P' j = P j) :
    endE Act.chUn 2 A M M0[k].key = 0 ∧ BkI F A0 M0 P' (endA Act.chUn 2 A M M0[k].key) (endM 2 M M0[k].key) := by
  have hM := h.may
  have hlen : M.length = M0.length := by rw [h.eq, und_len]
  have hkM : k < M.length := by omega
  have hMk : M[k] = M0[k] := by
    have e : M[k] = (und P M0)[k]'(by rw [und_len]; exact hk) := by simp only [h.eq]
    rw [e, und_get P M0 k hk, if_neg (fun e => by rw [hP] at e; cases e.1)]
  have hky : k < (Led.ky M).length := by rw [Led.ky_len]; exact hkM
  have hkk : (Led.ky M)[k] = M0[k].key := by rw [Led.ky_get M k hkM, hMk]
  have hmem : M0[k].key ∈ Led.ky M := by rw [← hkk]; exact List.getElem_mem hky
  have hpos : Led.pos (Led.ky M) M0[k].key = k := Led.pos_eq hM.um k hky hkk
  have hat : atM M M0[k].key = M0[k] := by unfold atM; rw [hpos, List.getD_eq_getElem?_getD, List.getElem?_eq_getElem hkM, ← hMk]; rfl
  have hst : (atM M M0[k].key).st = 1 := by rw [hat]; exact h1
  have hkb : Led.keyB M0[k].key = true := by
    have := hM.om M[k] (List.getElem_mem hkM)
    rw [hMk] at this
    unfold Led.mkOk at this
    simp only [Bool.and_eq_true] at this
    exact this.1.1.1
  obtain ⟨_, _, _, _, _, _, _, ⟨hmv, _, _⟩, _⟩ := done_mark hM hmem hst
  have he : endE Act.chUn 2 A M M0[k].key = 0 := by
    unfold endE
    rw [(Led.may_iff A M).2 hM, hkb, show (true && true) = true from rfl, if_pos rfl, (Led.has_iff _ _).2 hmem, if_pos rfl, if_neg (by omega), if_pos hst]
    exact hmv
  refine ⟨he, end_may (Or.inl ⟨rfl, rfl⟩) he, bal_end (Or.inl ⟨rfl, rfl⟩) h.bal he, rl_end h.rl he hst, ?_⟩
  unfold endM
  rw [if_neg (by omega), hpos, hat]
  refine List.ext_getElem (by rw [List.length_set, und_len]; exact hlen) fun j hj hj' => ?_
  rw [und_len] at hj'
  rw [und_get P' M0 j hj']
  by_cases e : k = j
  · subst e
    rw [List.getElem_set_self, if_pos ⟨hP1, h1⟩]; rfl
  · rw [List.getElem_set_ne e, hP2 j hj' (fun e2 => e e2.symm)]
    have e3 : M[j]'(by omega) = (und P M0)[j]'(by rw [und_len]; exact hj') := by simp only [h.eq]
    rw [e3, und_get P M0 j hj']
theorem BkI.one {F : List (ByteArray × Int)} {A0 A A' : List Acc} {M0 M M' : List Mk} {P P' : Nat → Bool} (h : BkI F A0 M0 P A M) (h' : BkI F A0 M0 P' A' M') (hP : ∀ j, j < M0.length → P j = true) (hP' : ∀ j, j < M0.length → P' j = true) : A' = A ∧ M' = M := by
  have e : M' = M := by
    rw [h.eq, h'.eq]
    exact und_congr fun j hj => by rw [hP j hj, hP' j hj]
  subst e
  exact ⟨(rl_one h.rl h'.rl h.may h'.may).symm, rfl⟩
theorem BkI.zero {F : List (ByteArray × Int)} {A0 A : List Acc} {M0 M : List Mk} {P : Nat → Bool} (h : BkI F A0 M0 P A M) (hP : ∀ j, j < M0.length → P j = true) {x : Acc} (hx : x ∈ A) : x.b = 0 ∧ x.c = 0 ∧ x.y = 0 ∧ x.z = 0 := by
  have hn : ∀ m ∈ M, ¬ m.st = 1 := by
    intro m hm
    rw [h.eq] at hm
    obtain ⟨j, hj, rfl⟩ := List.getElem_of_mem hm
    rw [und_len] at hj
    rw [und_get P M0 j hj]
    split
    · show ¬ (2 : Int) = 1; decide
    · rename_i e
      exact fun e2 => e ⟨hP j hj, e2⟩
  have z : ∀ s, ∀ m ∈ M, ¬ Led.hit s m = true := fun s m hm e => by
    unfold Led.hit at e
    simp only [Bool.and_eq_true, decide_eq_true_eq] at e
    exact hn m hm e.2
  obtain ⟨b1, b2, b3, b4⟩ := pots_of h.may hx
  refine ⟨?_, ?_, ?_, ?_⟩
  · rw [b1]; exact Led.sm_zero fun m hm => by unfold Led.gFI; rw [if_neg (z _ m hm)]
  · rw [b2]; exact Led.sm_zero fun m hm => by unfold Led.gFO; rw [if_neg (z _ m hm)]
  · rw [b3]; exact Led.sm_zero fun m hm => by unfold Led.gKI; rw [if_neg (z _ m hm)]
  · rw [b4]; exact Led.sm_zero fun m hm => by unfold Led.gKO; rw [if_neg (z _ m hm)]
end Go.Proofs.Ytgidkmipecfjhaa
namespace Go.Proofs.Ytgidkmipecfjhaa
theorem append_gone {P : Program} {w : World} {ops : Array Oper} {rest : List Oper} {o : Oper} {a : Act} {Q : Exit → Act → World → Prop} (hgd : o.guard = none) (s x : Operand) (t : TypeId)
    (ho : o.op = .call { callee := .builtin .append, args := #[s, x], argTypes := #[t, t] })
    (base : Nat) (e : TypeId) (i : TypeInfo) (size : Nat) (ht : P.underlying t = some (.slice e)) (hi : P.info? e = some i)
    (v : Value) (n : Nat) (xs : List Value) (hs : a.eval s = v) (hown : w.ownsRow base e size v n xs) (c : Nat) (hx : a.eval x = .slice none 0 c)
    (h : wpList P ops Q rest (a.put o.dst v) w) : wpList P ops Q (o :: rest) a w := by
  refine wpList_plain hgd fun K hK => ?_
  have hrun : (Builtin.append_ #[t, t] o.type #[v, .slice none 0 c]).run P w = .ok v w := by
    rcases hown.2 with ⟨rfl, rfl⟩ | ⟨g, cap, cur, rfl, _, _, hnc, _⟩
    · simp [Builtin.append_, run_underlying ht, sizeOf, typeInfo, hi, Builtin.lenOf, Builtin.firstCells]
    · simp [Builtin.append_, run_underlying ht, sizeOf, typeInfo, hi, Builtin.lenOf, Builtin.firstCells, hnc, storeCells]
  unfold Oper.wp
  simp [execOp, ho, resolve, invoke, builtin, hs, hx, hrun, Result.andThen]
  exact hK _ _ h
end Go.Proofs.Ytgidkmipecfjhaa
namespace Go.Proofs.Ytgidkmipecfjhaa
open Go.RowKit
open Led (Acc Mk)
abbrev cashS : ByteArray := ⟨#[99, 97, 115, 104]⟩
abbrev keyS : ByteArray := ⟨#[107]⟩
theorem pos_one (s : ByteArray) : Led.pos [s] s = 0 := by unfold Led.pos; simp [Led.lt_irrefl]
def A1 : List Acc := [⟨cashS, 10, 0, 0, 0, 0, 0⟩]
def A2 : List Acc := [⟨cashS, 6, 0, 4, 0, 0, 0⟩]
def M1 : List Mk := [⟨keyS, 1, cashS, 4, 1⟩]
def M2 : List Mk := [⟨keyS, 1, cashS, 4, 2⟩]
theorem awk_open : openE [] [] cashS 10 = 0 := by decide +kernel
theorem awk_openA : openA [] cashS 10 = A1 := rfl
theorem atA1 : atA A1 cashS = ⟨cashS, 10, 0, 0, 0, 0, 0⟩ := by
  unfold atA; rw [show Led.nm A1 = [cashS] from rfl, pos_one]; rfl
theorem atA2 : atA A2 cashS = ⟨cashS, 6, 0, 4, 0, 0, 0⟩ := by
  unfold atA; rw [show Led.nm A2 = [cashS] from rfl, pos_one]; rfl
theorem atM1 : atM M1 keyS = ⟨keyS, 1, cashS, 4, 1⟩ := by
  unfold atM; rw [show Led.ky M1 = [keyS] from rfl, pos_one]; rfl
theorem awk_do : doE A1 [] keyS 1 cashS 4 = 0 := by
  have h1 : (Led.mayB A1 [] && Led.keyB keyS) = true := by decide +kernel
  have h2 : Act.actB 1 cashS 4 = true := by decide +kernel
  have h3 : Led.hasB (Led.ky []) keyS = false := rfl
  have h4 : Led.hasB (Led.nm A1) cashS = true := by decide +kernel
  unfold doE begE
  rw [if_pos h1, if_pos h2, h3, if_neg (by decide), if_pos h4, if_neg (by decide), atA1]
  decide +kernel
theorem awk_doA : doA A1 [] keyS 1 cashS 4 = A2 := by
  unfold doA
  rw [if_neg (show ¬ Led.hasB (Led.ky []) keyS = true by decide), atA1, show Led.nm A1 = [cashS] from rfl, pos_one]
  rfl
theorem awk_doM : doM [] keyS 1 cashS 4 = M1 := by
  unfold doM
  rw [if_neg (show ¬ Led.hasB (Led.ky []) keyS = true by decide)]
  rfl
theorem awk_may2 : Led.May A2 M1 := by have := do_may awk_do; rw [awk_doA, awk_doM] at this; exact this
theorem awk_again : doE A2 M1 keyS 1 cashS 4 = 0 ∧ doA A2 M1 keyS 1 cashS 4 = A2 ∧ doM M1 keyS 1 cashS 4 = M1 := by
  have := do_again awk_do; rw [awk_doA, awk_doM] at this; exact this
theorem awk_five : doE A2 M1 keyS 1 cashS 5 = 72 := by
  have h1 : (Led.mayB A2 M1 && Led.keyB keyS) = true := by rw [(Led.may_iff _ _).2 awk_may2]; decide +kernel
  have h2 : Act.actB 1 cashS 5 = true := by decide +kernel
  have h3 : Led.hasB (Led.ky M1) keyS = true := by decide +kernel
  unfold doE
  rw [if_pos h1, if_pos h2, if_pos h3, atM1, if_neg (by decide +kernel)]
theorem awk_end : endE Act.chUn 2 A2 M1 keyS = 0 := by
  have h1 : (Led.mayB A2 M1 && Led.keyB keyS) = true := by rw [(Led.may_iff _ _).2 awk_may2]; decide +kernel
  have h3 : Led.hasB (Led.ky M1) keyS = true := by decide +kernel
  unfold endE
  rw [if_pos h1, if_pos h3, atM1, if_neg (by decide), if_pos rfl, atA2]
  decide +kernel
theorem awk_endA : endA Act.chUn 2 A2 M1 keyS = A1 := by
  unfold endA
  rw [atM1, if_neg (by decide), atA2, show Led.nm A2 = [cashS] from rfl, pos_one]
  rfl
theorem awk_endM : endM 2 M1 keyS = M2 := by
  unfold endM
  rw [atM1, if_neg (by decide), show Led.ky M1 = [keyS] from rfl, pos_one]
  rfl
theorem awk_may3 : Led.May A1 M2 := by have := end_may (Or.inl ⟨rfl, rfl⟩) awk_end; rw [awk_endA, awk_endM] at this; exact this
theorem awk_find : findE A2 M1 cashS = ⟨cashS, 6, 0, 4, 0, 0, 0⟩ ∧ findB A2 M1 cashS = true := by
  have h4 : Led.hasB (Led.nm A2) cashS = true := by decide +kernel
  unfold findE findB
  rw [(Led.may_iff _ _).2 awk_may2, h4, if_pos rfl, if_pos rfl, show Led.nm A2 = [cashS] from rfl, pos_one]
  exact ⟨rfl, rfl⟩
theorem awk_state : stateE A1 M2 keyS = 2 := by
  have h4 : Led.hasB (Led.ky M2) keyS = true := by decide +kernel
  unfold stateE
  rw [(Led.may_iff _ _).2 awk_may3, h4, if_pos rfl, if_pos rfl, show Led.ky M2 = [keyS] from rfl, pos_one]
  rfl
theorem awk_none : mayL [accZ] [] = 2 := by decide +kernel
theorem awkOpen (w : World) : Calls Try.prog 18 #[.agg #[.slice none 0 0, .slice none 0 0], .string ⟨#[99, 97, 115, 104]⟩, .int .i64 10] w fun e w' => ∃ a1 c1 a2 c2, e = .returned (.tuple #[.agg #[.slice a1 1 c1, .slice a2 0 c2], .int .i64 0]) ∧ LedAt w' a1 a2 A1 [] ∧ Gr w w' :=
  (open_yes [] [] cashS 10 none 0 none 0 w ⟨RowAt.nil, RowAt.nil, by simp, by simp, by simp, by simp⟩ (by decide) awk_open).mono (by
    rintro e w2 ⟨v1, v2, rfl, o1, o2, g2⟩
    rw [awk_openA] at o1
    have o1 : w2.ownsRow w.heap.size _ 7 v1 A1.length (A1.flatMap accC) := o1
    obtain ⟨a1, c1, rfl, _, _, q1, _, _⟩ := own_row o1
    obtain ⟨a2, c2, rfl, _, _, q2, _, _⟩ := own_row o2
    exact ⟨a1, c1, a2, c2, rfl, led_of (by have := open_may awk_open; rw [awk_openA] at this; exact this) q1 q2, g2⟩)
theorem awkDo (a1 : Option Addr) (c1 : Nat) (a2 : Option Addr) (c2 : Nat) (w : World) (h : LedAt w a1 a2 A1 []) : Calls Try.prog 20 #[.agg #[.slice a1 1 c1, .slice a2 0 c2], .string ⟨#[107]⟩, .agg #[.int .i64 1, .string ⟨#[99, 97, 115, 104]⟩, .int .i64 4]] w fun e w' => ∃ a1 c1 a2 c2, e = .returned (.tuple #[.agg #[.slice a1 1 c1, .slice a2 1 c2], .int .i64 0]) ∧ LedAt w' a1 a2 A2 M1 ∧ (∀ a, a1 = some a → w.heap.size ≤ a.block) ∧ (∀ a, a2 = some a → w.heap.size ≤ a.block) ∧ Gr w w' :=
  (do_yes A1 [] keyS 1 4 cashS a1 c1 a2 c2 w h (by decide) (by decide) awk_do).mono (by
    rintro e w2 ⟨v1, v2, rfl, o1, o2, g2⟩
    rw [awk_doA] at o1
    rw [awk_doM] at o2
    obtain ⟨a1, c1, rfl, _, _, q1, n1, _⟩ := own_row o1
    obtain ⟨a2, c2, rfl, _, _, q2, n2, _⟩ := own_row o2
    exact ⟨a1, c1, a2, c2, rfl, led_of awk_may2 q1 q2, n1, n2, g2⟩)
theorem awkDo2 (a1 : Option Addr) (c1 : Nat) (a2 : Option Addr) (c2 : Nat) (w : World) (h : LedAt w a1 a2 A2 M1) : Calls Try.prog 20 #[.agg #[.slice a1 1 c1, .slice a2 1 c2], .string ⟨#[107]⟩, .agg #[.int .i64 1, .string ⟨#[99, 97, 115, 104]⟩, .int .i64 4]] w fun e w' => ∃ a1 c1 a2 c2, e = .returned (.tuple #[.agg #[.slice a1 1 c1, .slice a2 1 c2], .int .i64 0]) ∧ LedAt w' a1 a2 A2 M1 ∧ (∀ a, a1 = some a → w.heap.size ≤ a.block) ∧ (∀ a, a2 = some a → w.heap.size ≤ a.block) ∧ Gr w w' :=
  (do_yes A2 M1 keyS 1 4 cashS a1 c1 a2 c2 w h (by decide) (by decide) awk_again.1).mono (by
    rintro e w2 ⟨v1, v2, rfl, o1, o2, g2⟩
    rw [awk_again.2.1] at o1
    rw [awk_again.2.2] at o2
    obtain ⟨a1, c1, rfl, _, _, q1, n1, _⟩ := own_row o1
    obtain ⟨a2, c2, rfl, _, _, q2, n2, _⟩ := own_row o2
    exact ⟨a1, c1, a2, c2, rfl, led_of awk_may2 q1 q2, n1, n2, g2⟩)
theorem awkDo3 (a1 : Option Addr) (c1 : Nat) (a2 : Option Addr) (c2 : Nat) (w : World) (h : LedAt w a1 a2 A2 M1) : Calls Try.prog 20 #[.agg #[.slice a1 1 c1, .slice a2 1 c2], .string ⟨#[107]⟩, .agg #[.int .i64 1, .string ⟨#[99, 97, 115, 104]⟩, .int .i64 5]] w fun e w' => e = .returned (.tuple #[.agg #[.slice none 0 0, .slice none 0 0], .int .i64 72]) ∧ Gr w w' := by
  have := do_no A2 M1 keyS 1 5 cashS a1 c1 a2 c2 w h (by decide) (by decide) (by rw [awk_five]; decide)
  rw [awk_five] at this
  exact this
theorem awkUndo (a1 : Option Addr) (c1 : Nat) (a2 : Option Addr) (c2 : Nat) (w : World) (h : LedAt w a1 a2 A2 M1) : Calls Try.prog 22 #[.agg #[.slice a1 1 c1, .slice a2 1 c2], .string ⟨#[107]⟩] w fun e w' => ∃ a1 c1 a2 c2, e = .returned (.tuple #[.agg #[.slice a1 1 c1, .slice a2 1 c2], .int .i64 0]) ∧ LedAt w' a1 a2 A1 M2 ∧ Gr w w' :=
  (ownU_yes A2 M1 keyS a1 c1 a2 c2 w h (by decide) awk_end).mono (by
    rintro e w2 ⟨v1, v2, rfl, o1, o2, g2⟩
    rw [awk_endA] at o1
    rw [awk_endM] at o2
    obtain ⟨a1, c1, rfl, _, _, q1, _, _⟩ := own_row o1
    obtain ⟨a2, c2, rfl, _, _, q2, _, _⟩ := own_row o2
    exact ⟨a1, c1, a2, c2, rfl, led_of awk_may3 q1 q2, g2⟩)
theorem awkFind (a1 : Option Addr) (c1 : Nat) (a2 : Option Addr) (c2 : Nat) (w : World) (h : LedAt w a1 a2 A2 M1) : Calls Try.prog 10 #[.agg #[.slice a1 1 c1, .slice a2 1 c2], .string ⟨#[99, 97, 115, 104]⟩] w fun e w' => e = .returned (.tuple #[.agg #[.string ⟨#[99, 97, 115, 104]⟩, .int .i64 6, .int .i64 0, .int .i64 4, .int .i64 0, .int .i64 0, .int .i64 0], .bool true]) ∧ Gr w w' := by
  have := find7_any A2 M1 cashS a1 c1 a2 c2 w h
  rw [awk_find.1, awk_find.2] at this
  exact this
theorem awkState (a1 : Option Addr) (c1 : Nat) (a2 : Option Addr) (c2 : Nat) (w : World) (h : LedAt w a1 a2 A1 M2) : Calls Try.prog 16 #[.agg #[.slice a1 1 c1, .slice a2 1 c2], .string ⟨#[107]⟩] w fun e w' => e = .returned (.int .i64 2) ∧ Gr w w' := by
  have := state7_any A1 M2 keyS a1 c1 a2 c2 w h
  rw [awk_state] at this
  exact this
theorem awkMay (a1 : Option Addr) (c1 : Nat) (a2 : Option Addr) (c2 : Nat) (w : World) (h : AccsAt w a1 [accZ]) : Calls Try.prog 14 #[.agg #[.slice a1 1 c1, .slice a2 0 c2]] w fun e w' => e = .returned (.int .i64 2) ∧ Gr w w' := by
  have := may7_any [accZ] [] a1 c1 a2 c2 w h RowAt.nil (by intro x hx; simp at hx; subst hx; unfold inA inI accZ; decide +kernel) (by simp) (by simp) (by simp)
  rw [awk_none] at this
  exact this
end Go.Proofs.Ytgidkmipecfjhaa
namespace Go.Proofs.Ytgidkmipecfjhaa
open Go.RowKit
open Led (Acc Mk)
set_option maxHeartbeats 4000000 in
set_option maxRecDepth 100000 in
theorem same7_eq (A : List Acc) (M : List Mk) (a1 a2 b1 b2 : Option Addr) (c1 c2 c3 c4 : Nat) (w : World) (hA : AccsAt w a1 A) (hM : MksAt w a2 M) (hA' : AccsAt w b1 A) (hM' : MksAt w b2 M) (hnA : A.length ≤ 9223372036854775807) (hnM : M.length ≤ 9223372036854775807) :
    Calls Try.prog 25 #[.agg #[.slice a1 A.length c1, .slice a2 M.length c2], .agg #[.slice b1 A.length c3, .slice b2 M.length c4]] w fun e w' => e = .returned (.bool true) ∧ Gr w w' := by
  have H1 : Hid (AccsAt w a1 A) := hA
  have H2 : Hid (MksAt w a2 M) := hM
  have H3 : Hid (AccsAt w b1 A) := hA'
  have H4 : Hid (MksAt w b2 M) := hM'
  clear hA hM hA' hM'
  go_enter Try.func25, Try.ntmps25
  go_wp2
  have HBX : Hid (TwoAt ((w.alloc (.cells #[.slice a1 A.length c1, .slice a2 M.length c2] 25)).alloc (.cells #[.slice b1 A.length c3, .slice b2 M.length c4] 25)) w.heap.size (.slice a1 A.length c1) (.slice a2 M.length c2)) := (TwoAt.new w _ _ _ _ rfl).gr (Gr.refl _).alloc
  have HBY : Hid (TwoAt ((w.alloc (.cells #[.slice a1 A.length c1, .slice a2 M.length c2] 25)).alloc (.cells #[.slice b1 A.length c3, .slice b2 M.length c4] 25)) (w.heap.size + 1) (.slice b1 A.length c3) (.slice b2 M.length c4)) := TwoAt.new _ _ _ _ (w.heap.size + 1) (by simp)
  go_loopw [5] (fun s5 wr => ∃ k : Nat, s5 = .int .i64 k ∧ k ≤ A.length ∧ TwoAt wr w.heap.size (.slice a1 A.length c1) (.slice a2 M.length c2) ∧ TwoAt wr (w.heap.size + 1) (.slice b1 A.length c3) (.slice b2 M.length c4) ∧ Gr w wr) (fun s5 _ => A.length - (intOf s5).toNat)
  case atStart => exact ⟨0, rfl, Nat.zero_le _, HBX.out, HBY.out, (Gr.refl _).alloc.alloc⟩
  case round =>
    clear HBX HBY
    obtain ⟨k, rfl, hk, hX, hY, hg⟩ := hrel
    have HX : Hid (TwoAt wr w.heap.size (.slice a1 A.length c1) (.slice a2 M.length c2)) := hX
    have HY : Hid (TwoAt wr (w.heap.size + 1) (.slice b1 A.length c3) (.slice b2 M.length c4)) := hY
    have HG : Hid (Gr w wr) := hg
    obtain ⟨x0, x1, _, _, xl⟩ := hX
    obtain ⟨y0, y1, _, _, yl⟩ := hY
    clear hg
    by_cases hlt : k < A.length
    · obtain ⟨b, off, rfl, hb, d0, d1, d2, d3, d4, d5, d6⟩ := (AccsAt.at H1.out k hlt)
      obtain ⟨b', off', rfl, hb', e0, e1, e2, e3, e4, e5, e6⟩ := (AccsAt.at H3.out k hlt)
      have d0 := HG.out.keep d0
      have d1 := HG.out.keep d1
      have d2 := HG.out.keep d2
      have d3 := HG.out.keep d3
      have d4 := HG.out.keep d4
      have d5 := HG.out.keep d5
      have d6 := HG.out.keep d6
      have e0 := HG.out.keep e0
      have e1 := HG.out.keep e1
      have e2 := HG.out.keep e2
      have e3 := HG.out.keep e3
      have e4 := HG.out.keep e4
      have e5 := HG.out.keep e5
      have e6 := HG.out.keep e6
      have hbw : b < wr.heap.size := Nat.lt_of_lt_of_le hb HG.out.size
      have hbw' : b' < wr.heap.size := Nat.lt_of_lt_of_le hb' HG.out.size
      have hki : (k : Int) < (A.length : Int) := by omega
      generalize A[k] = x at *
      go_wp2_with fail
      go_quiet (fail)
      go_wp2
      go_roundw
      case rel => exact ⟨k + 1, by go_num, by omega, HX.out.gr ((Gr.refl _).drewN _), HY.out.gr ((Gr.refl _).drewN _), HG.out.drewN _⟩
      case measure => simp [intOf]; omega
    · have hge : ¬ ((k : Int) < (A.length : Int)) := by omega
      go_wp2
      go_loopw [6] (fun s6 wr => ∃ k : Nat, s6 = .int .i64 k ∧ k ≤ M.length ∧ TwoAt wr w.heap.size (.slice a1 A.length c1) (.slice a2 M.length c2) ∧ TwoAt wr (w.heap.size + 1) (.slice b1 A.length c3) (.slice b2 M.length c4) ∧ Gr w wr) (fun s6 _ => M.length - (intOf s6).toNat)
      case atStart => exact ⟨0, rfl, Nat.zero_le _, HX.out, HY.out, HG.out⟩
      case round =>
        clear HX HY HG x0 x1 xl y0 y1 yl
        obtain ⟨k, rfl, hk, hX, hY, hg⟩ := hrel
        have HX : Hid (TwoAt wr w.heap.size (.slice a1 A.length c1) (.slice a2 M.length c2)) := hX
        have HY : Hid (TwoAt wr (w.heap.size + 1) (.slice b1 A.length c3) (.slice b2 M.length c4)) := hY
        have HG : Hid (Gr w wr) := hg
        obtain ⟨x0, x1, _, _, xl⟩ := hX
        obtain ⟨y0, y1, _, _, yl⟩ := hY
        clear hg
        by_cases hlt : k < M.length
        · obtain ⟨b, off, rfl, hb, d0, d1, d2, d3, d4⟩ := (MksAt.at H2.out k hlt)
          obtain ⟨b', off', rfl, hb', e0, e1, e2, e3, e4⟩ := (MksAt.at H4.out k hlt)
          have d0 := HG.out.keep d0
          have d1 := HG.out.keep d1
          have d2 := HG.out.keep d2
          have d3 := HG.out.keep d3
          have d4 := HG.out.keep d4
          have e0 := HG.out.keep e0
          have e1 := HG.out.keep e1
          have e2 := HG.out.keep e2
          have e3 := HG.out.keep e3
          have e4 := HG.out.keep e4
          have hbw : b < wr.heap.size := Nat.lt_of_lt_of_le hb HG.out.size
          have hbw' : b' < wr.heap.size := Nat.lt_of_lt_of_le hb' HG.out.size
          have hki : (k : Int) < (M.length : Int) := by omega
          generalize M[k] = x at *
          go_wp2_with fail
          go_quiet (fail)
          go_wp2
          go_roundw
          case rel => exact ⟨k + 1, by go_num, by omega, HX.out.gr ((Gr.refl _).drewN _), HY.out.gr ((Gr.refl _).drewN _), HG.out.drewN _⟩
          case measure => simp [intOf]; omega
        · have hge : ¬ ((k : Int) < (M.length : Int)) := by omega
          go_wp2
          go_ret
          exact ⟨rfl, HG.out⟩
end Go.Proofs.Ytgidkmipecfjhaa
namespace Go.Proofs.Ytgidkmipecfjhaa
open Go.RowKit
open Led (Acc Mk)
theorem acc_alone {w : World} {g : Nat} {x : Acc} (h : AccAt w g (.string x.s) (.int .i64 x.a) (.int .i64 x.b) (.int .i64 x.c) (.int .i64 x.x) (.int .i64 x.y) (.int .i64 x.z)) : AccsAt w (some ⟨g, 0, none⟩) [x] := by
  have hb := h.lt
  obtain ⟨c0, c1, c2, c3, c4, c5, c6⟩ := h.cells
  intro j u hu
  rw [show [x].flatMap accC = accC x by simp] at hu
  unfold accC at hu
  match j, hu with
  | 0, hu => cases hu; exact ⟨g, 0, rfl, hb, c0⟩
  | 1, hu => cases hu; exact ⟨g, 0, rfl, hb, c1⟩
  | 2, hu => cases hu; exact ⟨g, 0, rfl, hb, c2⟩
  | 3, hu => cases hu; exact ⟨g, 0, rfl, hb, c3⟩
  | 4, hu => cases hu; exact ⟨g, 0, rfl, hb, c4⟩
  | 5, hu => cases hu; exact ⟨g, 0, rfl, hb, c5⟩
  | 6, hu => cases hu; exact ⟨g, 0, rfl, hb, c6⟩
  | j + 7, hu => simp at hu
theorem LedAt.setFar {w : World} {a1 a2 : Option Addr} {A : List Acc} {M : List Mk} (h : LedAt w a1 a2 A M) (p : Addr) (v : Value) (h1 : ∀ a, a1 = some a → p.block ≠ a.block) (h2 : ∀ a, a2 = some a → p.block ≠ a.block) : LedAt (w.setCell p v) a1 a2 A M :=
  ⟨h.a.setFar p v h1, h.m.setFar p v h2, h.ra, h.rm, h.la, h.lm⟩
set_option maxHeartbeats 4000000 in
set_option maxRecDepth 100000 in
theorem awake_any (w : World) : Calls Try.prog 9 #[] w fun e w' => e = .returned (.bool true) ∧ Gr w w' := by
  go_enter Try.func9, Try.ntmps9
  go_wp2_with fail
  refine (awkOpen _).mono ?_
  rintro e w1 ⟨x1, y1, x2, y2, rfl, hl1, hg1⟩
  have HL1 : Hid (LedAt w1 x1 x2 A1 []) := hl1
  have g1 : Gr w w1 := hg1
  clear hl1 hg1
  go_wp2_with fail
  refine (awkDo x1 y1 x2 y2 _ (HL1.out.gr (Gr.refl _).alloc.alloc)).mono ?_
  rintro e w2 ⟨p1, q1, p2, q2, rfl, hl2, hf1, hf2, hg2⟩
  have HL2 : Hid (LedAt w2 p1 p2 A2 M1) := hl2
  have HF1 : Hid (∀ a, p1 = some a → w1.heap.size + 1 ≠ a.block) := fun a e => by have := hf1 a e; simp at this; omega
  have HF2 : Hid (∀ a, p2 = some a → w1.heap.size + 1 ≠ a.block) := fun a e => by have := hf2 a e; simp at this; omega
  have HB2 : Hid (BoxAt w2 (w1.heap.size + 1) _ _ _) := (BoxAt.new (w1.alloc _) _ _ _ _ (w1.heap.size + 1) (by simp)).gr hg2
  have g2 : Gr w w2 := g1.alloc.alloc.trans hg2
  have z1 := g1.size
  have z2 := hg2.size
  simp at z2
  obtain ⟨a0, a1, a2, af0, af1, af2, al⟩ := HB2.out
  clear hl2 hg2 hf1 hf2 HL1 g1
  go_wp2_with fail
  refine (awkDo2 p1 q1 p2 q2 _ (HL2.out.gr (Gr.refl _).alloc)).mono ?_
  rintro e w3 ⟨s1, t1, s2, t2, rfl, hl3, hf1, hf2, hg3⟩
  have HL3 : Hid (LedAt w3 p1 p2 A2 M1) := (HL2.out.gr (Gr.refl _).alloc).gr hg3
  have HN3 : Hid (LedAt w3 s1 s2 A2 M1) := hl3
  have HE1 : Hid (∀ a, s1 = some a → w1.heap.size + 1 ≠ a.block) := fun a e => by have := hf1 a e; simp at this; omega
  have HE2 : Hid (∀ a, s2 = some a → w1.heap.size + 1 ≠ a.block) := fun a e => by have := hf2 a e; simp at this; omega
  have HB3 : Hid (BoxAt w3 (w1.heap.size + 1) _ _ _) := (HB2.out.gr (Gr.refl _).alloc).gr hg3
  have HM3 : Hid (TwoAt w3 w2.heap.size _ _) := (TwoAt.new w2 _ _ _ _ rfl).gr hg3
  have g3 : Gr w w3 := g2.alloc.trans hg3
  have z3 := hg3.size
  simp at z3
  clear a0 a1 a2 af0 af1 af2 al
  obtain ⟨a0, a1, a2, af0, af1, af2, al⟩ := HB3.out
  obtain ⟨m0, m1, _, _, ml⟩ := HM3.out
  clear hl3 hg3 hf1 hf2 g2 HL2
  go_wp2_with fail
  have gs : Gr w ((w3.setCell ⟨w1.heap.size + 1, 2, none⟩ (.int .i64 5)).alloc (.cells #[.slice s1 1 t1, .slice s2 1 t2] 25)) := (g3.set _ (by simp; omega) _).alloc
  have HLs : Hid (LedAt ((w3.setCell ⟨w1.heap.size + 1, 2, none⟩ (.int .i64 5)).alloc (.cells #[.slice s1 1 t1, .slice s2 1 t2] 25)) p1 p2 A2 M1) := (HL3.out.setFar _ _ HF1.out HF2.out).gr (Gr.refl _).alloc
  have HNs : Hid (LedAt ((w3.setCell ⟨w1.heap.size + 1, 2, none⟩ (.int .i64 5)).alloc (.cells #[.slice s1 1 t1, .slice s2 1 t2] 25)) s1 s2 A2 M1) := (HN3.out.setFar _ _ HE1.out HE2.out).gr (Gr.refl _).alloc
  have HMs : Hid (TwoAt ((w3.setCell ⟨w1.heap.size + 1, 2, none⟩ (.int .i64 5)).alloc (.cells #[.slice s1 1 t1, .slice s2 1 t2] 25)) w2.heap.size _ _) := (HM3.out.far _ _ (by simp; omega)).gr (Gr.refl _).alloc
  have HQs : Hid (TwoAt ((w3.setCell ⟨w1.heap.size + 1, 2, none⟩ (.int .i64 5)).alloc (.cells #[.slice s1 1 t1, .slice s2 1 t2] 25)) w3.heap.size _ _) := TwoAt.new _ _ _ _ w3.heap.size (by simp)
  clear HL3 HN3 HM3 HB3 HB2 HF1 HF2 HE1 HE2 g3
  refine (awkDo3 p1 q1 p2 q2 _ HLs.out).mono ?_
  rintro e w4 ⟨rfl, hg4⟩
  have HL4 : Hid (LedAt w4 p1 p2 A2 M1) := HLs.out.gr hg4
  have HN4 : Hid (LedAt w4 s1 s2 A2 M1) := HNs.out.gr hg4
  have HM4 : Hid (TwoAt w4 w2.heap.size _ _) := HMs.out.gr hg4
  have HQ4 : Hid (TwoAt w4 w3.heap.size _ _) := HQs.out.gr hg4
  have g4 : Gr w w4 := gs.trans hg4
  have z4 := hg4.size
  simp at z4
  clear a0 a1 a2 af0 af1 af2 al m0 m1 ml
  obtain ⟨m0, m1, _, _, ml⟩ := HM4.out
  clear hg4 HLs HNs HMs HQs gs
  go_wp2_with fail
  refine (awkUndo p1 q1 p2 q2 _ (HL4.out.gr (Gr.refl _).alloc)).mono ?_
  rintro e w5 ⟨u1, v1, u2, v2, rfl, hl5, hg5⟩
  have HU5 : Hid (LedAt w5 u1 u2 A1 M2) := hl5
  have HL5 : Hid (LedAt w5 p1 p2 A2 M1) := (HL4.out.gr (Gr.refl _).alloc).gr hg5
  have HN5 : Hid (LedAt w5 s1 s2 A2 M1) := (HN4.out.gr (Gr.refl _).alloc).gr hg5
  have HM5 : Hid (TwoAt w5 w2.heap.size _ _) := (HM4.out.gr (Gr.refl _).alloc).gr hg5
  have HQ5 : Hid (TwoAt w5 w3.heap.size _ _) := (HQ4.out.gr (Gr.refl _).alloc).gr hg5
  have g5 : Gr w w5 := g4.alloc.trans hg5
  clear m0 m1 ml
  obtain ⟨m0, m1, _, _, ml⟩ := HM5.out
  clear hg5 hl5 HL4 HN4 HM4 HQ4 g4
  go_wp2_with fail
  refine (awkFind p1 q1 p2 q2 _ (HL5.out.gr (Gr.refl _).alloc)).mono ?_
  rintro e w6 ⟨rfl, hg6⟩
  have HU6 : Hid (LedAt w6 u1 u2 A1 M2) := (HU5.out.gr (Gr.refl _).alloc).gr hg6
  have HL6 : Hid (LedAt w6 p1 p2 A2 M1) := (HL5.out.gr (Gr.refl _).alloc).gr hg6
  have HN6 : Hid (LedAt w6 s1 s2 A2 M1) := (HN5.out.gr (Gr.refl _).alloc).gr hg6
  have HM6 : Hid (TwoAt w6 w2.heap.size _ _) := (HM5.out.gr (Gr.refl _).alloc).gr hg6
  have HQ6 : Hid (TwoAt w6 w3.heap.size _ _) := (HQ5.out.gr (Gr.refl _).alloc).gr hg6
  have HV6 : Hid (TwoAt w6 w5.heap.size _ _) := (TwoAt.new w5 _ _ _ _ rfl).gr hg6
  have g6 : Gr w w6 := g5.alloc.trans hg6
  clear m0 m1 ml
  obtain ⟨m0, m1, _, _, ml⟩ := HM6.out
  obtain ⟨n0, n1, _, _, nl⟩ := HQ6.out
  clear hg6 HL5 HN5 HM5 HQ5 HU5 g5
  go_wp2_with fail
  refine (same7_eq A2 M1 p1 p2 s1 s2 q1 q2 t1 t2 _ (HL6.out.gr (Gr.refl _).alloc).a (HL6.out.gr (Gr.refl _).alloc).m (HN6.out.gr (Gr.refl _).alloc).a (HN6.out.gr (Gr.refl _).alloc).m (by decide) (by decide)).mono ?_
  rintro e w7 ⟨rfl, hg7⟩
  have HU7 : Hid (LedAt w7 u1 u2 A1 M2) := (HU6.out.gr (Gr.refl _).alloc).gr hg7
  have HV7 : Hid (TwoAt w7 w5.heap.size _ _) := (HV6.out.gr (Gr.refl _).alloc).gr hg7
  have HX7 : Hid (AccAt w7 w6.heap.size _ _ _ _ _ _ _) := (AccAt.new w6 _ _ _ _ _ _ _ _ _ rfl).gr hg7
  have g7 : Gr w w7 := g6.alloc.trans hg7
  clear m0 m1 ml n0 n1 nl
  obtain ⟨v0, v3, _, _, vl⟩ := HV7.out
  clear hg7 HL6 HN6 HM6 HQ6 HV6 HU6 g6
  go_wp2_with fail
  refine (awkState u1 v1 u2 v2 _ HU7.out).mono ?_
  rintro e w8 ⟨rfl, hg8⟩
  have HX8 : Hid (AccAt w8 w6.heap.size _ _ _ _ _ _ _) := HX7.out.gr hg8
  have g8 : Gr w w8 := g7.trans hg8
  obtain ⟨c0, c1, c2, c3, c4, c5, c6⟩ := HX8.out.cells
  have cl := HX8.out.lt
  clear v0 v3 vl hg8 HU7 HV7 HX7 g7
  go_wp2_with fail
  refine (awkMay _ 1 none 0 _ (acc_alone (x := accZ) (AccAt.new w8 _ _ _ _ _ _ _ _ _ rfl))).mono ?_
  rintro e w9 ⟨rfl, hg9⟩
  have g9 : Gr w w9 := g8.alloc.trans hg9
  clear hg9 g8 HX8
  go_wp2
  go_ret
  exact ⟨rfl, g9⟩
end Go.Proofs.Ytgidkmipecfjhaa
namespace Go.Proofs.Ytgidkmipecfjhaa
open Go.RowKit
set_option maxHeartbeats 2000000 in
set_option maxRecDepth 100000 in
theorem few_any (T : List Cal) (ad : Option Addr) (cap : Nat) (w : World) (h : CalsAt w ad T) (hn : T.length ≤ 9223372036854775807) :
    Calls Try.prog 26 #[.slice ad T.length cap] w fun e w' => e = .returned (.bool (decide (T.length ≤ 120) && T.all (fun q => decide (q.key.size ≤ 1000)))) ∧ Gr w w' := by
  have H : Hid (CalsAt w ad T) := h
  clear h
  by_cases hlen : (120 : Int) < (T.length : Int)
  · have hd : decide (T.length ≤ 120) = false := decide_eq_false (by omega)
    rw [hd, Bool.false_and]
    go_enter Try.func26, Try.ntmps26
    go_wp2
    go_ret
    exact ⟨rfl, Gr.refl _⟩
  have hd : decide (T.length ≤ 120) = true := decide_eq_true (by omega)
  rw [hd, Bool.true_and]
  clear hd
  go_enter Try.func26, Try.ntmps26
  go_wp2
  go_loopw [3] (fun ix wr => ∃ k : Nat, k ≤ T.length ∧ ix = .int .i64 k ∧ wr = w ∧ ∀ j (h : j < T.length), j < k → T[j].key.size ≤ 1000)
      (fun ix _ => T.length - (intOf ix).toNat)
  case atStart => exact ⟨0, by omega, rfl, rfl, fun j _ hj => absurd hj (by omega)⟩
  case round =>
    obtain ⟨k, hk, rfl, rfl, hall⟩ := hrel
    by_cases hlt : k < T.length
    · obtain ⟨b, off, rfl, hb, c0, c1, c2, c3, c4⟩ := H.out k hlt
      have hki : (k : Int) < (T.length : Int) := by omega
      obtain ⟨t, ht⟩ : ∃ t, T[k] = t := ⟨_, rfl⟩
      rw [ht] at c0 c1 c2 c3 c4
      by_cases hs : (1000 : Int) < (t.key.size : Int)
      · have hno : T.all (fun q => decide (q.key.size ≤ 1000)) = false := by
          rw [List.all_eq_false]
          exact ⟨t, ht ▸ List.getElem_mem hlt, by simp; omega⟩
        have HNo : Hid (T.all (fun q => decide (q.key.size ≤ 1000)) = false) := hno
        clear hno ht hall
        go_wp2
        go_ret
        exact ⟨by rw [HNo.out]; rfl, Gr.refl _⟩
      · have HN : Hid (∀ j (h : j < T.length), j < k + 1 → T[j].key.size ≤ 1000) := fun j h1 h2 => by
          rcases Nat.lt_or_ge j k with h3 | h3
          · exact hall j h1 h3
          · have : j = k := by omega
            subst this; rw [ht]; omega
        clear ht hall
        go_wp2
        exact ⟨⟨k + 1, by omega, by simp, trivial, HN.out⟩, by simp only [intOf]; omega⟩
    · have hki : ¬ (k : Int) < (T.length : Int) := by omega
      have hyes : T.all (fun q => decide (q.key.size ≤ 1000)) = true := by
        rw [List.all_eq_true]
        intro q hq
        obtain ⟨j, hj, rfl⟩ := List.mem_iff_getElem.1 hq
        exact decide_eq_true (hall j hj (by omega))
      have HY : Hid (T.all (fun q => decide (q.key.size ≤ 1000)) = true) := hyes
      clear hyes hall
      go_wp2
      go_ret
      exact ⟨by rw [HY.out]; rfl, Gr.refl _⟩
end Go.Proofs.Ytgidkmipecfjhaa
