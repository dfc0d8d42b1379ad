/- What the proof is made of, part 7. -/
import Derived.Test.YtgidkmipecfjhaaTLLDoes6
import Derived.BigRegion
import Derived.Lib.AppendZeros
import Derived.Laws.AppendOwnNone
import Derived.Deep.RegionHeld3
namespace Go.Proofs.Ytgidkmipecfjhaa
open Go.RowKit
open Led (Acc Mk)
set_option maxHeartbeats 4000000 in
set_option maxRecDepth 100000 in
theorem moved1_done (A : List Acc) (m : Mk) (free kept : Int) (F P : Nat) (ad : Option Addr) (cap : Nat) (f : Nat → Int) (w0 w : World) (hA : AccsAt w0 ad A) (hu : Led.upB (Led.nm A) = true) (hn : A.length ≤ 12) (hm : m.t ∈ Led.nm A) (hst : m.st = 1)
    (hF : w0.cell? ⟨F, 0, none⟩ = some (.func (.func 30) #[.slice ad A.length cap] #[])) (hP : w0.heap.size ≤ P) (hg : Gr w0 w) (hf : ArrAt w P f)
    (hfr : -1000000000000000 ≤ free ∧ free ≤ 1000000000000000) (hkp : -1000000000000000 ≤ kept ∧ kept ≤ 1000000000000000) (hb : ∀ j, -1000000000000000000 ≤ f j ∧ f j ≤ 1000000000000000000) :
    Calls Try.prog 72 #[.agg #[.string m.key, .int .i64 m.k, .string m.t, .int .i64 m.n, .int .i64 m.st], .int .i64 free, .int .i64 kept, .pointer (some ⟨F, 0, none⟩), .pointer (some ⟨P, 0, none⟩)] w fun e w' => e = .returned (.tuple #[]) ∧
      ArrAt w' P (upd (upd (upd (upd f (Led.pos (Led.nm A) m.t * 4) (f (Led.pos (Led.nm A) m.t * 4) + max free 0)) (Led.pos (Led.nm A) m.t * 4 + 1) (f (Led.pos (Led.nm A) m.t * 4 + 1) + max (-free) 0)) (Led.pos (Led.nm A) m.t * 4 + 2) (f (Led.pos (Led.nm A) m.t * 4 + 2) + max kept 0)) (Led.pos (Led.nm A) m.t * 4 + 3) (f (Led.pos (Led.nm A) m.t * 4 + 3) + max (-kept) 0)) ∧ Gr w0 w' := by
  have HF : Hid (∀ w', Gr w0 w' → Calls Try.prog 30 #[.slice ad A.length cap, .string m.t] w' fun e w2 => e = .returned (.tuple #[.int .i64 (Led.pos (Led.nm A) m.t : Nat), .bool (Led.hasB (Led.nm A) m.t)]) ∧ Gr w' w2) := fun w' g => findA_any A m.t ad cap w' (hA.gr g) hu (by omega)
  have hp : Led.pos (Led.nm A) m.t < 12 := by
    obtain ⟨h1, _⟩ := Led.pos_mem hu hm
    rw [Led.nm_len] at h1
    omega
  generalize Led.hasB (Led.nm A) m.t = has at *
  generalize Led.pos (Led.nm A) m.t = p at *
  obtain ⟨key, k, t, n, st⟩ := m
  simp only at hst HF ⊢
  subst hst
  clear hm hu hA
  have HB : Hid (∀ j, -1000000000000000000 ≤ f j ∧ f j ≤ 1000000000000000000) := hb
  have HP : Hid (w0.heap.size ≤ P) := hP
  have HG : Hid (Gr w0 w) := hg
  have HFF : Hid (w0.cell? ⟨F, 0, none⟩ = some (.func (.func 30) #[.slice ad A.length cap] #[])) := hF
  have HA : Hid (ArrAt w P f) := hf
  have hpi : (p : Int) < 12 := by omega
  have c0 := hg.keep hF
  have hFl : F < w.heap.size := World.block_lt_of_cell? w _ c0
  clear hb hP hF hf hg
  go_enter Try.func72, Try.ntmps72
  go_wp2_with fail
  refine (HF.out _ (HG.out.alloc)).mono ?_
  rintro e w1 ⟨rfl, hg1⟩
  have HG1 : Hid (Gr w w1) := (Gr.refl w).alloc.trans hg1
  have HA1 : Hid (ArrAt w1 P f) := HA.out.gr HG1.out
  have HG01 : Hid (Gr w0 w1) := HG.out.trans HG1.out
  clear hg1 HG1 HA HF HG c0
  have e0 := HA1.out.c (p * 4) (by omega)
  have q0 := HA1.out.fz (p * 4) (by omega)
  have el := HA1.out.lt
  have r0 : IntKind.i64.wrap (f (p * 4) + max free 0) = f (p * 4) + max free 0 := by rw [IntKind.wrap_i64]; have := HB.out (p * 4); omega
  have n1 : IntKind.i64.wrap (-free) = -free := by rw [IntKind.wrap_i64]; omega
  have n2 : IntKind.i64.wrap (-kept) = -kept := by rw [IntKind.wrap_i64]; omega
  go_wp2_with fail
  go_region
  obtain ⟨w2, ew2⟩ : ∃ x, x = (w1.setCell ⟨P, p * 4, none⟩ (.int .i64 (f (p * 4) + max free 0))).drew := ⟨_, rfl⟩
  rw [← ew2]
  have HA2 : Hid (ArrAt w2 P (upd f (p * 4) (f (p * 4) + max free 0))) := by show ArrAt _ _ _; rw [ew2]; exact (HA1.out.set (p * 4) (by omega) _).gr (Gr.refl _).drew
  have HG2 : Hid (Gr w0 w2) := by show Gr _ _; rw [ew2]; exact (HG01.out.set _ HP.out _).drew
  clear ew2 e0 q0 el r0 HA1 HG01
  have e0 : w2.cell? ⟨P, p * 4 + 1, none⟩ = some (.int .i64 (f (p * 4 + 1))) := by have := HA2.out.c (p * 4 + 1) (by omega); simpa [upd] using this
  have q0 := HA2.out.fz (p * 4 + 1) (by omega)
  have el := HA2.out.lt
  have r0 : IntKind.i64.wrap (f (p * 4 + 1) + max (-free) 0) = f (p * 4 + 1) + max (-free) 0 := by rw [IntKind.wrap_i64]; have := HB.out (p * 4 + 1); omega
  go_wp2_with fail
  go_region
  obtain ⟨w3, ew3⟩ : ∃ x, x = (w2.setCell ⟨P, p * 4 + 1, none⟩ (.int .i64 (f (p * 4 + 1) + max (-free) 0))).drew := ⟨_, rfl⟩
  rw [← ew3]
  have HA3 : Hid (ArrAt w3 P (upd (upd f (p * 4) (f (p * 4) + max free 0)) (p * 4 + 1) (f (p * 4 + 1) + max (-free) 0))) := by show ArrAt _ _ _; rw [ew3]; exact (HA2.out.set (p * 4 + 1) (by omega) _).gr (Gr.refl _).drew
  have HG3 : Hid (Gr w0 w3) := by show Gr _ _; rw [ew3]; exact (HG2.out.set _ HP.out _).drew
  clear ew3 e0 q0 el r0 HA2 HG2
  have e0 : w3.cell? ⟨P, p * 4 + 2, none⟩ = some (.int .i64 (f (p * 4 + 2))) := by have := HA3.out.c (p * 4 + 2) (by omega); simpa [upd] using this
  have q0 := HA3.out.fz (p * 4 + 2) (by omega)
  have el := HA3.out.lt
  have r0 : IntKind.i64.wrap (f (p * 4 + 2) + max kept 0) = f (p * 4 + 2) + max kept 0 := by rw [IntKind.wrap_i64]; have := HB.out (p * 4 + 2); omega
  go_wp2_with fail
  go_region
  obtain ⟨w4, ew4⟩ : ∃ x, x = (w3.setCell ⟨P, p * 4 + 2, none⟩ (.int .i64 (f (p * 4 + 2) + max kept 0))).drew := ⟨_, rfl⟩
  rw [← ew4]
  have HA4 : Hid (ArrAt w4 P (upd (upd (upd f (p * 4) (f (p * 4) + max free 0)) (p * 4 + 1) (f (p * 4 + 1) + max (-free) 0)) (p * 4 + 2) (f (p * 4 + 2) + max kept 0))) := by show ArrAt _ _ _; rw [ew4]; exact (HA3.out.set (p * 4 + 2) (by omega) _).gr (Gr.refl _).drew
  have HG4 : Hid (Gr w0 w4) := by show Gr _ _; rw [ew4]; exact (HG3.out.set _ HP.out _).drew
  clear ew4 e0 q0 el r0 HA3 HG3
  have e0 : w4.cell? ⟨P, p * 4 + 3, none⟩ = some (.int .i64 (f (p * 4 + 3))) := by have := HA4.out.c (p * 4 + 3) (by omega); simpa [upd] using this
  have q0 := HA4.out.fz (p * 4 + 3) (by omega)
  have el := HA4.out.lt
  have r0 : IntKind.i64.wrap (f (p * 4 + 3) + max (-kept) 0) = f (p * 4 + 3) + max (-kept) 0 := by rw [IntKind.wrap_i64]; have := HB.out (p * 4 + 3); omega
  go_wp2_with fail
  go_region
  obtain ⟨w5, ew5⟩ : ∃ x, x = (w4.setCell ⟨P, p * 4 + 3, none⟩ (.int .i64 (f (p * 4 + 3) + max (-kept) 0))).drew := ⟨_, rfl⟩
  rw [← ew5]
  have HA5 : Hid (ArrAt w5 P (upd (upd (upd (upd f (p * 4) (f (p * 4) + max free 0)) (p * 4 + 1) (f (p * 4 + 1) + max (-free) 0)) (p * 4 + 2) (f (p * 4 + 2) + max kept 0)) (p * 4 + 3) (f (p * 4 + 3) + max (-kept) 0))) := by show ArrAt _ _ _; rw [ew5]; exact (HA4.out.set (p * 4 + 3) (by omega) _).gr (Gr.refl _).drew
  have HG5 : Hid (Gr w0 w5) := by show Gr _ _; rw [ew5]; exact (HG4.out.set _ HP.out _).drew
  clear ew5 e0 q0 el r0 HA4 HG4
  go_wp2
  go_end0
  exact ⟨rfl, HA5.out, HG5.out⟩
set_option maxHeartbeats 400000 in
theorem moved1_not (m : Mk) (free kept : Int) (F P : Nat) (f : Nat → Int) (w0 w : World) (hst : m.st ≠ 1) (hg : Gr w0 w) (hf : ArrAt w P f) :
    Calls Try.prog 72 #[.agg #[.string m.key, .int .i64 m.k, .string m.t, .int .i64 m.n, .int .i64 m.st], .int .i64 free, .int .i64 kept, .pointer (some ⟨F, 0, none⟩), .pointer (some ⟨P, 0, none⟩)] w fun e w' => e = .returned (.tuple #[]) ∧ ArrAt w' P f ∧ Gr w0 w' := by
  have HG : Hid (Gr w0 w) := hg
  have HA : Hid (ArrAt w P f) := hf
  have h1 : (m.st == 1) = false := by simpa using hst
  clear hg hf hst
  go_enter Try.func72, Try.ntmps72
  go_wp2
  refine bodyPost_ret (results_none rfl _ _ _) rfl ?_
  exact ⟨rfl, HA.out.gr (Gr.refl _).alloc, HG.out.alloc⟩
end Go.Proofs.Ytgidkmipecfjhaa
namespace Go.Proofs.Ytgidkmipecfjhaa
open Go.RowKit
open Led (Acc Mk)
def pend4 (s : ByteArray) (i : Nat) (M : List Mk) : Int := match i with | 0 => Led.sm (Led.gFI s) M | 1 => Led.sm (Led.gFO s) M | 2 => Led.sm (Led.gKI s) M | _ => Led.sm (Led.gKO s) M
def g4 (s : ByteArray) (i : Nat) (m : Mk) : Int := match i with | 0 => Led.gFI s m | 1 => Led.gFO s m | 2 => Led.gKI s m | _ => Led.gKO s m
def mvF (A : List Acc) (M : List Mk) (j : Nat) : Int := match A[j / 4]? with | some x => pend4 x.s (j % 4) M | none => 0
theorem pend_snoc (s : ByteArray) (i : Nat) (T : List Mk) (m : Mk) : pend4 s i (T ++ [m]) = pend4 s i T + g4 s i m := by
  unfold pend4 g4
  split <;> (rw [Led.sm_app]; simp [Led.sm])
theorem g4_not (s : ByteArray) (i : Nat) (m : Mk) (h : Led.hit s m = false) : g4 s i m = 0 := by
  unfold g4 Led.gFI Led.gFO Led.gKI Led.gKO
  split <;> rw [h] <;> rfl
theorem hit_not {s : ByteArray} {m : Mk} (h : m.t ≠ s ∨ m.st ≠ 1) : Led.hit s m = false := by
  unfold Led.hit
  rcases h with h | h
  · rw [decide_eq_false h]; rfl
  · rw [decide_eq_false h]; simp
theorem hit_yes {m : Mk} (h : m.st = 1) : Led.hit m.t m = true := by unfold Led.hit; rw [decide_eq_true rfl, decide_eq_true h]; rfl
theorem mv_not (A : List Acc) (T : List Mk) (m : Mk) (h : m.st ≠ 1) (j : Nat) : mvF A T j = mvF A (T ++ [m]) j := by
  unfold mvF
  split
  · rw [pend_snoc, g4_not _ _ _ (hit_not (Or.inr h))]; omega
  · rfl
theorem mv_done (A : List Acc) (T : List Mk) (m : Mk) (hu : Led.upB (Led.nm A) = true) (hm : m.t ∈ Led.nm A) (hst : m.st = 1) (p : Nat) (hp : p = Led.pos (Led.nm A) m.t) (j : Nat) :
    upd (upd (upd (upd (mvF A T) (p * 4) (mvF A T (p * 4) + max (Led.amF m) 0)) (p * 4 + 1) (mvF A T (p * 4 + 1) + max (-Led.amF m) 0)) (p * 4 + 2) (mvF A T (p * 4 + 2) + max (Led.amK m) 0)) (p * 4 + 3) (mvF A T (p * 4 + 3) + max (-Led.amK m) 0) j = mvF A (T ++ [m]) j := by
  obtain ⟨h1, h2⟩ := Led.pos_mem hu hm
  rw [Led.nm_len] at h1
  rw [← hp] at h1
  have hx : A[p]? = some A[p] := List.getElem?_eq_getElem h1
  have hs : A[p].s = m.t := by
    have := Led.nm_get A p h1
    rw [← this]
    subst hp
    exact h2
  have hh := hit_yes hst
  by_cases h0 : j = p * 4 + 3
  · subst h0
    unfold upd; rw [if_pos rfl]
    unfold mvF
    rw [show (p * 4 + 3) / 4 = p by omega, hx, show (p * 4 + 3) % 4 = 3 by omega]
    simp only [pend_snoc, hs]
    unfold g4 Led.gKO; rw [if_pos hh]; rfl
  by_cases h3 : j = p * 4 + 2
  · subst h3
    unfold upd; rw [if_neg h0, if_pos rfl]
    unfold mvF
    rw [show (p * 4 + 2) / 4 = p by omega, hx, show (p * 4 + 2) % 4 = 2 by omega]
    simp only [pend_snoc, hs]
    unfold g4 Led.gKI; rw [if_pos hh]; rfl
  by_cases h4 : j = p * 4 + 1
  · subst h4
    unfold upd; rw [if_neg h0, if_neg h3, if_pos rfl]
    unfold mvF
    rw [show (p * 4 + 1) / 4 = p by omega, hx, show (p * 4 + 1) % 4 = 1 by omega]
    simp only [pend_snoc, hs]
    unfold g4 Led.gFO; rw [if_pos hh]; rfl
  by_cases h5 : j = p * 4
  · subst h5
    unfold upd; rw [if_neg h0, if_neg h3, if_neg h4, if_pos rfl]
    unfold mvF
    rw [show (p * 4) / 4 = p by omega, hx, show (p * 4) % 4 = 0 by omega]
    simp only [pend_snoc, hs]
    unfold g4 Led.gFI; rw [if_pos hh]; rfl
  unfold upd; rw [if_neg h0, if_neg h3, if_neg h4, if_neg h5]
  unfold mvF
  have hne : j / 4 ≠ p := by omega
  cases hy : A[j / 4]? with
  | none => rfl
  | some y =>
    obtain ⟨hj, hy'⟩ := List.getElem?_eq_some_iff.1 hy
    have : y.s ≠ m.t := fun e => hne (by
      have e1 := Led.nm_get A (j / 4) hj
      have e2 := Led.nm_get A p h1
      exact Led.up_one hu (by rw [Led.nm_len]; exact hj) (by rw [Led.nm_len]; exact h1) (by rw [e1, e2, hy', e, hs]))
    simp only [pend_snoc]
    rw [g4_not _ _ _ (hit_not (Or.inl fun e => this e.symm))]; omega
theorem mv_bound (A : List Acc) (T : List Mk) (h : ∀ m ∈ T, Act.actB m.k m.t m.n = true) (hl : T.length ≤ 500) (j : Nat) : -1000000000000000000 ≤ mvF A T j ∧ mvF A T j ≤ 1000000000000000000 := by
  unfold mvF
  split
  · rename_i x _
    have key : ∀ i, -(1000000000000000 * (T.length : Int)) ≤ pend4 x.s i T ∧ pend4 x.s i T ≤ 1000000000000000 * (T.length : Int) := by
      intro i
      unfold pend4
      split <;> (refine Led.sm_bound 1000000000000000 (fun m hm => ?_); have := Led.am_rng (h m hm)) <;> (first | unfold Led.gFI | unfold Led.gFO | unfold Led.gKI | unfold Led.gKO) <;> split <;> omega
    have := key (j % 4)
    omega
  · omega
set_option maxHeartbeats 4000000 in
set_option maxRecDepth 100000 in
theorem changesM_any (A : List Acc) (M : List Mk) (adA : Option Addr) (capA : Nat) (ad : Option Addr) (cap F P : Nat) (w0 w : World) (hA : AccsAt w0 adA A) (hu : Led.upB (Led.nm A) = true) (hn : A.length ≤ 12) (hM : MksAt w0 ad M) (hmk : Led.mksB A M = true)
    (hF : w0.cell? ⟨F, 0, none⟩ = some (.func (.func 30) #[.slice adA A.length capA] #[])) (hP : w0.heap.size ≤ P) (hg : Gr w0 w) (hf : ArrAt w P (fun _ => 0)) :
    Calls Try.prog 33 #[.slice ad M.length cap, .func (.func 72) #[] #[.pointer (some ⟨F, 0, none⟩), .pointer (some ⟨P, 0, none⟩)]] w fun e w' => e = .returned (.tuple #[]) ∧ ArrAt w' P (mvF A M) ∧ Gr w0 w' := by
  obtain ⟨hl5, hok, hup⟩ := (Led.mks_iff A M).1 hmk
  have HL : Hid (MksAt w0 ad M) := hM
  have HD : Hid (∀ m w', m ∈ M → Calls Try.prog 29 #[.agg #[.int .i64 m.k, .string m.t, .int .i64 m.n]] w' fun e w2 => e = .returned (.tuple #[.int .i64 (Led.amF m), .int .i64 (Led.amK m)]) ∧ Gr w' w2) := by
    intro m w' hm
    obtain ⟨_, h2, _⟩ := (Led.mk_iff A m).1 (hok m hm)
    have h16 := (Act.name_pos ((Act.act_iff _ _ _).1 h2).2.1).2
    exact delta_any m.k m.n m.t w' (by omega)
  have HC : Hid (∀ (k : Nat) (h : k < M.length) w', Gr w0 w' → ArrAt w' P (mvF A (M.take k)) → Calls Try.prog 72 #[.agg #[.string M[k].key, .int .i64 M[k].k, .string M[k].t, .int .i64 M[k].n, .int .i64 M[k].st], .int .i64 (Led.amF M[k]), .int .i64 (Led.amK M[k]), .pointer (some ⟨F, 0, none⟩), .pointer (some ⟨P, 0, none⟩)] w' fun e w2 => e = .returned (.tuple #[]) ∧ ArrAt w2 P (mvF A (M.take (k + 1))) ∧ Gr w0 w2) := by
    intro k h w' g hf'
    have hm := List.getElem_mem h
    obtain ⟨_, h2, h3, _⟩ := (Led.mk_iff A M[k]).1 (hok _ hm)
    have hr := Led.am_rng h2
    have hb := mv_bound A (M.take k) (fun m hm => ((Led.mk_iff A m).1 (hok m (List.mem_of_mem_take hm))).2.1) (by rw [List.length_take]; omega)
    by_cases hst : M[k].st = 1
    · refine (moved1_done A M[k] (Led.amF M[k]) (Led.amK M[k]) F P adA capA (mvF A (M.take k)) w0 w' hA hu hn h3 hst hF hP g hf' hr.1 hr.2 hb).mono ?_
      rintro e w2 ⟨he, ha, hg2⟩
      refine ⟨he, ha.congr (fun j _ => ?_), hg2⟩
      rw [mv_done A (M.take k) M[k] hu h3 hst _ rfl j, List.take_succ_eq_append_getElem h]
    · refine (moved1_not M[k] (Led.amF M[k]) (Led.amK M[k]) F P (mvF A (M.take k)) w0 w' hst g hf').mono ?_
      rintro e w2 ⟨he, ha, hg2⟩
      refine ⟨he, ha.congr (fun j _ => ?_), hg2⟩
      rw [mv_not A (M.take k) M[k] hst j, List.take_succ_eq_append_getElem h]
  have HS : Hid (ArrAt w P (mvF A (M.take 0))) := hf.congr (fun j _ => by unfold mvF; split <;> first | rfl | (unfold pend4; split <;> rfl))
  have HG : Hid (Gr w0 w) := hg
  clear hA hu hn hM hmk hF hg hf hok hup
  go_enter Try.func33, Try.ntmps33
  go_wp2
  go_loopw [10] (fun s10 wr => ∃ k : Nat, s10 = .int .i64 k ∧ k ≤ M.length ∧ ArrAt wr P (mvF A (M.take k)) ∧ Gr w0 wr) (fun s10 _ => M.length - (intOf s10).toNat)
  case atStart => exact ⟨0, rfl, Nat.zero_le _, HS.out, HG.out⟩
  case round =>
    clear HS HG
    obtain ⟨k, rfl, hk, ha, hg⟩ := hrel
    have HAr : Hid (ArrAt wr P (mvF A (M.take k))) := ha
    have HG : Hid (Gr w0 wr) := hg
    clear ha hg
    by_cases hlt : k < M.length
    · obtain ⟨b, off, rfl, hb, d0, d1, d2, d3, d4⟩ := (MksAt.at HL.out k hlt)
      have d0 := HG.out.keep d0
      have d1 := HG.out.keep d1
      have d2 := HG.out.keep d2
      have d3 := HG.out.keep d3
      have d4 := HG.out.keep d4
      have hbw : b < wr.heap.size := Nat.lt_of_lt_of_le hb HG.out.size
      have hki : (k : Int) < (M.length : Int) := by omega
      have hD := fun w' => HD.out M[k] w' (List.getElem_mem hlt)
      have hC := HC.out k hlt
      clear HC HD
      generalize Led.amF M[k] = fr at *
      generalize Led.amK M[k] = kp at *
      generalize M[k] = x at *
      have HD1 : Hid (∀ w', Calls Try.prog 29 #[.agg #[.int .i64 x.k, .string x.t, .int .i64 x.n]] w' fun e w2 => e = .returned (.tuple #[.int .i64 fr, .int .i64 kp]) ∧ Gr w' w2) := hD
      have HC1 : Hid (∀ w', Gr w0 w' → ArrAt w' P (mvF A (M.take k)) → Calls Try.prog 72 #[.agg #[.string x.key, .int .i64 x.k, .string x.t, .int .i64 x.n, .int .i64 x.st], .int .i64 fr, .int .i64 kp, .pointer (some ⟨F, 0, none⟩), .pointer (some ⟨P, 0, none⟩)] w' fun e w2 => e = .returned (.tuple #[]) ∧ ArrAt w2 P (mvF A (M.take (k + 1))) ∧ Gr w0 w2) := hC
      clear hD hC
      go_wp2_with fail
      refine (HD1.out _).mono ?_
      rintro e w1 ⟨rfl, hg1⟩
      obtain ⟨b0, b1, b2, b3, b4, _, b6⟩ := (FiveAt.new wr _ _ _ _ _ _ wr.heap.size rfl).gr hg1
      have HG1 : Hid (Gr w0 w1) := HG.out.alloc.trans hg1
      have HAr1 : Hid (ArrAt w1 P (mvF A (M.take k))) := HAr.out.gr ((Gr.refl wr).alloc.trans hg1)
      clear hg1 HG HAr d0 d1 d2 d3 d4
      go_wp2_with fail
      refine (HC1.out _ HG1.out HAr1.out).mono ?_
      rintro e w2 ⟨rfl, ha2, hg2⟩
      have HG2 : Hid (Gr w0 w2) := hg2
      have HAr2 : Hid (ArrAt w2 P (mvF A (M.take (k + 1)))) := ha2
      clear ha2 hg2
      go_wp2
      go_roundw
      case rel => exact ⟨k + 1, by go_num, by omega, HAr2.out, HG2.out⟩
      case measure => simp [intOf]; omega
    · have hge : ¬ ((k : Int) < (M.length : Int)) := by omega
      obtain rfl : k = M.length := by omega
      have HE : Hid (ArrAt wr P (mvF A M)) := by have := HAr.out; rw [List.take_length] at this; exact this
      go_wp2
      go_end0
      exact ⟨rfl, HE.out, HG.out⟩
set_option maxHeartbeats 4000000 in
set_option maxRecDepth 100000 in
theorem moved_any (A : List Acc) (M : List Mk) (adA : Option Addr) (capA : Nat) (ad : Option Addr) (cap : Nat) (w : World) (hA : AccsAt w adA A) (hu : Led.upB (Led.nm A) = true) (hn : A.length ≤ 12) (hM : MksAt w ad M) (hmk : Led.mksB A M = true) :
    Calls Try.prog 42 #[.slice ad M.length cap, .func (.func 30) #[.slice adA A.length capA] #[]] w fun e w' => e = .returned (.agg (arrL (mvF A M)).toArray) ∧ Gr w w' := by
  have HC : Hid (∀ (F P : Nat) (w0 w' : World), Gr w w0 → w0.cell? ⟨F, 0, none⟩ = some (.func (.func 30) #[.slice adA A.length capA] #[]) → w0.heap.size ≤ P → Gr w0 w' → ArrAt w' P (fun _ => 0) →
      Calls Try.prog 33 #[.slice ad M.length cap, .func (.func 72) #[] #[.pointer (some ⟨F, 0, none⟩), .pointer (some ⟨P, 0, none⟩)]] w' fun e w2 => e = .returned (.tuple #[]) ∧ ArrAt w2 P (mvF A M) ∧ Gr w0 w2) :=
    fun F P w0 w' g h1 h2 h3 h4 => changesM_any A M adA capA ad cap F P w0 w' (hA.gr g) hu hn (hM.gr g) hmk h1 h2 h3 h4
  have hut := Try.underlying82
  clear hA hu hn hM hmk
  have hmf : ∀ (fn : Fn) (first cap : Array Value) (w : World), (Instr.makeFunc fn first cap).run Try.prog w = .ok (.func fn first cap) w := fun _ _ _ _ => rfl
  go_enter Try.func42, Try.ntmps42
  go_wp2_with fail
  have gw : Gr w ((w.alloc (.cells #[.func (.func 30) #[.slice adA A.length capA] #[]] 108)).alloc (.cells (arrL (fun _ => 0)).toArray 82)) := (Gr.refl _).alloc.alloc
  have hR : ArrAt ((w.alloc (.cells #[.func (.func 30) #[.slice adA A.length capA] #[]] 108)).alloc (.cells (arrL (fun _ => 0)).toArray 82)) (w.heap.size + 1) (fun _ => 0) := ArrAt.new _ _ _ _ _ (by simp) rfl
  have hP : ArrAt (((w.alloc (.cells #[.func (.func 30) #[.slice adA A.length capA] #[]] 108)).alloc (.cells (arrL (fun _ => 0)).toArray 82)).alloc (.cells (arrL (fun _ => 0)).toArray 82)) (w.heap.size + 1 + 1) (fun _ => 0) := ArrAt.new _ _ _ _ _ (by simp) rfl
  have HR : Hid (ArrAt _ _ _) := hR
  have HW : Hid (Gr w _) := gw
  refine (HC.out w.heap.size (w.heap.size + 1 + 1) ((w.alloc (.cells #[.func (.func 30) #[.slice adA A.length capA] #[]] 108)).alloc (.cells (arrL (fun _ => 0)).toArray 82)) _ gw (by simp) (by simp) (Gr.refl _).alloc hP).mono ?_
  rintro e w2 ⟨rfl, ha2, hg2⟩
  have HR2 : Hid (ArrAt w2 (w.heap.size + 1) (fun _ => 0)) := HR.out.gr hg2
  have HA2 : Hid (ArrAt w2 (w.heap.size + 1 + 1) (mvF A M)) := ha2
  have HG2 : Hid (Gr w w2) := HW.out.trans hg2
  clear HR HW hR hP gw ha2 hg2 HC
  go_wp2_with (first
    | (refine wpList_load_mid rfl 82 _ rfl (w.heap.size + 1 + 1) 0 rfl (arrL (mvF A M)) _ HA2.out.range hut rfl (by rw [arrL_len]; exact arr_size) ?_)
    | (refine wpList_store_mid rfl 82 _ _ rfl (w.heap.size + 1) 0 (arrL (mvF A M)).toArray rfl rfl (by simpa [arrL_len] using HR2.out.there) (by rw [List.size_toArray, arrL_len]; exact arr_size) (all_oneCell_toArray (arrL_one _)) ?_)
    | fail)
  exact bodyPost_ret (v := .agg (arrL (mvF A M)).toArray) (results_arr Try.results42 _ _ _ _ rfl (HR2.out.stored _)) rfl ⟨rfl, HG2.out.setCells _ (by omega) _ _⟩
end Go.Proofs.Ytgidkmipecfjhaa
namespace Go.Proofs.Ytgidkmipecfjhaa
open Go.RowKit
open Led (Acc Mk)
theorem same_pots (A : List Acc) (M : List Mk) (hn : A.length ≤ 12) : (List.range 12).all (same4 (wrF A) (mvF A M)) = A.all (Led.potsB M) := by
  apply Bool.eq_iff_iff.2
  rw [same_all, List.all_eq_true]
  constructor
  · intro h x hx
    obtain ⟨i, hi, rfl⟩ := List.getElem_of_mem hx
    obtain ⟨h0, h1, h2, h3⟩ := h i (by omega)
    have hx : A[i]? = some A[i] := List.getElem?_eq_getElem hi
    unfold wrF mvF at h0 h1 h2 h3
    rw [show i * 4 / 4 = i by omega, show i * 4 % 4 = 0 by omega, hx] at h0
    rw [show (i * 4 + 1) / 4 = i by omega, show (i * 4 + 1) % 4 = 1 by omega, hx] at h1
    rw [show (i * 4 + 2) / 4 = i by omega, show (i * 4 + 2) % 4 = 2 by omega, hx] at h2
    rw [show (i * 4 + 3) / 4 = i by omega, show (i * 4 + 3) % 4 = 3 by omega, hx] at h3
    exact (Led.pots_iff M A[i]).2 ⟨h0, h1, h2, h3⟩
  · intro h i hi
    unfold wrF mvF
    rw [show i * 4 / 4 = i by omega, show i * 4 % 4 = 0 by omega, show (i * 4 + 1) / 4 = i by omega, show (i * 4 + 1) % 4 = 1 by omega, show (i * 4 + 2) / 4 = i by omega, show (i * 4 + 2) % 4 = 2 by omega, show (i * 4 + 3) / 4 = i by omega, show (i * 4 + 3) % 4 = 3 by omega]
    cases hx : A[i]? with
    | none => exact ⟨rfl, rfl, rfl, rfl⟩
    | some x => exact (Led.pots_iff M x).1 (h x (List.mem_of_getElem? hx))
def mayL (A : List Acc) (M : List Mk) : Int := if Led.mayB A M = true then 0 else 2
theorem mayL_yes {A : List Acc} {M : List Mk} (h : Led.mayB A M = true) : mayL A M = 0 := by unfold mayL; rw [if_pos h]
theorem mayL_no {A : List Acc} {M : List Mk} (h : Led.mayB A M = false) : mayL A M = 2 := by unfold mayL; rw [h]; rfl
theorem hold2a {a b : World} (g : Gr a b) {q0 q1 : Addr} {v0 v1 : Value} (h0 : a.cell? q0 = some v0) (h1 : a.cell? q1 = some v1) : Gr a b ∧ b.cell? q0 = some v0 ∧ b.cell? q1 = some v1 := ⟨g, g.keep h0, g.keep h1⟩
set_option maxHeartbeats 4000000 in
set_option maxRecDepth 100000 in
theorem may7_any (A : List Acc) (M : List Mk) (adA : Option Addr) (capA : Nat) (adM : Option Addr) (capM : Nat) (w : World) (hA : AccsAt w adA A) (hM : MksAt w adM M) (hrA : ∀ x ∈ A, inA x) (hrM : ∀ m ∈ M, inM m) (hnA : A.length ≤ 9223372036854775807) (hnM : M.length ≤ 9223372036854775807) :
    Calls Try.prog 14 #[.agg #[.slice adA A.length capA, .slice adM M.length capM]] w fun e w' => e = .returned (.int .i64 (mayL A M)) ∧ Gr w w' := by
  have H1 : Hid (∀ w', Gr w w' → Calls Try.prog 39 #[.slice adA A.length capA] w' fun e w2 => e = .returned (.bool (Led.accsB A)) ∧ Gr w' w2) := fun w' g => accs_any A adA capA w' (hA.gr g) hrA hnA
  have H2 : Hid (Led.accsB A = true → ∀ w', Gr w w' → Calls Try.prog 40 #[.slice adM M.length capM, .func (.func 30) #[.slice adA A.length capA] #[]] w' fun e w2 => e = .returned (.bool (Led.mksB A M)) ∧ Gr w' w2) := by
    intro h w' g
    obtain ⟨h1, h2, h3⟩ := (Led.accs_iff A).1 h
    exact mks_any A M adA capA adM capM w' (hA.gr g) h3 (by omega) (hM.gr g) hrM hnM
  have H3 : Hid (Led.accsB A = true → ∀ w', Gr w w' → Calls Try.prog 41 #[.slice adA A.length capA] w' fun e w2 => e = .returned (.agg (arrL (wrF A)).toArray) ∧ Gr w' w2) := by
    intro h w' g
    exact written_any A adA capA w' (hA.gr g) ((Led.accs_iff A).1 h).1
  have H4 : Hid (Led.accsB A = true → Led.mksB A M = true → ∀ w', Gr w w' → Calls Try.prog 42 #[.slice adM M.length capM, .func (.func 30) #[.slice adA A.length capA] #[]] w' fun e w2 => e = .returned (.agg (arrL (mvF A M)).toArray) ∧ Gr w' w2) := by
    intro h h' w' g
    obtain ⟨h1, h2, h3⟩ := (Led.accs_iff A).1 h
    exact moved_any A M adA capA adM capM w' (hA.gr g) h3 h1 (hM.gr g) h'
  have HS : Hid (Led.accsB A = true → (List.range 12).all (same4 (wrF A) (mvF A M)) = A.all (Led.potsB M)) := fun h => same_pots A M ((Led.accs_iff A).1 h).1
  have hmf : ∀ (fn : Fn) (first cap : Array Value) (w : World), (Instr.makeFunc fn first cap).run Try.prog w = .ok (.func fn first cap) w := fun _ _ _ _ => rfl
  clear hA hM hrA hrM hnA hnM
  have HE : Hid (Led.mayB A M = (Led.accsB A && Led.mksB A M && A.all (Led.potsB M))) := rfl
  have c0 : (w.alloc (.cells #[.slice adA A.length capA, .slice adM M.length capM] 25)).cell? ⟨w.heap.size, 0, none⟩ = some (.slice adA A.length capA) := by simp
  have c1 : (w.alloc (.cells #[.slice adA A.length capA, .slice adM M.length capM] 25)).cell? ⟨w.heap.size, 1, none⟩ = some (.slice adM M.length capM) := by simp
  obtain ⟨W, hW⟩ : ∃ W, W = w.alloc (.cells #[.slice adA A.length capA, .slice adM M.length capM] 25) := ⟨_, rfl⟩
  have HGW : Hid (Gr w W) := by show Gr _ _; rw [hW]; exact (Gr.refl _).alloc
  rw [← hW] at c0 c1
  cases ha : Led.accsB A with
  | false =>
    rw [ha] at H1
    have HF : Hid (mayL A M = 2) := by show _ = _; refine mayL_no ?_; rw [HE.out, ha]; rfl
    clear H2 H3 H4 HS ha HE
    go_enter Try.func14, Try.ntmps14
    go_wp2_with fail
    rw [← hW]
    clear hW
    refine wp_region_held_drew (S := (fun w' => Gr W w' ∧ w'.cell? ⟨w.heap.size, 0, none⟩ = some (.slice adA A.length capA) ∧ w'.cell? ⟨w.heap.size, 1, none⟩ = some (.slice adM M.length capM))) (by kernel_rfl) (by exact hold2a (by (with_reducible repeat' (first | exact Gr.refl _ | refine Gr.set ?_ _ ?_ _ | refine Gr.alloc ?_ | refine Gr.drew ?_ | refine Gr.trans ?_ (by assumption))) <;> (first | (simp; done) | (simp; omega) | omega)) c0 c1) (fun hHeld => ?_)
    refine ty 0 7 hHeld ?_
    refine ty 1 8 hHeld ?_
    refine wpAnyH_ready (rs := [2]) (by kernel_rfl) (by simp) (AllReadyH.cons rfl (fun K hK => ?_) AllReadyH.nil)
    go_simp
    (go_at_call 39; refine (H1.out _ (HGW.out.trans (by (with_reducible repeat' (first | exact Gr.refl _ | refine Gr.set ?_ _ ?_ _ | refine Gr.alloc ?_ | refine Gr.drew ?_ | refine Gr.trans ?_ (by assumption))) <;> (first | (simp; done) | (simp; omega) | omega)))).mono ?_; rintro e wn ⟨rfl, hgn⟩)
    (try go_wp2_with fail)
    refine hK.out _ _ (by exact hold2a (by (with_reducible repeat' (first | exact Gr.refl _ | refine Gr.set ?_ _ ?_ _ | refine Gr.alloc ?_ | refine Gr.drew ?_ | refine Gr.trans ?_ (by assumption))) <;> (first | (simp; done) | (simp; omega) | omega)) c0 c1) (fun hHeldN => ?_)
    clear hHeld hK K
    have hHeld := hHeldN
    clear hHeldN
    refine ty 3 10 hHeld ?_
    refine ty 4 11 hHeld ?_
    refine tn 5 12 hHeld ?_
    refine tn 6 13 hHeld ?_
    refine tn 7 14 hHeld ?_
    refine tn 8 15 hHeld ?_
    refine tn 9 16 hHeld ?_
    refine ty 10 17 hHeld ?_
    refine ty 11 18 hHeld ?_
    refine tn 12 19 hHeld ?_
    refine tn 13 20 hHeld ?_
    refine tn 14 21 hHeld ?_
    refine tn 15 22 hHeld ?_
    refine tn 16 23 hHeld ?_
    refine tn 17 24 hHeld ?_
    refine tn 18 25 hHeld ?_
    refine tn 19 26 hHeld ?_
    refine ty 20 27 hHeld ?_
    refine wpAnyH_done (by kernel_rfl) ?_ _
    go_wp2
    go_ret
    exact ⟨by rw [HF.out]; rfl, HGW.out.trans (by (with_reducible repeat' (first | exact Gr.refl _ | refine Gr.set ?_ _ ?_ _ | refine Gr.alloc ?_ | refine Gr.drew ?_ | refine Gr.trans ?_ (by assumption))) <;> (first | (simp; done) | (simp; omega) | omega))⟩
  | true =>
    rw [ha] at H1
    have H2 := Hid.out H2 ha
    have H3 := Hid.out H3 ha
    have H4 := Hid.out H4 ha
    have HS := Hid.out HS ha
    cases hm : Led.mksB A M with
    | false =>
      rw [hm] at H2
      have HF : Hid (mayL A M = 2) := by show _ = _; refine mayL_no ?_; rw [HE.out, ha, hm]; rfl
      have H2 : Hid (∀ w', Gr w w' → Calls Try.prog 40 #[.slice adM M.length capM, .func (.func 30) #[.slice adA A.length capA] #[]] w' fun e w2 => e = .returned (.bool false) ∧ Gr w' w2) := H2
      clear H3 H4 HS ha hm HE
      go_enter Try.func14, Try.ntmps14
      go_wp2_with fail
      rw [← hW]
      clear hW
      refine wp_region_held_drew (S := (fun w' => Gr W w' ∧ w'.cell? ⟨w.heap.size, 0, none⟩ = some (.slice adA A.length capA) ∧ w'.cell? ⟨w.heap.size, 1, none⟩ = some (.slice adM M.length capM))) (by kernel_rfl) (by exact hold2a (by (with_reducible repeat' (first | exact Gr.refl _ | refine Gr.set ?_ _ ?_ _ | refine Gr.alloc ?_ | refine Gr.drew ?_ | refine Gr.trans ?_ (by assumption))) <;> (first | (simp; done) | (simp; omega) | omega)) c0 c1) (fun hHeld => ?_)
      refine ty 0 7 hHeld ?_
      refine ty 1 8 hHeld ?_
      refine wpAnyH_ready (rs := [2]) (by kernel_rfl) (by simp) (AllReadyH.cons rfl (fun K hK => ?_) AllReadyH.nil)
      go_simp
      (go_at_call 39; refine (H1.out _ (HGW.out.trans (by (with_reducible repeat' (first | exact Gr.refl _ | refine Gr.set ?_ _ ?_ _ | refine Gr.alloc ?_ | refine Gr.drew ?_ | refine Gr.trans ?_ (by assumption))) <;> (first | (simp; done) | (simp; omega) | omega)))).mono ?_; rintro e wn ⟨rfl, hgn⟩)
      (try go_wp2_with fail)
      refine hK.out _ _ (by exact hold2a (by (with_reducible repeat' (first | exact Gr.refl _ | refine Gr.set ?_ _ ?_ _ | refine Gr.alloc ?_ | refine Gr.drew ?_ | refine Gr.trans ?_ (by assumption))) <;> (first | (simp; done) | (simp; omega) | omega)) c0 c1) (fun hHeldN => ?_)
      clear hHeld hK K
      have hHeld := hHeldN
      clear hHeldN
      refine ty 3 10 hHeld ?_
      refine ty 4 11 hHeld ?_
      refine ty 5 12 hHeld ?_
      refine ty 6 13 hHeld ?_
      refine ty 7 14 hHeld ?_
      refine wpAnyH_ready (rs := [8]) (by kernel_rfl) (by simp) (AllReadyH.cons rfl (fun K hK => ?_) AllReadyH.nil)
      go_simp
      (go_at_call 40; refine (H2.out _ (HGW.out.trans (by (with_reducible repeat' (first | exact Gr.refl _ | refine Gr.set ?_ _ ?_ _ | refine Gr.alloc ?_ | refine Gr.drew ?_ | refine Gr.trans ?_ (by assumption))) <;> (first | (simp; done) | (simp; omega) | omega)))).mono ?_; rintro e wn2 ⟨rfl, hgn2⟩)
      (try go_wp2_with fail)
      refine hK.out _ _ (by exact hold2a (by (with_reducible repeat' (first | exact Gr.refl _ | refine Gr.set ?_ _ ?_ _ | refine Gr.alloc ?_ | refine Gr.drew ?_ | refine Gr.trans ?_ (by assumption))) <;> (first | (simp; done) | (simp; omega) | omega)) c0 c1) (fun hHeldN => ?_)
      clear hHeld hK K
      have hHeld := hHeldN
      clear hHeldN
      refine ty 9 16 hHeld ?_
      refine ty 10 17 hHeld ?_
      refine ty 11 18 hHeld ?_
      refine tn 12 19 hHeld ?_
      refine tn 13 20 hHeld ?_
      refine tn 14 21 hHeld ?_
      refine tn 15 22 hHeld ?_
      refine tn 16 23 hHeld ?_
      refine tn 17 24 hHeld ?_
      refine tn 18 25 hHeld ?_
      refine tn 19 26 hHeld ?_
      refine ty 20 27 hHeld ?_
      refine wpAnyH_done (by kernel_rfl) ?_ _
      go_wp2
      go_ret
      exact ⟨by rw [HF.out]; rfl, HGW.out.trans (by (with_reducible repeat' (first | exact Gr.refl _ | refine Gr.set ?_ _ ?_ _ | refine Gr.alloc ?_ | refine Gr.drew ?_ | refine Gr.trans ?_ (by assumption))) <;> (first | (simp; done) | (simp; omega) | omega))⟩
    | true =>
      rw [hm] at H2
      have H4 := H4 hm
      have hne : ∀ w : World, (Op.equalIn 10000 82 (.agg (arrL (wrF A)).toArray) (.agg (arrL (mvF A M)).toArray)).run Try.prog w = .ok (A.all (Led.potsB M)) w := by intro w; rw [← HS]; exact arr_eqIn w 9997 _ _
      have HN : Hid (∀ w : World, (Op.equalIn 10000 82 (.agg (arrL (wrF A)).toArray) (.agg (arrL (mvF A M)).toArray)).run Try.prog w = .ok (A.all (Led.potsB M)) w) := hne
      have HF : Hid (mayL A M = if A.all (Led.potsB M) = true then 0 else 2) := by
        show _ = _
        unfold mayL
        rw [HE.out, ha, hm]; rfl
      have H2 : Hid (∀ w', Gr w w' → Calls Try.prog 40 #[.slice adM M.length capM, .func (.func 30) #[.slice adA A.length capA] #[]] w' fun e w2 => e = .returned (.bool true) ∧ Gr w' w2) := H2
      have H3 : Hid (∀ w', Gr w w' → Calls Try.prog 41 #[.slice adA A.length capA] w' fun e w2 => e = .returned (.agg (arrL (wrF A)).toArray) ∧ Gr w' w2) := H3
      have H4 : Hid (∀ w', Gr w w' → Calls Try.prog 42 #[.slice adM M.length capM, .func (.func 30) #[.slice adA A.length capA] #[]] w' fun e w2 => e = .returned (.agg (arrL (mvF A M)).toArray) ∧ Gr w' w2) := H4
      clear HS ha hm HE hne
      generalize (arrL (wrF A)).toArray = x1 at *
      generalize (arrL (mvF A M)).toArray = x2 at *
      generalize A.all (Led.potsB M) = pb at *
      go_enter Try.func14, Try.ntmps14
      go_wp2_with fail
      rw [← hW]
      clear hW
      refine wp_region_held_drew (S := (fun w' => Gr W w' ∧ w'.cell? ⟨w.heap.size, 0, none⟩ = some (.slice adA A.length capA) ∧ w'.cell? ⟨w.heap.size, 1, none⟩ = some (.slice adM M.length capM))) (by kernel_rfl) (by exact hold2a (by (with_reducible repeat' (first | exact Gr.refl _ | refine Gr.set ?_ _ ?_ _ | refine Gr.alloc ?_ | refine Gr.drew ?_ | refine Gr.trans ?_ (by assumption))) <;> (first | (simp; done) | (simp; omega) | omega)) c0 c1) (fun hHeld => ?_)
      refine ty 0 7 hHeld ?_
      refine ty 1 8 hHeld ?_
      refine wpAnyH_ready (rs := [2]) (by kernel_rfl) (by simp) (AllReadyH.cons rfl (fun K hK => ?_) AllReadyH.nil)
      go_simp
      (go_at_call 39; refine (H1.out _ (HGW.out.trans (by (with_reducible repeat' (first | exact Gr.refl _ | refine Gr.set ?_ _ ?_ _ | refine Gr.alloc ?_ | refine Gr.drew ?_ | refine Gr.trans ?_ (by assumption))) <;> (first | (simp; done) | (simp; omega) | omega)))).mono ?_; rintro e wn ⟨rfl, hgn⟩)
      (try go_wp2_with fail)
      refine hK.out _ _ (by exact hold2a (by (with_reducible repeat' (first | exact Gr.refl _ | refine Gr.set ?_ _ ?_ _ | refine Gr.alloc ?_ | refine Gr.drew ?_ | refine Gr.trans ?_ (by assumption))) <;> (first | (simp; done) | (simp; omega) | omega)) c0 c1) (fun hHeldN => ?_)
      clear hHeld hK K
      have hHeld := hHeldN
      clear hHeldN
      refine ty 3 10 hHeld ?_
      refine ty 4 11 hHeld ?_
      refine ty 5 12 hHeld ?_
      refine ty 6 13 hHeld ?_
      refine ty 7 14 hHeld ?_
      refine wpAnyH_ready (rs := [8]) (by kernel_rfl) (by simp) (AllReadyH.cons rfl (fun K hK => ?_) AllReadyH.nil)
      go_simp
      (go_at_call 40; refine (H2.out _ (HGW.out.trans (by (with_reducible repeat' (first | exact Gr.refl _ | refine Gr.set ?_ _ ?_ _ | refine Gr.alloc ?_ | refine Gr.drew ?_ | refine Gr.trans ?_ (by assumption))) <;> (first | (simp; done) | (simp; omega) | omega)))).mono ?_; rintro e wn2 ⟨rfl, hgn2⟩)
      (try go_wp2_with fail)
      refine hK.out _ _ (by exact hold2a (by (with_reducible repeat' (first | exact Gr.refl _ | refine Gr.set ?_ _ ?_ _ | refine Gr.alloc ?_ | refine Gr.drew ?_ | refine Gr.trans ?_ (by assumption))) <;> (first | (simp; done) | (simp; omega) | omega)) c0 c1) (fun hHeldN => ?_)
      clear hHeld hK K
      have hHeld := hHeldN
      clear hHeldN
      refine ty 9 16 hHeld ?_
      refine ty 10 17 hHeld ?_
      refine ty 11 18 hHeld ?_
      refine ty 12 19 hHeld ?_
      refine ty 13 20 hHeld ?_
      refine ty 15 22 hHeld ?_
      refine ty 16 23 hHeld ?_
      refine ty 17 24 hHeld ?_
      refine wpAnyH_ready (rs := [14]) (by kernel_rfl) (by simp) (AllReadyH.cons rfl (fun K hK => ?_) AllReadyH.nil)
      go_simp
      (go_at_call 41; refine (H3.out _ (HGW.out.trans (by (with_reducible repeat' (first | exact Gr.refl _ | refine Gr.set ?_ _ ?_ _ | refine Gr.alloc ?_ | refine Gr.drew ?_ | refine Gr.trans ?_ (by assumption))) <;> (first | (simp; done) | (simp; omega) | omega)))).mono ?_; rintro e wn3 ⟨rfl, hgn3⟩)
      (try go_wp2_with fail)
      refine hK.out _ _ (by exact hold2a (by (with_reducible repeat' (first | exact Gr.refl _ | refine Gr.set ?_ _ ?_ _ | refine Gr.alloc ?_ | refine Gr.drew ?_ | refine Gr.trans ?_ (by assumption))) <;> (first | (simp; done) | (simp; omega) | omega)) c0 c1) (fun hHeldN => ?_)
      clear hHeld hK K
      have hHeld := hHeldN
      clear hHeldN
      refine wpAnyH_ready (rs := [18]) (by kernel_rfl) (by simp) (AllReadyH.cons rfl (fun K hK => ?_) AllReadyH.nil)
      go_simp
      (go_at_call 42; refine (H4.out _ (HGW.out.trans (by (with_reducible repeat' (first | exact Gr.refl _ | refine Gr.set ?_ _ ?_ _ | refine Gr.alloc ?_ | refine Gr.drew ?_ | refine Gr.trans ?_ (by assumption))) <;> (first | (simp; done) | (simp; omega) | omega)))).mono ?_; rintro e wn4 ⟨rfl, hgn4⟩)
      (try go_wp2_with fail)
      refine hK.out _ _ (by exact hold2a (by (with_reducible repeat' (first | exact Gr.refl _ | refine Gr.set ?_ _ ?_ _ | refine Gr.alloc ?_ | refine Gr.drew ?_ | refine Gr.trans ?_ (by assumption))) <;> (first | (simp; done) | (simp; omega) | omega)) c0 c1) (fun hHeldN => ?_)
      clear hHeld hK K
      have hHeld := hHeldN
      clear hHeldN
      refine take_yes 19 26 (v := (.bool (!pb))) rfl rfl (by kernel_rfl) (by kernel_rfl) (by kernel_rfl) (fun _ _ _ h => h) (by rfl) (by (intro w hSw; have hn := HN.out w; clear hHeld hSw; go_simp)) hHeld ?_
      simp only [Act.put, List.setIfInBounds_toArray, List.set_cons_zero, List.set_cons_succ]
      refine ty 20 27 hHeld ?_
      refine wpAnyH_done (by kernel_rfl) ?_ _
      cases pb
      · go_wp2
        go_ret
        exact ⟨by rw [HF.out]; rfl, HGW.out.trans (by (with_reducible repeat' (first | exact Gr.refl _ | refine Gr.set ?_ _ ?_ _ | refine Gr.alloc ?_ | refine Gr.drew ?_ | refine Gr.trans ?_ (by assumption))) <;> (first | (simp; done) | (simp; omega) | omega))⟩
      · go_wp2
        go_ret
        exact ⟨by rw [HF.out]; rfl, HGW.out.trans (by (with_reducible repeat' (first | exact Gr.refl _ | refine Gr.set ?_ _ ?_ _ | refine Gr.alloc ?_ | refine Gr.drew ?_ | refine Gr.trans ?_ (by assumption))) <;> (first | (simp; done) | (simp; omega) | omega))⟩
end Go.Proofs.Ytgidkmipecfjhaa
namespace Go.Proofs.Ytgidkmipecfjhaa
open Go.RowKit
open Led (Acc Mk)
theorem own_litA (w : World) (base : Nat) (t : TypeId) (g : Nat) (hg : g = w.heap.size) (hb : base ≤ w.heap.size) : (w.alloc (.cells #[] t)).ownsRow base t 7 (.slice (some ⟨g, 0, none⟩) 0 0) 0 [] := by
  subst hg; exact World.ownsRow_lit w #[] 0 hb (by unfold maxLen; omega) rfl
theorem own_litM (w : World) (base : Nat) (t : TypeId) (g : Nat) (hg : g = w.heap.size) (hb : base ≤ w.heap.size) : (w.alloc (.cells #[] t)).ownsRow base t 5 (.slice (some ⟨g, 0, none⟩) 0 0) 0 [] := by
  subst hg; exact World.ownsRow_lit w #[] 0 hb (by unfold maxLen; omega) rfl
set_option maxHeartbeats 1000000 in
set_option maxRecDepth 100000 in
theorem cloneA_any (A : List Acc) (ad : Option Addr) (cap : Nat) (w : World) (hA : AccsAt w ad A) (hn : A.length ≤ 1000000) :
    Calls Try.prog 78 #[.slice ad A.length cap] w fun e w' => ∃ v, e = .returned v ∧ w'.ownsRow w.heap.size 31 7 v A.length (A.flatMap accC) ∧ Gr w w' := by
  obtain ⟨i0, hi, hz0, hz1, hz2⟩ := info_parts infoAcc
  cases ad with
  | none =>
    have hnil := RowAt.none accC_len (by omega) hA
    subst hnil
    have he : ∀ w : World, (binOp .eql 22 (.slice none 0 cap) (.slice none 0 0)).run Try.prog w = .ok (.bool true) w := fun _ => rfl
    clear hA hi hz0 hz1 hz2 hn
    rw [List.length_nil]
    go_enter Try.func78, Try.ntmps78
    go_wp2
    go_ret
    exact ⟨_, rfl, World.ownsRow_nil _ _ _ _, (by repeat (first | exact Gr.refl _ | refine Gr.alloc ?_ | refine Gr.drew ?_ | refine Gr.trans ?_ (by assumption)))⟩
  | some a =>
    have hnews := (hA.gr ((Gr.refl w).alloc (o := .cells #[] 31))).news
    have HN : Hid (∀ j u, (A.flatMap accC)[j]? = some u → (w.alloc (.cells #[] 31)).cell? (a.add j) = some u) := hnews
    have hln : (A.flatMap accC).length = A.length * 7 := flat_len accC_len A
    have hm1 : 0 + A.length ≤ maxLen := by unfold maxLen; omega
    clear hA hnews
    have he : ∀ w : World, (binOp .eql 22 (.slice (some a) A.length cap) (.slice none 0 0)).run Try.prog w = .ok (.bool false) w := fun _ => rfl
    go_enter Try.func78, Try.ntmps78
    go_wp2_with (first
      | (at_builtin; refine wpList_append_own _ rfl _ _ 22 rfl w.heap.size 31 i0 (.agg #[.string ⟨#[]⟩, .int .i64 0, .int .i64 0, .int .i64 0, .int .i64 0, .int .i64 0, .int .i64 0]) 7 64 Try.underlying22 hi hz0 hz1 hz2 rfl (by decide) _ _ _ rfl (own_litA _ _ _ _ (by simp) (by simp)) a A.length cap (A.flatMap accC) rfl hln HN.out (acc_one A) hm1 (by omega) (by simp) ?_)
      | fail)
    intro v' w1 hown' hgrow _
    have HI : Hid (w1.ownsRow w.heap.size 31 7 v' A.length (A.flatMap accC)) := by
      show World.ownsRow _ _ _ _ _ _ _
      simpa using hown'
    have hb1 : Below w.heap.size w (w.alloc (.cells #[] 31)) := (Below.refl w.heap.size w).alloc (Nat.le_refl _) _
    have HG : Hid (Gr w w1) := ⟨hb1.grown hgrow (by simp) (fun k hk => by simp [Value.ownBlock] at hk; omega)⟩
    clear hown'
    go_wp2
    go_ret
    exact ⟨v', rfl, HI.out, HG.out⟩
set_option maxHeartbeats 1000000 in
set_option maxRecDepth 100000 in
theorem cloneM_any (M : List Mk) (ad : Option Addr) (cap : Nat) (w : World) (hM : MksAt w ad M) (hn : M.length ≤ 1000000) :
    Calls Try.prog 79 #[.slice ad M.length cap] w fun e w' => ∃ v, e = .returned v ∧ w'.ownsRow w.heap.size 64 5 v M.length (M.flatMap mkC) ∧ Gr w w' := by
  obtain ⟨i0, hi, hz0, hz1, hz2⟩ := info_parts infoMk
  cases ad with
  | none =>
    have hnil := RowAt.none mkC_len (by omega) hM
    subst hnil
    have he : ∀ w : World, (binOp .eql 23 (.slice none 0 cap) (.slice none 0 0)).run Try.prog w = .ok (.bool true) w := fun _ => rfl
    clear hM hi hz0 hz1 hz2 hn
    rw [List.length_nil]
    go_enter Try.func79, Try.ntmps79
    go_wp2
    go_ret
    exact ⟨_, rfl, World.ownsRow_nil _ _ _ _, (by repeat (first | exact Gr.refl _ | refine Gr.alloc ?_ | refine Gr.drew ?_ | refine Gr.trans ?_ (by assumption)))⟩
  | some a =>
    have hnews := (hM.gr ((Gr.refl w).alloc (o := .cells #[] 64))).news
    have HN : Hid (∀ j u, (M.flatMap mkC)[j]? = some u → (w.alloc (.cells #[] 64)).cell? (a.add j) = some u) := hnews
    have hln : (M.flatMap mkC).length = M.length * 5 := flat_len mkC_len M
    have hm1 : 0 + M.length ≤ maxLen := by unfold maxLen; omega
    clear hM hnews
    have he : ∀ w : World, (binOp .eql 23 (.slice (some a) M.length cap) (.slice none 0 0)).run Try.prog w = .ok (.bool false) w := fun _ => rfl
    go_enter Try.func79, Try.ntmps79
    go_wp2_with (first
      | (at_builtin; refine wpList_append_own _ rfl _ _ 23 rfl w.heap.size 64 i0 (.agg #[.string ⟨#[]⟩, .int .i64 0, .string ⟨#[]⟩, .int .i64 0, .int .i64 0]) 5 56 Try.underlying23 hi hz0 hz1 hz2 rfl (by decide) _ _ _ rfl (own_litM _ _ _ _ (by simp) (by simp)) a M.length cap (M.flatMap mkC) rfl hln HN.out (mk_one M) hm1 (by omega) (by simp) ?_)
      | fail)
    intro v' w1 hown' hgrow _
    have HI : Hid (w1.ownsRow w.heap.size 64 5 v' M.length (M.flatMap mkC)) := by
      show World.ownsRow _ _ _ _ _ _ _
      simpa using hown'
    have hb1 : Below w.heap.size w (w.alloc (.cells #[] 64)) := (Below.refl w.heap.size w).alloc (Nat.le_refl _) _
    have HG : Hid (Gr w w1) := ⟨hb1.grown hgrow (by simp) (fun k hk => by simp [Value.ownBlock] at hk; omega)⟩
    clear hown'
    go_wp2
    go_ret
    exact ⟨v', rfl, HI.out, HG.out⟩
end Go.Proofs.Ytgidkmipecfjhaa
namespace Go.Proofs.Ytgidkmipecfjhaa
open Go.RowKit
theorem step_append_own {P : Program} {w : World} {ops : Array Oper} {o : Oper} {a : Act} {K : Act → World → Prop} {Q : Exit → Act → World → Prop} {E : Prop} (hgd : o.guard = none) (s x : Operand) (t : TypeId)
    (ho : o.op = .call { callee := .builtin .append, args := #[s, x], argTypes := #[t, t] })
    (base : Nat) (e : TypeId) (i : TypeInfo) (z : Value) (size bytes : Nat) (ht : P.underlying t = some (.slice e)) (hi : P.info? e = some i) (hz : i.zero = some z)
    (hsize : i.size = size) (hby : i.bytes = bytes) (hzs : z.cells.size = size) (hsz : 0 < size)
    (v : Value) (n : Nat) (xs : List Value) (hs : a.eval s = v) (hown : w.ownsRow base e size v n xs)
    (ad : Addr) (m c : Nat) (news : List Value) (hx : a.eval x = .slice (some ad) m c) (hl : news.length = m * size) (hnews : ∀ j u, news[j]? = some u → w.cell? (ad.add j) = some u) (h1 : ∀ u ∈ news, u.oneCell' = true)
    (h63 : n + m ≤ maxLen) (hbytes : (n + m) * bytes ≤ 140737488355328) (hbase : base ≤ w.heap.size)
    (h : ∀ v' w', w'.ownsRow base e size v' (n + m) (xs ++ news) → w.grownBy w' v.ownBlock → (v' = .slice none 0 0 ↔ v = .slice none 0 0 ∧ m = 0) → K (a.put o.dst v') w') :
    if Region.wanted o (yielded ops a.tmps) = true then Oper.wp P o a w K Q else E := by
  have hw : Region.wanted o (yielded ops a.tmps) = true := by simp [Region.wanted, hgd]
  rw [if_pos hw]
  exact wp_append_own w s x t ho base e i z size bytes ht hi hz hsize hby hzs hsz v n xs hs hown ad m c news hx hl hnews h1 h63 hbytes hbase h
theorem own_low {w : World} {base base' : Nat} {e : TypeId} {size n : Nat} {v : Value} {xs : List Value} (h : w.ownsRow base e size v n xs) (hb : base' ≤ base) : w.ownsRow base' e size v n xs := by
  obtain ⟨h1, ⟨rfl, h2⟩ | ⟨g, cap, cur, rfl, h3, h4⟩⟩ := h
  · exact ⟨h1, Or.inl ⟨rfl, h2⟩⟩
  · exact ⟨h1, Or.inr ⟨g, cap, cur, rfl, Nat.le_trans hb h3, h4⟩⟩
theorem Gr.grown {a b c : World} (h : Gr a b) {r : Option Nat} (k : b.grownBy c r) (hr : ∀ g, r = some g → a.heap.size ≤ g) : Gr a c := ⟨h.below.grown k h.below.size hr⟩
end Go.Proofs.Ytgidkmipecfjhaa
