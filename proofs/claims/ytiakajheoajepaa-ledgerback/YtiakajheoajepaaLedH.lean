/- ledger: what is pending by what the marks say. -/
import Derived.Test.YtiakajheoajepaaLedG
namespace Go.Proofs.Ytiakajheoajepaa
open Go.RowKit
open Led (Acc Mk)

def pend4 (s : ByteArray) (i : Nat) (M : List Mk) : Int := match i with | 0 => Led.sm (Led.gFI s) M | 1 => Led.sm (Led.gFO s) M | 2 => Led.sm (Led.gKI s) M | _ => Led.sm (Led.gKO s) M
def g4 (s : ByteArray) (i : Nat) (m : Mk) : Int := match i with | 0 => Led.gFI s m | 1 => Led.gFO s m | 2 => Led.gKI s m | _ => Led.gKO s m
def mvF (A : List Acc) (M : List Mk) (j : Nat) : Int := match A[j / 4]? with | some x => pend4 x.s (j % 4) M | none => 0
theorem pend_snoc (s : ByteArray) (i : Nat) (T : List Mk) (m : Mk) : pend4 s i (T ++ [m]) = pend4 s i T + g4 s i m := by
  unfold pend4 g4
  split <;> (rw [Led.sm_app]; simp [Led.sm])
theorem g4_not (s : ByteArray) (i : Nat) (m : Mk) (h : Led.hit s m = false) : g4 s i m = 0 := by
  unfold g4 Led.gFI Led.gFO Led.gKI Led.gKO
  split <;> rw [h] <;> rfl
theorem hit_not {s : ByteArray} {m : Mk} (h : m.t ≠ s ∨ m.st ≠ 1) : Led.hit s m = false := by
  unfold Led.hit
  rcases h with h | h
  · rw [decide_eq_false h]; rfl
  · rw [decide_eq_false h]; simp
theorem hit_yes {m : Mk} (h : m.st = 1) : Led.hit m.t m = true := by unfold Led.hit; rw [decide_eq_true rfl, decide_eq_true h]; rfl
theorem mv_not (A : List Acc) (T : List Mk) (m : Mk) (h : m.st ≠ 1) (j : Nat) : mvF A T j = mvF A (T ++ [m]) j := by
  unfold mvF
  split
  · rw [pend_snoc, g4_not _ _ _ (hit_not (Or.inr h))]; omega
  · rfl
theorem mv_done (A : List Acc) (T : List Mk) (m : Mk) (hu : Led.upB (Led.nm A) = true) (hm : m.t ∈ Led.nm A) (hst : m.st = 1) (p : Nat) (hp : p = Led.pos (Led.nm A) m.t) (j : Nat) :
    upd (upd (upd (upd (mvF A T) (p * 4) (mvF A T (p * 4) + max (Led.amF m) 0)) (p * 4 + 1) (mvF A T (p * 4 + 1) + max (-Led.amF m) 0)) (p * 4 + 2) (mvF A T (p * 4 + 2) + max (Led.amK m) 0)) (p * 4 + 3) (mvF A T (p * 4 + 3) + max (-Led.amK m) 0) j = mvF A (T ++ [m]) j := by
  obtain ⟨h1, h2⟩ := Led.pos_mem hu hm
  rw [Led.nm_len] at h1
  rw [← hp] at h1
  have hx : A[p]? = some A[p] := List.getElem?_eq_getElem h1
  have hs : A[p].s = m.t := by
    have := Led.nm_get A p h1
    rw [← this]
    subst hp
    exact h2
  have hh := hit_yes hst
  by_cases h0 : j = p * 4 + 3
  · subst h0
    unfold upd; rw [if_pos rfl]
    unfold mvF
    rw [show (p * 4 + 3) / 4 = p by omega, hx, show (p * 4 + 3) % 4 = 3 by omega]
    simp only [pend_snoc, hs]
    unfold g4 Led.gKO; rw [if_pos hh]; rfl
  by_cases h3 : j = p * 4 + 2
  · subst h3
    unfold upd; rw [if_neg h0, if_pos rfl]
    unfold mvF
    rw [show (p * 4 + 2) / 4 = p by omega, hx, show (p * 4 + 2) % 4 = 2 by omega]
    simp only [pend_snoc, hs]
    unfold g4 Led.gKI; rw [if_pos hh]; rfl
  by_cases h4 : j = p * 4 + 1
  · subst h4
    unfold upd; rw [if_neg h0, if_neg h3, if_pos rfl]
    unfold mvF
    rw [show (p * 4 + 1) / 4 = p by omega, hx, show (p * 4 + 1) % 4 = 1 by omega]
    simp only [pend_snoc, hs]
    unfold g4 Led.gFO; rw [if_pos hh]; rfl
  by_cases h5 : j = p * 4
  · subst h5
    unfold upd; rw [if_neg h0, if_neg h3, if_neg h4, if_pos rfl]
    unfold mvF
    rw [show (p * 4) / 4 = p by omega, hx, show (p * 4) % 4 = 0 by omega]
    simp only [pend_snoc, hs]
    unfold g4 Led.gFI; rw [if_pos hh]; rfl
  unfold upd; rw [if_neg h0, if_neg h3, if_neg h4, if_neg h5]
  unfold mvF
  have hne : j / 4 ≠ p := by omega
  cases hy : A[j / 4]? with
  | none => rfl
  | some y =>
    obtain ⟨hj, hy'⟩ := List.getElem?_eq_some_iff.1 hy
    have : y.s ≠ m.t := fun e => hne (by
      have e1 := Led.nm_get A (j / 4) hj
      have e2 := Led.nm_get A p h1
      exact Led.up_one hu (by rw [Led.nm_len]; exact hj) (by rw [Led.nm_len]; exact h1) (by rw [e1, e2, hy', e, hs]))
    simp only [pend_snoc]
    rw [g4_not _ _ _ (hit_not (Or.inl fun e => this e.symm))]; omega
theorem mv_bound (A : List Acc) (T : List Mk) (h : ∀ m ∈ T, Act.actB m.k m.t m.n = true) (hl : T.length ≤ 500) (j : Nat) : -1000000000000000000 ≤ mvF A T j ∧ mvF A T j ≤ 1000000000000000000 := by
  unfold mvF
  split
  · rename_i x _
    have key : ∀ i, -(1000000000000000 * (T.length : Int)) ≤ pend4 x.s i T ∧ pend4 x.s i T ≤ 1000000000000000 * (T.length : Int) := by
      intro i
      unfold pend4
      split <;> (refine Led.sm_bound 1000000000000000 (fun m hm => ?_); have := Led.am_rng (h m hm)) <;> (first | unfold Led.gFI | unfold Led.gFO | unfold Led.gKI | unfold Led.gKO) <;> split <;> omega
    have := key (j % 4)
    omega
  · omega

set_option maxHeartbeats 4000000 in
set_option maxRecDepth 100000 in
theorem changesM_any (A : List Acc) (M : List Mk) (adA : Option Addr) (capA : Nat) (ad : Option Addr) (cap F P : Nat) (w0 w : World) (hA : AccsAt w0 adA A) (hu : Led.upB (Led.nm A) = true) (hn : A.length ≤ 12) (hM : MksAt w0 ad M) (hmk : Led.mksB A M = true)
    (hF : w0.cell? ⟨F, 0, none⟩ = some (.func (.func 30) #[.slice adA A.length capA] #[])) (hP : w0.heap.size ≤ P) (hg : Gr w0 w) (hf : ArrAt w P (fun _ => 0)) :
    Calls Try.prog 33 #[.slice ad M.length cap, .func (.func 72) #[] #[.pointer (some ⟨F, 0, none⟩), .pointer (some ⟨P, 0, none⟩)]] w fun e w' => e = .returned (.tuple #[]) ∧ ArrAt w' P (mvF A M) ∧ Gr w0 w' := by
  obtain ⟨hl5, hok, hup⟩ := (Led.mks_iff A M).1 hmk
  have HL : Hid (MksAt w0 ad M) := hM
  have HD : Hid (∀ m w', m ∈ M → Calls Try.prog 29 #[.agg #[.int .i64 m.k, .string m.t, .int .i64 m.n]] w' fun e w2 => e = .returned (.tuple #[.int .i64 (Led.amF m), .int .i64 (Led.amK m)]) ∧ Gr w' w2) := by
    intro m w' hm
    obtain ⟨_, h2, _⟩ := (Led.mk_iff A m).1 (hok m hm)
    have h16 := (Act.name_pos ((Act.act_iff _ _ _).1 h2).2.1).2
    exact delta_any m.k m.n m.t w' (by omega)
  have HC : Hid (∀ (k : Nat) (h : k < M.length) w', Gr w0 w' → ArrAt w' P (mvF A (M.take k)) → Calls Try.prog 72 #[.agg #[.string M[k].key, .int .i64 M[k].k, .string M[k].t, .int .i64 M[k].n, .int .i64 M[k].st], .int .i64 (Led.amF M[k]), .int .i64 (Led.amK M[k]), .pointer (some ⟨F, 0, none⟩), .pointer (some ⟨P, 0, none⟩)] w' fun e w2 => e = .returned (.tuple #[]) ∧ ArrAt w2 P (mvF A (M.take (k + 1))) ∧ Gr w0 w2) := by
    intro k h w' g hf'
    have hm := List.getElem_mem h
    obtain ⟨_, h2, h3, _⟩ := (Led.mk_iff A M[k]).1 (hok _ hm)
    have hr := Led.am_rng h2
    have hb := mv_bound A (M.take k) (fun m hm => ((Led.mk_iff A m).1 (hok m (List.mem_of_mem_take hm))).2.1) (by rw [List.length_take]; omega)
    by_cases hst : M[k].st = 1
    · refine (moved1_done A M[k] (Led.amF M[k]) (Led.amK M[k]) F P adA capA (mvF A (M.take k)) w0 w' hA hu hn h3 hst hF hP g hf' hr.1 hr.2 hb).mono ?_
      rintro e w2 ⟨he, ha, hg2⟩
      refine ⟨he, ha.congr (fun j _ => ?_), hg2⟩
      rw [mv_done A (M.take k) M[k] hu h3 hst _ rfl j, List.take_succ_eq_append_getElem h]
    · refine (moved1_not M[k] (Led.amF M[k]) (Led.amK M[k]) F P (mvF A (M.take k)) w0 w' hst g hf').mono ?_
      rintro e w2 ⟨he, ha, hg2⟩
      refine ⟨he, ha.congr (fun j _ => ?_), hg2⟩
      rw [mv_not A (M.take k) M[k] hst j, List.take_succ_eq_append_getElem h]
  have HS : Hid (ArrAt w P (mvF A (M.take 0))) := hf.congr (fun j _ => by unfold mvF; split <;> first | rfl | (unfold pend4; split <;> rfl))
  have HG : Hid (Gr w0 w) := hg
  clear hA hu hn hM hmk hF hg hf hok hup
  go_enter Try.func33, Try.ntmps33
  go_wp2
  go_loopw [10] (fun s10 wr => ∃ k : Nat, s10 = .int .i64 k ∧ k ≤ M.length ∧ ArrAt wr P (mvF A (M.take k)) ∧ Gr w0 wr) (fun s10 _ => M.length - (intOf s10).toNat)
  case atStart => exact ⟨0, rfl, Nat.zero_le _, HS.out, HG.out⟩
  case round =>
    clear HS HG
    obtain ⟨k, rfl, hk, ha, hg⟩ := hrel
    have HAr : Hid (ArrAt wr P (mvF A (M.take k))) := ha
    have HG : Hid (Gr w0 wr) := hg
    clear ha hg
    by_cases hlt : k < M.length
    · obtain ⟨b, off, rfl, hb, d0, d1, d2, d3, d4⟩ := (MksAt.at HL.out k hlt)
      have d0 := HG.out.keep d0
      have d1 := HG.out.keep d1
      have d2 := HG.out.keep d2
      have d3 := HG.out.keep d3
      have d4 := HG.out.keep d4
      have hbw : b < wr.heap.size := Nat.lt_of_lt_of_le hb HG.out.size
      have hki : (k : Int) < (M.length : Int) := by omega
      have hD := fun w' => HD.out M[k] w' (List.getElem_mem hlt)
      have hC := HC.out k hlt
      clear HC HD
      generalize Led.amF M[k] = fr at *
      generalize Led.amK M[k] = kp at *
      generalize M[k] = x at *
      have HD1 : Hid (∀ w', Calls Try.prog 29 #[.agg #[.int .i64 x.k, .string x.t, .int .i64 x.n]] w' fun e w2 => e = .returned (.tuple #[.int .i64 fr, .int .i64 kp]) ∧ Gr w' w2) := hD
      have HC1 : Hid (∀ w', Gr w0 w' → ArrAt w' P (mvF A (M.take k)) → Calls Try.prog 72 #[.agg #[.string x.key, .int .i64 x.k, .string x.t, .int .i64 x.n, .int .i64 x.st], .int .i64 fr, .int .i64 kp, .pointer (some ⟨F, 0, none⟩), .pointer (some ⟨P, 0, none⟩)] w' fun e w2 => e = .returned (.tuple #[]) ∧ ArrAt w2 P (mvF A (M.take (k + 1))) ∧ Gr w0 w2) := hC
      clear hD hC
      go_wp2_with fail
      refine (HD1.out _).mono ?_
      rintro e w1 ⟨rfl, hg1⟩
      obtain ⟨b0, b1, b2, b3, b4, _, b6⟩ := (FiveAt.new wr _ _ _ _ _ _ wr.heap.size rfl).gr hg1
      have HG1 : Hid (Gr w0 w1) := HG.out.alloc.trans hg1
      have HAr1 : Hid (ArrAt w1 P (mvF A (M.take k))) := HAr.out.gr ((Gr.refl wr).alloc.trans hg1)
      clear hg1 HG HAr d0 d1 d2 d3 d4
      go_wp2_with fail
      refine (HC1.out _ HG1.out HAr1.out).mono ?_
      rintro e w2 ⟨rfl, ha2, hg2⟩
      have HG2 : Hid (Gr w0 w2) := hg2
      have HAr2 : Hid (ArrAt w2 P (mvF A (M.take (k + 1)))) := ha2
      clear ha2 hg2
      go_wp2
      go_roundw
      case rel => exact ⟨k + 1, by go_num, by omega, HAr2.out, HG2.out⟩
      case measure => simp [intOf]; omega
    · have hge : ¬ ((k : Int) < (M.length : Int)) := by omega
      obtain rfl : k = M.length := by omega
      have HE : Hid (ArrAt wr P (mvF A M)) := by have := HAr.out; rw [List.take_length] at this; exact this
      go_wp2
      go_end0
      exact ⟨rfl, HE.out, HG.out⟩

set_option maxHeartbeats 4000000 in
set_option maxRecDepth 100000 in
theorem moved_any (A : List Acc) (M : List Mk) (adA : Option Addr) (capA : Nat) (ad : Option Addr) (cap : Nat) (w : World) (hA : AccsAt w adA A) (hu : Led.upB (Led.nm A) = true) (hn : A.length ≤ 12) (hM : MksAt w ad M) (hmk : Led.mksB A M = true) :
    Calls Try.prog 42 #[.slice ad M.length cap, .func (.func 30) #[.slice adA A.length capA] #[]] w fun e w' => e = .returned (.agg (arrL (mvF A M)).toArray) ∧ Gr w w' := by
  have HC : Hid (∀ (F P : Nat) (w0 w' : World), Gr w w0 → w0.cell? ⟨F, 0, none⟩ = some (.func (.func 30) #[.slice adA A.length capA] #[]) → w0.heap.size ≤ P → Gr w0 w' → ArrAt w' P (fun _ => 0) →
      Calls Try.prog 33 #[.slice ad M.length cap, .func (.func 72) #[] #[.pointer (some ⟨F, 0, none⟩), .pointer (some ⟨P, 0, none⟩)]] w' fun e w2 => e = .returned (.tuple #[]) ∧ ArrAt w2 P (mvF A M) ∧ Gr w0 w2) :=
    fun F P w0 w' g h1 h2 h3 h4 => changesM_any A M adA capA ad cap F P w0 w' (hA.gr g) hu hn (hM.gr g) hmk h1 h2 h3 h4
  have hut := Try.underlying82
  clear hA hu hn hM hmk
  have hmf : ∀ (fn : Fn) (first cap : Array Value) (w : World), (Instr.makeFunc fn first cap).run Try.prog w = .ok (.func fn first cap) w := fun _ _ _ _ => rfl
  go_enter Try.func42, Try.ntmps42
  go_wp2_with fail
  have gw : Gr w ((w.alloc (.cells #[.func (.func 30) #[.slice adA A.length capA] #[]] 108)).alloc (.cells (arrL (fun _ => 0)).toArray 82)) := (Gr.refl _).alloc.alloc
  have hR : ArrAt ((w.alloc (.cells #[.func (.func 30) #[.slice adA A.length capA] #[]] 108)).alloc (.cells (arrL (fun _ => 0)).toArray 82)) (w.heap.size + 1) (fun _ => 0) := ArrAt.new _ _ _ _ _ (by simp) rfl
  have hP : ArrAt (((w.alloc (.cells #[.func (.func 30) #[.slice adA A.length capA] #[]] 108)).alloc (.cells (arrL (fun _ => 0)).toArray 82)).alloc (.cells (arrL (fun _ => 0)).toArray 82)) (w.heap.size + 1 + 1) (fun _ => 0) := ArrAt.new _ _ _ _ _ (by simp) rfl
  have HR : Hid (ArrAt _ _ _) := hR
  have HW : Hid (Gr w _) := gw
  refine (HC.out w.heap.size (w.heap.size + 1 + 1) ((w.alloc (.cells #[.func (.func 30) #[.slice adA A.length capA] #[]] 108)).alloc (.cells (arrL (fun _ => 0)).toArray 82)) _ gw (by simp) (by simp) (Gr.refl _).alloc hP).mono ?_
  rintro e w2 ⟨rfl, ha2, hg2⟩
  have HR2 : Hid (ArrAt w2 (w.heap.size + 1) (fun _ => 0)) := HR.out.gr hg2
  have HA2 : Hid (ArrAt w2 (w.heap.size + 1 + 1) (mvF A M)) := ha2
  have HG2 : Hid (Gr w w2) := HW.out.trans hg2
  clear HR HW hR hP gw ha2 hg2 HC
  go_wp2_with (first
    | (refine wpList_load_mid rfl 82 _ rfl (w.heap.size + 1 + 1) 0 rfl (arrL (mvF A M)) _ HA2.out.range hut rfl (by rw [arrL_len]; exact arr_size) ?_)
    | (refine wpList_store_mid rfl 82 _ _ rfl (w.heap.size + 1) 0 (arrL (mvF A M)).toArray rfl rfl (by simpa [arrL_len] using HR2.out.there) (by rw [List.size_toArray, arrL_len]; exact arr_size) (all_oneCell_toArray (arrL_one _)) ?_)
    | fail)
  exact bodyPost_ret (v := .agg (arrL (mvF A M)).toArray) (results_arr Try.results42 _ _ _ _ rfl (HR2.out.stored _)) rfl ⟨rfl, HG2.out.setCells _ (by omega) _ _⟩
end Go.Proofs.Ytiakajheoajepaa
