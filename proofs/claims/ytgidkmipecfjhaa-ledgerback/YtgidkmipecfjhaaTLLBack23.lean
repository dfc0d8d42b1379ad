/- What the proof is made of, part 23. -/
import Derived.Test.YtgidkmipecfjhaaTLLBack22
import Derived.Laws.Externs
import Derived.Maps.AppendAt
namespace Go.Proofs.Ytgidkmipecfjhaa
open Led (Acc Mk)
def Bal (A : List Acc) (M : List Mk) (F : List (ByteArray × Int)) : Prop :=
  F.length = A.length ∧ ∀ q ∈ F, ∃ x ∈ A, x.s = q.1 ∧ x.a = q.2 + Led.sm (Led.gNF q.1) M ∧ x.x = Led.sm (Led.gNK q.1) M
theorem bal_change {A : List Acc} {M M' : List Mk} {F : List (ByteArray × Int)} {p : Nat} {y : Acc} {t : ByteArray} {d g : Int} (h : Bal A M F) (hu : Led.upB (Led.nm A) = true) (hp : p < A.length) (ht : A[p].s = t) (hy : y.s = t) (ha : y.a = A[p].a + d) (hx : y.x = A[p].x + g)
    (s1 : ∀ s, Led.sm (Led.gNF s) M' = Led.sm (Led.gNF s) M + if t = s then d else 0) (s2 : ∀ s, Led.sm (Led.gNK s) M' = Led.sm (Led.gNK s) M + if t = s then g else 0) : Bal (A.set p y) M' F := by
  refine ⟨by rw [List.length_set]; exact h.1, fun q hq => ?_⟩
  obtain ⟨x, hx1, hx2, hx3, hx4⟩ := h.2 q hq
  obtain ⟨j, hj, rfl⟩ := List.getElem_of_mem hx1
  by_cases e : j = p
  · subst e
    have hts : t = q.1 := by rw [← ht, hx2]
    refine ⟨y, ?_, by rw [hy, hts], ?_, ?_⟩
    · have : (A.set j y)[j]'(by rw [List.length_set]; exact hj) = y := List.getElem_set_self _
      exact List.mem_iff_getElem.2 ⟨j, by rw [List.length_set]; exact hj, this⟩
    · rw [s1, if_pos hts, ha, hx3]; omega
    · rw [s2, if_pos hts, hx, hx4]
  · have hts : ¬ t = q.1 := fun e2 => e (Led.up_one hu (by rw [Led.nm_len]; exact hj) (by rw [Led.nm_len]; exact hp) (by rw [Led.nm_get A j hj, Led.nm_get A p hp, hx2, ht, e2]))
    refine ⟨A[j], ?_, hx2, ?_, ?_⟩
    · have : (A.set p y)[j]'(by rw [List.length_set]; exact hj) = A[j] := List.getElem_set_ne (fun e2 => e e2.symm) _
      exact List.mem_iff_getElem.2 ⟨j, by rw [List.length_set]; exact hj, this⟩
    · rw [s1, if_neg hts, hx3]; omega
    · rw [s2, if_neg hts, hx4]; omega
theorem bal_open {A : List Acc} {M : List Mk} {F : List (ByteArray × Int)} {s : ByteArray} {n : Int} (h : Bal A M F) (he : openE A M s n = 0) : Bal (openA A s n) M (F ++ [(s, n)]) := by
  obtain ⟨hm, _, _, hh, _⟩ := open_parts he
  have hM := (Led.may_iff A M).1 hm
  have hns : s ∉ Led.nm A := fun hs => by rw [(Led.has_iff _ _).2 hs] at hh; cases hh
  refine ⟨by rw [open_len, List.length_append, h.1]; rfl, fun q hq => ?_⟩
  rcases List.mem_append.1 hq with hq | hq
  · obtain ⟨x, hx1, hx2⟩ := h.2 q hq
    refine ⟨x, ?_, hx2⟩
    unfold openA
    rw [← List.take_append_drop (Led.pos (Led.nm A) s) A] at hx1
    rcases List.mem_append.1 hx1 with h1 | h1
    · exact List.mem_append.2 (Or.inl h1)
    · exact List.mem_append.2 (Or.inr (List.mem_cons.2 (Or.inr h1)))
  · obtain rfl : q = (s, n) := by simpa using hq
    have z : ∀ m ∈ M, ¬ Led.eff s m = true := fun m hmm he => by
      have h1 := ((Led.mk_iff A m).1 (hM.om m hmm)).2.2.1
      unfold Led.eff at he
      simp only [Bool.and_eq_true, decide_eq_true_eq] at he
      rw [he.1] at h1
      exact hns h1
    have z1 : Led.sm (Led.gNF s) M = 0 := Led.sm_zero fun m hmm => by unfold Led.gNF; rw [if_neg (z m hmm)]
    have z2 : Led.sm (Led.gNK s) M = 0 := Led.sm_zero fun m hmm => by unfold Led.gNK; rw [if_neg (z m hmm)]
    refine ⟨newA s n, ?_, rfl, ?_, ?_⟩
    · unfold openA
      exact List.mem_append.2 (Or.inr (List.mem_cons.2 (Or.inl rfl)))
    · show n = n + Led.sm (Led.gNF s) M
      rw [z1]; omega
    · show (0 : Int) = Led.sm (Led.gNK s) M
      rw [z2]
theorem bal_do {A : List Acc} {M : List Mk} {F : List (ByteArray × Int)} {key : ByteArray} {k : Int} {t : ByteArray} {n : Int} (h : Bal A M F) (he : doE A M key k t n = 0) : Bal (doA A M key k t n) (doM M key k t n) F := by
  obtain ⟨hm, hk, hab, ⟨hh, _⟩ | ⟨hh, ha, hl, hmv⟩⟩ := do_parts he
  · unfold doA doM; rw [hh, if_pos rfl, if_pos rfl]; exact h
  · have hM := (Led.may_iff A M).1 hm
    obtain ⟨hp, hpx⟩ := Led.pos_mem hM.ua ((Led.has_iff _ _).1 ha)
    rw [Led.nm_len] at hp
    rw [Led.nm_get A _ hp] at hpx
    have hat : atA A t = A[Led.pos (Led.nm A) t] := by unfold atA; rw [List.getD_eq_getElem?_getD, List.getElem?_eq_getElem hp]; rfl
    obtain ⟨_, _, _, hy0, _⟩ := Led.mv_do hmv
    have hy : mvA Act.chDo (atA A t) k n = _ := hy0
    unfold doA doM
    rw [hh, if_neg (by decide), if_neg (by decide), hy]
    refine bal_change h hM.ua hp hpx (by show (atA A t).s = t; rw [hat]; exact hpx) (d := Act.dF k t n) (g := Act.dK k t n) ?_ ?_ ?_ ?_
    · rw [hat]; show _ + _ * _ = _; omega
    · rw [hat]; show _ + _ * _ = _; omega
    · intro s
      unfold insK
      rw [Led.sm_ins]
      congr 1
      unfold Led.gNF Led.eff Led.amF
      by_cases e : t = s
      · simp [e]
      · simp [e]
    · intro s
      unfold insK
      rw [Led.sm_ins]
      congr 1
      unfold Led.gNK Led.eff Led.amK
      by_cases e : t = s
      · simp [e]
      · simp [e]
theorem eff_at {s : ByteArray} {m : Mk} : (Led.eff s m = true ↔ m.t = s ∧ m.st ≠ 2) := by
  unfold Led.eff
  simp only [Bool.and_eq_true, decide_eq_true_eq, Bool.not_eq_true', decide_eq_false_iff_not, ne_eq]
theorem g_at (s : ByteArray) (m : Mk) : Led.gNF s m = (if m.t = s ∧ m.st ≠ 2 then Led.amF m else 0) ∧ Led.gNK s m = (if m.t = s ∧ m.st ≠ 2 then Led.amK m else 0) := by
  unfold Led.gNF Led.gNK
  by_cases h : m.t = s ∧ m.st ≠ 2
  · rw [if_pos (eff_at.2 h), if_pos (eff_at.2 h), if_pos h, if_pos h]; exact ⟨rfl, rfl⟩
  · rw [if_neg (fun e => h (eff_at.1 e)), if_neg (fun e => h (eff_at.1 e)), if_neg h, if_neg h]; exact ⟨rfl, rfl⟩
theorem bal_end {C : Act.Ch} {st : Int} {A : List Acc} {M : List Mk} {F : List (ByteArray × Int)} {key : ByteArray} (hC : (C = Act.chUn ∧ st = 2) ∨ (C = Act.chKe ∧ st = 3)) (h : Bal A M F) (he : endE C st A M key = 0) : Bal (endA C st A M key) (endM st M key) F := by
  obtain ⟨hm, hk, hh, h1 | ⟨h1, h2⟩⟩ := end_parts he
  · unfold endA endM; rw [if_pos h1, if_pos h1]; exact h
  · have hM := (Led.may_iff A M).1 hm
    obtain ⟨hp, hx, hxs, hq, hmx, _, _, ⟨_, hun, _⟩, ⟨_, hke, _⟩⟩ := done_mark hM ((Led.has_iff _ _).1 hh) h2
    unfold endA endM
    rw [if_neg h1, if_neg h1]
    have hps : A[Led.pos (Led.nm A) (atM M key).t].s = (atM M key).t := by rw [hx]; exact hxs
    have g0 : ∀ s, Led.gNF s M[Led.pos (Led.ky M) key] = (if (atM M key).t = s then Led.amF (atM M key) else 0) ∧ Led.gNK s M[Led.pos (Led.ky M) key] = (if (atM M key).t = s then Led.amK (atM M key) else 0) := fun s => by
      rw [hmx, (g_at s _).1, (g_at s _).2, h2]
      simp
    rcases hC with ⟨rfl, rfl⟩ | ⟨rfl, rfl⟩
    · rw [hun]
      refine bal_change h hM.ua hp hps hxs (d := -Led.amF (atM M key)) (g := -Led.amK (atM M key)) ?_ ?_ ?_ ?_
      · rw [hx]; show _ + _ * _ = _; omega
      · rw [hx]; show _ + _ * _ = _; omega
      · intro s
        rw [Led.sm_set _ _ _ hq, (g0 s).1, (g_at s _).1]
        by_cases e : (atM M key).t = s
        · simp [e]; omega
        · simp [e]
      · intro s
        rw [Led.sm_set _ _ _ hq, (g0 s).2, (g_at s _).2]
        by_cases e : (atM M key).t = s
        · simp [e]; omega
        · simp [e]
    · rw [hke]
      refine bal_change h hM.ua hp hps hxs (d := 0) (g := 0) ?_ ?_ ?_ ?_
      · rw [hx]; show _ + _ * _ = _; omega
      · rw [hx]; show _ + _ * _ = _; omega
      · intro s
        rw [Led.sm_set _ _ _ hq, (g0 s).1, (g_at s _).1]
        by_cases e : (atM M key).t = s
        · simp [e, Led.amF]
        · simp [e]
      · intro s
        rw [Led.sm_set _ _ _ hq, (g0 s).2, (g_at s _).2]
        by_cases e : (atM M key).t = s
        · simp [e, Led.amK]
        · simp [e]
def stF (A : List Acc) (M : List Mk) (F : List (ByteArray × Int)) (q : Cal) : List (ByteArray × Int) := if stE A M q = 0 ∧ q.kd = 0 then F ++ [(q.t, q.n)] else F
theorem bal_st {A : List Acc} {M : List Mk} {F : List (ByteArray × Int)} (h : Bal A M F) (q : Cal) : Bal (stA A M q) (stM A M q) (stF A M F q) := by
  unfold stA stM stF
  by_cases he : stE A M q = 0
  · rw [if_pos he, if_pos he]
    have he' := he
    unfold stE at he'
    by_cases h0 : q.kd = 0
    · rw [if_pos h0] at he'; rw [if_pos h0, if_pos h0, if_pos ⟨he, h0⟩]; exact bal_open h he'
    have e3 : (if stE A M q = 0 ∧ q.kd = 0 then F ++ [(q.t, q.n)] else F) = F := if_neg (fun e => h0 e.2)
    rw [if_neg h0] at he'; rw [e3, if_neg h0, if_neg h0]
    by_cases h1 : q.kd = 1
    · rw [if_pos h1] at he'; rw [if_pos h1, if_pos h1]; exact bal_do h he'
    rw [if_neg h1] at he'; rw [if_neg h1, if_neg h1]
    by_cases h2 : q.kd = 2
    · rw [if_pos h2] at he'; rw [if_pos h2, if_pos h2]; exact bal_end (Or.inl ⟨rfl, rfl⟩) h he'
    rw [if_neg h2] at he'; rw [if_neg h2, if_neg h2]
    by_cases h3 : q.kd = 3
    · rw [if_pos h3] at he'; exact bal_end (Or.inr ⟨rfl, rfl⟩) h he'
    · rw [if_neg h3] at he'; cases he'
  · have e3 : (if stE A M q = 0 ∧ q.kd = 0 then F ++ [(q.t, q.n)] else F) = F := if_neg (fun e => he e.1)
    rw [e3, if_neg he, if_neg he]; exact h
end Go.Proofs.Ytgidkmipecfjhaa
namespace Go.Proofs.Ytgidkmipecfjhaa
open Go.RowKit
theorem add64_any (x y : Int) (hx : 0 ≤ x) (hy : 0 ≤ y) (w : World) :
    (callFunc 90 #[.int .u64 x, .int .u64 y, .int .u64 0]).run Try.prog w = .ok (.value (.tuple #[.int .u64 ((x + y) % 18446744073709551616), .int .u64 ((x + y) / 18446744073709551616)])) w := by
  rw [run_callFunc_extern Try.func90 (by kernel_rfl) (by kernel_rfl) (by kernel_rfl) (e := add64Entry) (by kernel_rfl), run_add64 x y 0 hx hy (by omega) (by omega)]
  simp only [Result.andThen, Int.add_zero]
set_option maxHeartbeats 1000000 in
set_option maxRecDepth 100000 in
theorem sum_any (l : List Int) (ad : Option Addr) (cap : Nat) (w : World) (hL : IntsAt w ad l) (hn : l.length ≤ 9223372036854775807) (hr : ∀ a ∈ l, -9223372036854775808 ≤ a ∧ a ≤ 9223372036854775807) :
    Calls Try.prog 69 #[.slice ad l.length cap] w fun e w' => e = .returned (.tuple #[.int .i64 (Csh.valE (Csh.sumE l)), .int .i64 (Csh.errE (Csh.sumE l))]) ∧ w' = w := by
  have hb := Csh.sum_bound l hr
  have HN : Hid (Calls Try.prog 92 #[.int .u64 (Csh.highE (Csh.sumE l)), .int .u64 (Csh.lowE (Csh.sumE l))] w fun e w' => e = .returned (.tuple #[.int .i64 (Csh.valE (Csh.sumE l)), .int .i64 (Csh.errE (Csh.sumE l))]) ∧ w' = w) := narrow_any (Csh.sumE l) w (by omega) (by omega)
  have HL : Hid (IntsAt w ad l) := hL
  have HR : Hid (∀ a ∈ l, -9223372036854775808 ≤ a ∧ a ≤ 9223372036854775807) := hr
  clear hL hr hb
  go_enter Try.func69, Try.ntmps69
  go_wp2
  go_loop [4, 5, 11] (fun h o i => ∃ k : Nat, k ≤ l.length ∧ i = .int .i64 k ∧ h = .int .u64 (Csh.highE (Csh.sumE (l.take k))) ∧ o = .int .u64 (Csh.lowE (Csh.sumE (l.take k)))) (fun _ _ i => l.length - (intOf i).toNat)
  case atStart => exact ⟨0, by omega, rfl, rfl, rfl⟩
  case round =>
    obtain ⟨k, hk, rfl, rfl, rfl⟩ := hrel
    by_cases hlt : k < l.length
    · obtain ⟨b, off, rfl, hbl, hc⟩ := HL.out k hlt
      have hz := HR.out l[k] (List.getElem_mem hlt)
      have hm : Csh.sumE (l.take (k + 1)) = Csh.sumE (l.take k) + l[k] := Csh.sum_more l k hlt
      have HM : Hid (Csh.sumE (l.take (k + 1)) = Csh.sumE (l.take k) + l[k]) := hm
      have HU : Hid (Calls Try.prog 91 #[.int .i64 l[k]] w fun e w' => e = .returned (.int .u64 (Csh.up l[k])) ∧ w' = w) := upper_any l[k] w hz.1 hz.2
      have hs := Csh.high_step (Csh.sumE (l.take k)) l[k] hz.1 hz.2
      have hlo := Csh.low_step (Csh.sumE (l.take k)) l[k]
      have hadd := add64_any (Csh.lowE (Csh.sumE (l.take k))) (Csh.lowE l[k]) (Csh.low_rng _).1 (Csh.low_rng _).1
      have hwa : IntKind.u64.wrap l[k] = Csh.lowE l[k] := by rw [IntKind.wrap_u64]; rfl
      have hw1 := IntKind.wrap_u64 (Csh.up l[k] + (Csh.lowE (Csh.sumE (l.take k)) + Csh.lowE l[k]) / 18446744073709551616)
      have hw2 := IntKind.wrap_u64 (Csh.highE (Csh.sumE (l.take k)) + (Csh.up l[k] + (Csh.lowE (Csh.sumE (l.take k)) + Csh.lowE l[k]) / 18446744073709551616) % 18446744073709551616)
      rw [hs] at hw2
      rw [hlo] at hadd
      rw [← hm] at hw2 hadd
      clear hs hlo hm
      generalize (Csh.up l[k] + (Csh.lowE (Csh.sumE (l.take k)) + Csh.lowE l[k]) / 18446744073709551616) % 18446744073709551616 = v1 at *
      generalize (Csh.lowE (Csh.sumE (l.take k)) + Csh.lowE l[k]) / 18446744073709551616 = cy at *
      generalize Csh.up l[k] = ua at *
      generalize Csh.lowE l[k] = la at *
      generalize l[k] = a at *
      generalize Csh.highE (Csh.sumE (l.take k)) = hs at *
      generalize Csh.lowE (Csh.sumE (l.take k)) = ls at *
      obtain ⟨lo, elo⟩ : ∃ x, Csh.lowE (Csh.sumE (l.take (k + 1))) = x := ⟨_, rfl⟩
      obtain ⟨hi, ehi⟩ : ∃ x, Csh.highE (Csh.sumE (l.take (k + 1))) = x := ⟨_, rfl⟩
      have ELO : Hid (Csh.lowE (Csh.sumE (l.take (k + 1))) = lo) := elo
      have EHI : Hid (Csh.highE (Csh.sumE (l.take (k + 1))) = hi) := ehi
      rw [elo] at hadd
      rw [ehi] at hw2
      clear elo ehi HM
      go_wp2_with fail
      refine HU.out.mono ?_
      rintro e w1 ⟨rfl, hww⟩; obtain rfl := hww.symm
      go_wp2
      go_round
      case rel => exact ⟨k + 1, by omega, by go_num, by rw [EHI.out], by rw [ELO.out]⟩
      case measure => simp [intOf]; omega
    · have hkl : l.take k = l := List.take_of_length_le (by omega)
      have HE : Hid (l.take k = l) := hkl
      clear hkl
      rw [HE.out]
      go_wp2_with fail
      refine HN.out.mono ?_
      rintro e w1 ⟨rfl, hww⟩; obtain rfl := hww.symm
      go_wp2
      go_ret2
      exact ⟨rfl, rfl⟩
end Go.Proofs.Ytgidkmipecfjhaa
namespace Go.Proofs.Ytgidkmipecfjhaa
open Go.RowKit
open Led (Acc Mk)
theorem val_in {x : Int} (h : -9223372036854775808 ≤ x ∧ x ≤ 9223372036854775807) : Csh.valE x = x ∧ Csh.errE x = 0 := by
  have hb : Csh.okB x = true := by unfold Csh.okB; simp; omega
  unfold Csh.valE Csh.errE
  rw [hb]
  exact ⟨rfl, rfl⟩
theorem together_any (fs ks : List Int) (a1 a2 : Option Addr) (c1 c2 : Nat) (w : World) (h1 : IntsAt w a1 fs) (h2 : IntsAt w a2 ks) (hn1 : fs.length ≤ 9223372036854775807) (hn2 : ks.length ≤ 9223372036854775807)
    (hr1 : ∀ a ∈ fs, -9223372036854775808 ≤ a ∧ a ≤ 9223372036854775807) (hr2 : ∀ a ∈ ks, -9223372036854775808 ≤ a ∧ a ≤ 9223372036854775807)
    (hs1 : -9223372036854775808 ≤ Csh.sumE fs ∧ Csh.sumE fs ≤ 9223372036854775807) (hs2 : -9223372036854775808 ≤ Csh.sumE ks ∧ Csh.sumE ks ≤ 9223372036854775807) :
    Calls Try.prog 36 #[.slice a1 fs.length c1, .slice a2 ks.length c2] w fun e w' => e = .returned (.tuple #[.int .i64 (Csh.sumE fs), .int .i64 (Csh.sumE ks), .int .i64 0]) ∧ w' = w := by
  have H1 : Hid (Calls Try.prog 69 #[.slice a1 fs.length c1] w fun e w' => e = .returned (.tuple #[.int .i64 (Csh.sumE fs), .int .i64 0]) ∧ w' = w) := by
    have := sum_any fs a1 c1 w h1 hn1 hr1
    rw [(val_in hs1).1, (val_in hs1).2] at this
    exact this
  have H2 : Hid (Calls Try.prog 69 #[.slice a2 ks.length c2] w fun e w' => e = .returned (.tuple #[.int .i64 (Csh.sumE ks), .int .i64 0]) ∧ w' = w) := by
    have := sum_any ks a2 c2 w h2 hn2 hr2
    rw [(val_in hs2).1, (val_in hs2).2] at this
    exact this
  clear h1 h2 hn1 hn2 hr1 hr2 hs1 hs2
  go_enter Try.func36, Try.ntmps36
  go_wp2_with fail
  refine H1.out.mono ?_
  rintro e w1 ⟨rfl, hw1⟩; obtain rfl := hw1.symm
  go_wp2_with fail
  refine H2.out.mono ?_
  rintro e w2 ⟨rfl, hw2⟩; obtain rfl := hw2.symm
  go_wp2
  exact bodyPost_ret (v := .tuple #[.int .i64 (Csh.sumE fs), .int .i64 (Csh.sumE ks), .int .i64 0]) (by simp [results, Try.results36, go_sem, *]) rfl ⟨rfl, rfl⟩
end Go.Proofs.Ytgidkmipecfjhaa
namespace Go.Proofs.Ytgidkmipecfjhaa
variable {P : Program} {md : Region.Mode} {ops : Array Oper} {Q : Exit → Act → World → Prop} {s : Nat} {S : World → Prop}
def freeBut (md : Region.Mode) (ops : Array Oper) (listed : Array Bool) (i s : Nat) : Bool :=
  match ops[i]? with
  | none => false
  | some oi => (List.range ops.size).all fun j => j == i || j == s || listed.getD j true || match ops[j]? with
      | some oj => oj.after.any (fun e => Region.binds md e && e.on == i) || oi.apart ops oj
      | none => true
theorem freeBut_spec {i : Nat} {oi : Oper} {listed : Array Bool} (hi : ops[i]? = some oi) (h : freeBut md ops listed i s = true) (j : Nat) (oj : Oper)
    (hj : ops[j]? = some oj) (hne : j ≠ i) (hns : j ≠ s) (hun : listed.getD j true = false) (hno : ∀ e ∈ oj.after, Region.binds md e = true → e.on ≠ i) : oi.apart ops oj = true := by
  simp only [freeBut, hi, List.all_eq_true, List.mem_range] at h
  have h1 := h j (Array.getElem?_eq_some_iff.1 hj).1
  simp only [hj, Bool.or_eq_true, beq_iff_eq, hne, hns, false_or, hun, Bool.false_eq_true] at h1
  rcases h1 with h1 | h1
  · obtain ⟨e, he, hb⟩ := Array.any_eq_true'.1 h1
    simp only [Bool.and_eq_true, beq_iff_eq] at hb
    exact absurd hb.2 (hno e he hb.1)
  · exact h1
theorem wpAnyL_first2 {i t : Nat} {oi ot os : Oper} {v : Value} (hi : ops[i]? = some oi) (hsel : ∀ (j : Nat) (o : Oper) cs b, ops[j]? = some o → o.op ≠ .select cs b)
    (hQ : ∀ c a w, Q (.panic c) (a.put oi.dst v) w → Q (.panic c) a w) (his : i ≠ s) (hit : i ≠ t) (hos : ops[s]? = some os) (hot : ops[t]? = some ot) (hdt : ∃ e ∈ ot.after, Region.binds md e = true ∧ e.on = i) (hds : ∃ e ∈ os.after, Region.binds md e = true ∧ e.on = t) :
    ∀ (fuel : Nat) (listed : Array Bool) (a : Act) (w : World),
      (∀ j oj, ops[j]? = some oj → j ≠ i → j ≠ s → listed.getD j true = false → (∀ e ∈ oj.after, Region.binds md e = true → e.on ≠ i) → oi.apart ops oj = true) →
      i ∈ Region.ready md ops listed → YieldsIf P ops S oi v a → listed.getD s true = false → listed.getD t true = false → S w →
      wpAnyL P md ops Q s S fuel (listed.setIfInBounds i true) (a.put oi.dst v) w → wpAnyL P md ops Q s S (fuel + 1) listed a w := by
  intro fuel
  induction fuel with
  | zero =>
    intro listed a w _ hr hy _ _ hS H
    refine ⟨fun h => (by rw [h] at hr; cases hr), fun j hj => ?_⟩
    by_cases hji : j = i
    · subst hji; exact hy.wpOp hi hS ⟨fun _ => hS, H⟩
    · have := ready_mono hj hji
      rw [H.1] at this
      cases this
  | succ fuel ih =>
    intro listed a w hfree hr hy hls hlt hS H
    refine ⟨fun h => (by rw [h] at hr; cases hr), fun j hj => ?_⟩
    by_cases hji : j = i
    · subst hji; exact hy.wpOp hi hS ⟨fun _ => hS, H⟩
    · have h1 := H.2 j (ready_mono hj hji)
      obtain ⟨hjun, oj, hoj, hall⟩ := mem_ready.1 hj
      have hnot : ∀ k, listed.getD k true = false → ∀ e ∈ oj.after, Region.binds md e = true → e.on ≠ k := fun k hu e he hb heq => by
        have h1 := hall e he hb
        rw [heq] at h1
        rcases Nat.lt_or_ge k listed.size with h' | h'
        · simp [h'] at hu h1; rw [hu] at h1; cases h1
        · simp [Array.getElem?_eq_none h'] at h1
      have hni := hnot i (mem_ready.1 hr).1
      have hjs : j ≠ s := fun e => by
        subst e
        rw [hos] at hoj
        cases hoj
        obtain ⟨e, he, hb, hon⟩ := hds
        exact hnot t hlt e he hb hon
      have hjt : j ≠ t := fun e => by
        subst e
        rw [hot] at hoj
        cases hoj
        obtain ⟨e, he, hb, hon⟩ := hdt
        exact hni e he hb hon
      have h2 := wpOp_putIf hoj (hfree j oj hoj hji hjs hjun hni) (fun cs b => hsel i oi cs b hi) (fun cs b => hsel j oj cs b hoj) hQ hy h1
      have hfree' : ∀ k ok, ops[k]? = some ok → k ≠ i → k ≠ s → (listed.setIfInBounds j true).getD k true = false →
          (∀ e ∈ ok.after, Region.binds md e = true → e.on ≠ i) → oi.apart ops ok = true := fun k ok hk hki hks hun hno => by
        refine hfree k ok hk hki hks ?_ hno
        by_cases hjk : j = k
        · subst hjk; exact hjun
        · rw [getD_set_ne true hjk] at hun; exact hun
      have hls' : (listed.setIfInBounds j true).getD s true = false := by rw [getD_ne hjs]; exact hls
      have hlt' : (listed.setIfInBounds j true).getD t true = false := by rw [getD_ne hjt]; exact hlt
      have hls2 : ((listed.setIfInBounds i true).setIfInBounds j true).getD s true = false := by rw [getD_ne hjs, getD_ne his]; exact hls
      refine wpOp_mono (fun a' w' h3 => ⟨fun _ => h3.2.1 hls2, ih (listed.setIfInBounds j true) a' w' hfree' (ready_mono hr (Ne.symm hji)) h3.1 hls' hlt' (h3.2.1 hls2) ?_⟩) h2
      rw [Array.setIfInBounds_comm _ _ hji]
      exact h3.2.2
theorem takeT (i d t : Nat) {oi : Oper} {v : Value} {fuel : Nat} {listed : Array Bool} {a : Act} {w : World} (hi : ops[i]? = some oi) (hd : oi.dst = some d) (his : i ≠ s) (hit : i ≠ t) (hwt : waits md ops t i = true) (hws : waits md ops s t = true)
    (hs : Region.noSelect ops = true) (hf : freeBut md ops listed i s = true) (hr : (Region.ready md ops listed).contains i = true) (hls : listed.getD s true = false) (hlt : listed.getD t true = false)
    (hQ : ∀ c a w, Q (.panic c) (a.put (some d) v) w → Q (.panic c) a w) (hw : Region.wanted oi (yielded ops a.tmps) = true) (hy : ∀ w, S w → (execOp a.eval oi).run P w = .ok (.value v) w) (hS : S w)
    (h : wpAnyL P md ops Q s S fuel (listed.setIfInBounds i true) (a.put (some d) v) w) : wpAnyL P md ops Q s S (fuel + 1) listed a w := by
  rw [← hd] at hQ h
  obtain ⟨ot, hot, hdt⟩ := waits_spec hwt
  obtain ⟨os, hos, hds⟩ := waits_spec hws
  exact wpAnyL_first2 hi (Region.noSelect_spec hs) hQ his hit hos hot hdt hds fuel listed a w (freeBut_spec hi hf) (by simpa using hr) (Or.inl ⟨hw, hy⟩) hls hlt hS h
end Go.Proofs.Ytgidkmipecfjhaa
namespace Go.Proofs.Ytgidkmipecfjhaa
open Go.RowKit
open Led (Acc Mk)
theorem infoI : (Try.prog.info? 2).map (fun i => (i.zero, i.size, i.bytes)) = some (some (.int .i64 0), 1, 8) := by kernel_rfl
def iv (l : List Int) : List Value := l.map (fun a => .int .i64 a)
theorem step_append_at {P : Program} {w : World} {ops : Array Oper} {o : Oper} {a : Act} {K : Act → World → Prop} {Q : Exit → Act → World → Prop} {E : Prop} (hgd : o.guard = none) (s x : Operand) (t : TypeId)
    (ho : o.op = .call { callee := .builtin .append, args := #[s, x], argTypes := #[t, t] })
    (base : Nat) (e : TypeId) (i : TypeInfo) (z : Value) (size bytes : Nat) (ht : P.underlying t = some (.slice e)) (hi : P.info? e = some i) (hz : i.zero = some z)
    (hsize : i.size = size) (hby : i.bytes = bytes) (hzs : z.cells.size = size) (hsz : 0 < size)
    (v : Value) (n : Nat) (xs : List Value) (hs : a.eval s = v) (hown : w.ownsRow base e size v n xs)
    (ad : Addr) (m c : Nat) (news : List Value) (hx : a.eval x = .slice (some ad) m c) (hl : news.length = m * size) (hnews : ∀ j u, news[j]? = some u → w.cell? (ad.add j) = some u) (h1 : ∀ u ∈ news, u.oneCell' = true)
    (h63 : n + m ≤ maxLen) (hbytes : (n + m) * bytes ≤ 140737488355328) (hbase : base ≤ w.heap.size)
    (h : ∀ v' w', w'.ownsRow base e size v' (n + m) (xs ++ news) → w.grownBy w' v.ownBlock → (v'.ownBlock = v.ownBlock ∨ v'.ownBlock = some w.heap.size) → K (a.put o.dst v') w') :
    if Region.wanted o (yielded ops a.tmps) = true then Oper.wp P o a w K Q else E := by
  have hw : Region.wanted o (yielded ops a.tmps) = true := by simp [Region.wanted, hgd]
  rw [if_pos hw]
  obtain ⟨v', w', hr, h2, h3, _, h5⟩ := run_append_own_at (P := P) w base t o.type e i z size bytes ht hi hz hsize hby hzs hsz v n xs hown ad m c news hl hnews h1 h63 hbytes hbase
  unfold Oper.wp execOp
  simp only [ho, resolve, invoke, builtin, Sem.run_bind, Sem.run_pure, Result.andThen_ok, List.map_toArray, List.map_cons, List.map_nil, hs, hx, hr]
  exact h v' w' h2 h3 h5
theorem own_slice {w : World} {base : Nat} {e : TypeId} {size n : Nat} {v : Value} {xs : List Value} (h : w.ownsRow base e size v n xs) : ∃ a c, v = .slice a n c := by
  obtain ⟨_, ⟨rfl, h0⟩ | ⟨g, cap, cur, rfl, _⟩⟩ := h
  · exact ⟨none, 0, by rw [h0]⟩
  · exact ⟨_, _, rfl⟩
theorem stepC2 {P : Program} {md : Region.Mode} {ops : Array Oper} {Q : Exit → Act → World → Prop} {s : Nat} {S : World → Prop} (i j : Nat) {oi oj : Oper} {fuel : Nat} {listed : Array Bool} {a : Act} {w : World} (hr : Region.ready md ops listed = [i, j]) (hoi : ops[i]? = some oi) (hoj : ops[j]? = some oj)
    (h1 : ∀ K' : Act → World → Prop, Shut (∀ a w, S w → wpAnyL P md ops Q s S fuel (listed.setIfInBounds i true) a w → K' a w) → if Region.wanted oi (yielded ops a.tmps) = true then Oper.wp P oi a w K' Q else K' (a.put oi.dst undef) w)
    (h2 : ∀ K' : Act → World → Prop, Shut (∀ a w, S w → wpAnyL P md ops Q s S fuel (listed.setIfInBounds j true) a w → K' a w) → if Region.wanted oj (yielded ops a.tmps) = true then Oper.wp P oj a w K' Q else K' (a.put oj.dst undef) w) :
    wpAnyL P md ops Q s S (fuel + 1) listed a w := by
  refine ⟨fun h0 => (by rw [hr] at h0; cases h0), fun k hk => ?_⟩
  rw [hr] at hk
  rcases List.mem_cons.1 hk with rfl | hk
  · exact wpOp_step hoi (fun K' hK => h1 K' (fun a w hS hW => hK a w ⟨fun _ => hS, hW⟩))
  · obtain rfl : k = j := by simpa using hk
    exact wpOp_step hoj (fun K' hK => h2 K' (fun a w hS hW => hK a w ⟨fun _ => hS, hW⟩))
structure NetM (w : World) (base F1 F2 : Nat) (b1 b2 v1 v2 : Value) (fs ks : List Int) : Prop where
  c1 : w.cell? ⟨F1, 0, none⟩ = some b1
  c2 : w.cell? ⟨F2, 0, none⟩ = some b2
  z1 : w.frozen? ⟨F1, 0, none⟩ = false
  z2 : w.frozen? ⟨F2, 0, none⟩ = false
  o1 : w.ownsRow base 2 1 v1 fs.length (iv fs)
  o2 : w.ownsRow base 2 1 v2 ks.length (iv ks)
  ap : ∀ g, v1.ownBlock = some g → v2.ownBlock ≠ some g
  l1 : F1 < base
  l2 : F2 < base
  ne : F1 ≠ F2
  bs : base ≤ w.heap.size
variable {w w' : World} {base F1 F2 : Nat} {b1 b2 v1 v2 : Value} {fs ks : List Int}
theorem NetM.gr (h : NetM w base F1 F2 b1 b2 v1 v2 fs ks) (g : Gr w w') : NetM w' base F1 F2 b1 b2 v1 v2 fs ks := by
  have h1 := h.l1; have h2 := h.l2; have h3 := h.bs
  exact ⟨g.keep h.c1, g.keep h.c2, g.keepF (by show F1 < _; omega) h.z1, g.keepF (by show F2 < _; omega) h.z2, own_gr2 h.o1 g, own_gr2 h.o2 g, h.ap, h1, h2, h.ne, Nat.le_trans h3 g.size⟩
theorem grown_frozen {row : Option Nat} (hg : w.grownBy w' row) {a : Addr} (hb : a.block < w.heap.size) (hne : some a.block ≠ row) (h : w.frozen? a = false) : w'.frozen? a = false := by
  rw [World.frozen?_of_block (hg.block _ hb hne)]; exact h
theorem NetM.app1 (h : NetM w base F1 F2 b1 b2 v1 v2 fs ks) {u : Value} {x : Int} (ho : w'.ownsRow base 2 1 u (fs.length + 1) (iv fs ++ [.int .i64 x])) (hg : w.grownBy w' v1.ownBlock) (hat : u.ownBlock = v1.ownBlock ∨ u.ownBlock = some w.heap.size) :
    NetM w' base F1 F2 b1 b2 u v2 (fs ++ [x]) ks := by
  have h1 := h.l1; have h2 := h.l2; have h3 := h.bs
  have n1 : some F1 ≠ v1.ownBlock := fun e => by have := (h.o1.lt _ e.symm).1; omega
  have n2 : some F2 ≠ v1.ownBlock := fun e => by have := (h.o1.lt _ e.symm).1; omega
  refine ⟨hg.cell h.c1 n1, hg.cell h.c2 n2, grown_frozen hg (by show F1 < _; omega) n1 h.z1, grown_frozen hg (by show F2 < _; omega) n2 h.z2, ?_, h.o2.kept hg ?_, ?_, h1, h2, h.ne, Nat.le_trans h3 hg.size⟩
  · have : iv (fs ++ [x]) = iv fs ++ [.int .i64 x] := by unfold iv; simp
    rw [this, List.length_append]; exact ho
  · cases hv : v2.ownBlock with
    | none => exact Or.inl rfl
    | some g => exact Or.inr fun e => h.ap g e.symm hv
  · intro g hu hv
    rcases hat with e | e
    · exact h.ap g (by rw [← e]; exact hu) hv
    · rw [e] at hu; cases hu
      have := (h.o2.lt _ hv).2; omega
theorem NetM.app2 (h : NetM w base F1 F2 b1 b2 v1 v2 fs ks) {u : Value} {x : Int} (ho : w'.ownsRow base 2 1 u (ks.length + 1) (iv ks ++ [.int .i64 x])) (hg : w.grownBy w' v2.ownBlock) (hat : u.ownBlock = v2.ownBlock ∨ u.ownBlock = some w.heap.size) :
    NetM w' base F1 F2 b1 b2 v1 u fs (ks ++ [x]) := by
  have h1 := h.l1; have h2 := h.l2; have h3 := h.bs
  have n1 : some F1 ≠ v2.ownBlock := fun e => by have := (h.o2.lt _ e.symm).1; omega
  have n2 : some F2 ≠ v2.ownBlock := fun e => by have := (h.o2.lt _ e.symm).1; omega
  refine ⟨hg.cell h.c1 n1, hg.cell h.c2 n2, grown_frozen hg (by show F1 < _; omega) n1 h.z1, grown_frozen hg (by show F2 < _; omega) n2 h.z2, h.o1.kept hg ?_, ?_, ?_, h1, h2, h.ne, Nat.le_trans h3 hg.size⟩
  · cases hv : v1.ownBlock with
    | none => exact Or.inl rfl
    | some g => exact Or.inr fun e => h.ap g hv e.symm
  · have : iv (ks ++ [x]) = iv ks ++ [.int .i64 x] := by unfold iv; simp
    rw [this, List.length_append]; exact ho
  · intro g hu hv
    rcases hat with e | e
    · exact h.ap g hu (by rw [← e]; exact hv)
    · rw [e] at hv; cases hv
      have := (h.o1.lt _ hu).2; omega
theorem NetM.stores (h : NetM w base F1 F2 b1 b2 v1 v2 fs ks) : NetM ((w.setCell ⟨F1, 0, none⟩ v1).setCell ⟨F2, 0, none⟩ v2) base F1 F2 v1 v2 v1 v2 fs ks := by
  have h1 := h.l1; have h2 := h.l2; have h3 := h.bs; have h4 := h.ne; have h5 := h.c1; have h6 := h.c2; have h7 := h.z1; have h8 := h.z2
  have m1 : ∀ i, i < base → v1.ownBlock ≠ some i := fun i hi e => by have := (h.o1.lt _ e).1; omega
  have m2 : ∀ i, i < base → v2.ownBlock ≠ some i := fun i hi e => by have := (h.o2.lt _ e).1; omega
  have h9 : ¬ F2 = F1 := fun e => h4 e.symm
  exact ⟨by simp [go_sem, *], by simp [go_sem, *], by simp [go_sem, *], by simp [go_sem, *], own_far (own_far h.o1 _ _ (m1 _ h1)) _ _ (m1 _ h2), own_far (own_far h.o2 _ _ (m2 _ h1)) _ _ (m2 _ h2), h.ap, h1, h2, h4, by simp; exact h3⟩
theorem NetM.grown1 (h : NetM w base F1 F2 b1 b2 v1 v2 fs ks) {w0 : World} (g : Gr w0 w) (hb : w0.heap.size ≤ base) (hg : w.grownBy w' v1.ownBlock) : Gr w0 w' := g.grown hg (fun k e => by have := (h.o1.lt _ e).1; omega)
theorem NetM.grown2 (h : NetM w base F1 F2 b1 b2 v1 v2 fs ks) {w0 : World} (g : Gr w0 w) (hb : w0.heap.size ≤ base) (hg : w.grownBy w' v2.ownBlock) : Gr w0 w' := g.grown hg (fun k e => by have := (h.o2.lt _ e).1; omega)
set_option maxHeartbeats 4000000 in
set_option maxRecDepth 100000 in
theorem net1_yes (m : Mk) (free kept : Int) (N H F1 F2 base : Nat) (s a : ByteArray) (v1 v2 : Value) (fs ks : List Int) (w0 w : World) (hN : w0.cell? ⟨N, 0, none⟩ = some (.string s)) (hH : w0.cell? ⟨H, 0, none⟩ = some (.string a)) (hg : Gr w0 w) (h : NetM w base F1 F2 v1 v2 v1 v2 fs ks) (hF1 : w0.heap.size ≤ F1) (hF2 : w0.heap.size ≤ F2)
    (ht : m.t = s) (hst : m.st ≠ 2) (hp : Lib.hasPrefix m.key.data.toList a.data.toList = true) (hn : fs.length ≤ 1000 ∧ ks.length ≤ 1000) :
    Calls Try.prog 34 #[.agg #[.string m.key, .int .i64 m.k, .string m.t, .int .i64 m.n, .int .i64 m.st], .int .i64 free, .int .i64 kept, .pointer (some ⟨N, 0, none⟩), .pointer (some ⟨H, 0, none⟩), .pointer (some ⟨F1, 0, none⟩), .pointer (some ⟨F2, 0, none⟩)] w fun e w' => e = .returned (.tuple #[]) ∧ (∃ u1 u2, NetM w' base F1 F2 u1 u2 u1 u2 (fs ++ [free]) (ks ++ [kept])) ∧ Gr w0 w' := by
  have HHP : Hid (∀ w', Calls Try.prog 35 #[.string m.key, .string a] w' fun e w2 => e = .returned (.bool true) ∧ w2 = w') := fun w' => by have := Try.strings_HasPrefix m.key a w'; rw [hp] at this; exact this
  obtain ⟨i0, hi, hz0, hz1, hz2⟩ := info_parts infoI
  have n0 := hg.keep hN
  have h0 := hg.keep hH
  have nl : N < w.heap.size := World.block_lt_of_cell? w _ n0
  have hl : H < w.heap.size := World.block_lt_of_cell? w _ h0
  have hqt : (m.t.toList == s.toList) = true := by rw [ht]; simp
  have hqs : (m.st != 2) = true := by simpa using hst
  have HNA : Hid (NetM w base F1 F2 v1 v2 v1 v2 fs ks) := h
  have HG : Hid (Gr w0 w) := hg
  have HBS : Hid (w0.heap.size ≤ base) := by show _ ≤ _; have := h.l1; omega
  have n63a : fs.length + 1 ≤ maxLen := by unfold maxLen; omega
  have n63b : ks.length + 1 ≤ maxLen := by unfold maxLen; omega
  clear ht hst hp hN hH h hg
  go_enter Try.func34, Try.ntmps34
  go_wp2_with fail
  refine (HHP.out _).mono ?_
  rintro e w1 ⟨rfl, hw1⟩; obtain rfl := hw1.symm
  go_upto_region 2 with fail
  obtain ⟨W, hW⟩ : ∃ W, W = w.alloc (.cells #[.string m.key, .int .i64 m.k, .string m.t, .int .i64 m.n, .int .i64 m.st] 64) := ⟨_, rfl⟩
  have HN0 : Hid (NetM W.drew base F1 F2 v1 v2 v1 v2 fs ks) := by show NetM _ _ _ _ _ _ _ _ _ _; rw [hW]; exact HNA.out.gr (Gr.refl _).alloc.drew
  have HG0 : Hid (Gr w0 W.drew) := by show Gr _ _; rw [hW]; exact HG.out.alloc.drew
  rw [← hW]
  clear hW HNA HG HHP n0 h0 nl hl hqt hqs
  have hk : W.drew.cell? ⟨F1, 0, none⟩ = some v1 ∧ W.drew.cell? ⟨F2, 0, none⟩ = some v2 := ⟨HN0.out.c1, HN0.out.c2⟩
  have x1 : F1 < base := HN0.out.l1
  have x2 : F2 < base := HN0.out.l2
  refine beginL 8 (fun w' => w'.cell? ⟨F1, 0, none⟩ = some v1 ∧ w'.cell? ⟨F2, 0, none⟩ = some v2) (by kernel_rfl) (by exact hk) (fun hHeld => ?_)
  refine takeS 0 26 (v := ?_) rfl rfl (by decide) (by kernel_rfl) (by kernel_rfl) (by kernel_rfl) (by kernel_rfl) (by kernel_rfl) (fun _ _ _ h => h) (by rfl) ?_ hHeld ?_
  rotate_left
  · (intro w; (try intro hSw); (try dsimp only at hSw); go_simp; try with_reducible rfl)
  simp only [Act.put, List.setIfInBounds_toArray, List.set_cons_zero, List.set_cons_succ]
  refine takeW 1 27 (v := ?_) rfl rfl (by decide) (by kernel_rfl) (by kernel_rfl) (by kernel_rfl) (fun _ _ _ h => h) (by rfl) ?_ (fun _ => hHeld) ?_
  rotate_left
  · (intro w; (try intro hSw); (try dsimp only at hSw); go_simp; try with_reducible rfl)
  simp only [Act.put, List.setIfInBounds_toArray, List.set_cons_zero, List.set_cons_succ]
  refine takeT 4 30 7 (v := ?_) rfl rfl (by decide) (by decide) (by kernel_rfl) (by kernel_rfl) (by kernel_rfl) (by kernel_rfl) (by kernel_rfl) (by kernel_rfl) (by kernel_rfl) (fun _ _ _ h => h) (by rfl) ?_ hHeld ?_
  rotate_left
  · (intro w; (try intro hSw); (try dsimp only at hSw); go_simp; try with_reducible rfl)
  simp only [Act.put, List.setIfInBounds_toArray, List.set_cons_zero, List.set_cons_succ]
  refine takeW 5 31 (v := ?_) rfl rfl (by decide) (by kernel_rfl) (by kernel_rfl) (by kernel_rfl) (fun _ _ _ h => h) (by rfl) ?_ (fun _ => hHeld) ?_
  rotate_left
  · (intro w; (try intro hSw); (try dsimp only at hSw); go_simp; try with_reducible rfl)
  simp only [Act.put, List.setIfInBounds_toArray, List.set_cons_zero, List.set_cons_succ]
  clear hk hHeld
  obtain ⟨V, hV⟩ : ∃ V, V = W.drew := ⟨_, rfl⟩
  rw [← hV] at HN0 HG0 ⊢
  clear hV
  refine stepC2 2 6 (by kernel_rfl) rfl rfl (fun K hK => ?_) (fun K hK => ?_)
  · skip
    go_simp
    have HN1 : Hid (NetM (V.alloc (.cells #[.int .i64 free] 2)) base F1 F2 v1 v2 v1 v2 fs ks) := HN0.out.gr (Gr.refl _).alloc
    have HG1 : Hid (Gr w0 (V.alloc (.cells #[.int .i64 free] 2))) := HG0.out.alloc
    have HC1 : Hid (∀ j u, [Value.int .i64 free][j]? = some u → (V.alloc (.cells #[.int .i64 free] 2)).cell? ((⟨V.heap.size, 0, none⟩ : Addr).add j) = some u) := cell_one_new _ _ _
    have HQ1 : Hid (v1.ownBlock ≠ some V.heap.size ∧ v2.ownBlock ≠ some V.heap.size) := ⟨fun e => by have := (HN0.out.o1.lt _ e).2; omega, fun e => by have := (HN0.out.o2.lt _ e).2; omega⟩
    obtain ⟨W1, hW1⟩ : ∃ x, x = V.alloc (.cells #[.int .i64 free] 2) := ⟨_, rfl⟩
    rw [← hW1] at HN1 HG1 HC1 ⊢
    clear hW1
    refine hK.out _ _ ⟨HN1.out.c1, HN1.out.c2⟩ ?_
    clear hK K
    refine stepC2 3 6 (by kernel_rfl) rfl rfl (fun K hK => ?_) (fun K hK => ?_)
    · skip
      refine step_append_at (by rfl) _ _ 71 (by rfl) base 2 i0 (.int .i64 0) 1 8 Try.underlying71 hi hz0 hz1 hz2 rfl (by decide) v1 fs.length (iv fs) (by rfl) HN1.out.o1 ⟨V.heap.size, 0, none⟩ 1 1 [.int .i64 free] (by rfl) rfl HC1.out (by intro u hu; simp at hu; subst hu; rfl) n63a (by omega) HN1.out.bs ?_
      intro u1 W2 hown hgrow hat
      have HN2 : Hid (NetM W2 base F1 F2 v1 v2 u1 v2 (fs ++ [free]) ks) := HN1.out.app1 hown hgrow hat
      have HG2 : Hid (Gr w0 W2) := HN1.out.grown1 HG1.out HBS.out hgrow
      clear hown hgrow hat
      refine hK.out _ _ ⟨HN2.out.c1, HN2.out.c2⟩ ?_
      clear hK K
      refine stepC 6 (by kernel_rfl) rfl (fun K hK => ?_)
      go_simp
      have HN3 : Hid (NetM (W2.alloc (.cells #[.int .i64 kept] 2)) base F1 F2 v1 v2 u1 v2 (fs ++ [free]) ks) := HN2.out.gr (Gr.refl _).alloc
      have HG3 : Hid (Gr w0 (W2.alloc (.cells #[.int .i64 kept] 2))) := HG2.out.alloc
      have HC2 : Hid (∀ j u, [Value.int .i64 kept][j]? = some u → (W2.alloc (.cells #[.int .i64 kept] 2)).cell? ((⟨W2.heap.size, 0, none⟩ : Addr).add j) = some u) := cell_one_new _ _ _
      have HQ2 : Hid (u1.ownBlock ≠ some W2.heap.size ∧ v2.ownBlock ≠ some W2.heap.size) := ⟨fun e => by have := (HN2.out.o1.lt _ e).2; omega, fun e => by have := (HN2.out.o2.lt _ e).2; omega⟩
      obtain ⟨W3, hW3⟩ : ∃ x, x = W2.alloc (.cells #[.int .i64 kept] 2) := ⟨_, rfl⟩
      rw [← hW3] at HN3 HG3 HC2 ⊢
      clear hW3
      refine hK.out _ _ ⟨HN3.out.c1, HN3.out.c2⟩ (fun _ => ?_)
      clear hK K
      refine stepC 7 (by kernel_rfl) rfl (fun K hK => ?_)
      refine step_append_at (by rfl) _ _ 71 (by rfl) base 2 i0 (.int .i64 0) 1 8 Try.underlying71 hi hz0 hz1 hz2 rfl (by decide) v2 ks.length (iv ks) (by rfl) HN3.out.o2 ⟨W2.heap.size, 0, none⟩ 1 1 [.int .i64 kept] (by rfl) rfl HC2.out (by intro u hu; simp at hu; subst hu; rfl) n63b (by omega) HN3.out.bs ?_
      intro u2 W4 hown hgrow hat
      have HN4 : Hid (NetM W4 base F1 F2 v1 v2 u1 u2 (fs ++ [free]) (ks ++ [kept])) := HN3.out.app2 hown hgrow hat
      have HG4 : Hid (Gr w0 W4) := HN3.out.grown2 HG3.out HBS.out hgrow
      clear hown hgrow hat
      refine hK.out _ _ ⟨HN4.out.c1, HN4.out.c2⟩ (fun _ => ?_)
      clear hK K
      obtain ⟨p1, q1, rfl⟩ := own_slice HN4.out.o1
      obtain ⟨p2, q2, rfl⟩ := own_slice HN4.out.o2
      refine stepS (by kernel_rfl) rfl (by kernel_rfl) (fun K hK => ?_)
      have c1 := HN4.out.c1
      have c2 := HN4.out.c2
      have z1 := HN4.out.z1
      have z2 := HN4.out.z2
      have bz := HN4.out.bs
      have hne := HN4.out.ne
      have hne2 : ¬ F2 = F1 := fun e => hne e.symm
      go_simp
      refine hK.out _ _ ?_
      clear hK K
      refine stepL 9 (by kernel_rfl) rfl (fun K hK => ?_)
      go_simp
      refine hK.out _ _ (fun h => listed_done (by kernel_rfl) h) ?_
      clear hK K
      refine doneL (by kernel_rfl) ?_ _
      go_wp2
      go_end0
      have hst := HN4.out.stores
      simp only [List.length_append, List.length_cons, List.length_nil, Nat.zero_add] at hst
      exact ⟨rfl, ⟨_, _, hst⟩, (HG4.out.set _ hF1 _).set _ hF2 _⟩
    · skip
      go_simp
      have HN2 : Hid (NetM (W1.alloc (.cells #[.int .i64 kept] 2)) base F1 F2 v1 v2 v1 v2 fs ks) := HN1.out.gr (Gr.refl _).alloc
      have HG2 : Hid (Gr w0 (W1.alloc (.cells #[.int .i64 kept] 2))) := HG1.out.alloc
      have HC2 : Hid (∀ j u, [Value.int .i64 kept][j]? = some u → (W1.alloc (.cells #[.int .i64 kept] 2)).cell? ((⟨W1.heap.size, 0, none⟩ : Addr).add j) = some u) := cell_one_new _ _ _
      have HQ2 : Hid (v1.ownBlock ≠ some W1.heap.size ∧ v2.ownBlock ≠ some W1.heap.size) := ⟨fun e => by have := (HN1.out.o1.lt _ e).2; omega, fun e => by have := (HN1.out.o2.lt _ e).2; omega⟩
      have HC1b : Hid (∀ j u, [Value.int .i64 free][j]? = some u → (W1.alloc (.cells #[.int .i64 kept] 2)).cell? ((⟨V.heap.size, 0, none⟩ : Addr).add j) = some u) := fun j u hj => (Gr.refl _).alloc.keep (HC1.out j u hj)
      clear HC1
      have HC1 := HC1b
      clear HC1b
      obtain ⟨W2, hW2⟩ : ∃ x, x = W1.alloc (.cells #[.int .i64 kept] 2) := ⟨_, rfl⟩
      rw [← hW2] at HN2 HG2 HC2 HC1 ⊢
      clear hW2
      refine hK.out _ _ ⟨HN2.out.c1, HN2.out.c2⟩ ?_
      clear hK K
      refine stepC 3 (by kernel_rfl) rfl (fun K hK => ?_)
      refine step_append_at (by rfl) _ _ 71 (by rfl) base 2 i0 (.int .i64 0) 1 8 Try.underlying71 hi hz0 hz1 hz2 rfl (by decide) v1 fs.length (iv fs) (by rfl) HN2.out.o1 ⟨V.heap.size, 0, none⟩ 1 1 [.int .i64 free] (by rfl) rfl HC1.out (by intro u hu; simp at hu; subst hu; rfl) n63a (by omega) HN2.out.bs ?_
      intro u1 W3 hown hgrow hat
      have HN3 : Hid (NetM W3 base F1 F2 v1 v2 u1 v2 (fs ++ [free]) ks) := HN2.out.app1 hown hgrow hat
      have HG3 : Hid (Gr w0 W3) := HN2.out.grown1 HG2.out HBS.out hgrow
      have HC2 : Hid (∀ j u, [Value.int .i64 kept][j]? = some u → W3.cell? ((⟨W1.heap.size, 0, none⟩ : Addr).add j) = some u) := fun j u hj => hgrow.cell (HC2.out j u hj) (fun e => HQ2.out.1 (by rw [Addr.add_lit] at e; exact e.symm))
      clear hown hgrow hat
      refine hK.out _ _ ⟨HN3.out.c1, HN3.out.c2⟩ (fun _ => ?_)
      clear hK K
      refine stepC 7 (by kernel_rfl) rfl (fun K hK => ?_)
      refine step_append_at (by rfl) _ _ 71 (by rfl) base 2 i0 (.int .i64 0) 1 8 Try.underlying71 hi hz0 hz1 hz2 rfl (by decide) v2 ks.length (iv ks) (by rfl) HN3.out.o2 ⟨W1.heap.size, 0, none⟩ 1 1 [.int .i64 kept] (by rfl) rfl HC2.out (by intro u hu; simp at hu; subst hu; rfl) n63b (by omega) HN3.out.bs ?_
      intro u2 W4 hown hgrow hat
      have HN4 : Hid (NetM W4 base F1 F2 v1 v2 u1 u2 (fs ++ [free]) (ks ++ [kept])) := HN3.out.app2 hown hgrow hat
      have HG4 : Hid (Gr w0 W4) := HN3.out.grown2 HG3.out HBS.out hgrow
      clear hown hgrow hat
      refine hK.out _ _ ⟨HN4.out.c1, HN4.out.c2⟩ (fun _ => ?_)
      clear hK K
      obtain ⟨p1, q1, rfl⟩ := own_slice HN4.out.o1
      obtain ⟨p2, q2, rfl⟩ := own_slice HN4.out.o2
      refine stepS (by kernel_rfl) rfl (by kernel_rfl) (fun K hK => ?_)
      have c1 := HN4.out.c1
      have c2 := HN4.out.c2
      have z1 := HN4.out.z1
      have z2 := HN4.out.z2
      have bz := HN4.out.bs
      have hne := HN4.out.ne
      have hne2 : ¬ F2 = F1 := fun e => hne e.symm
      go_simp
      refine hK.out _ _ ?_
      clear hK K
      refine stepL 9 (by kernel_rfl) rfl (fun K hK => ?_)
      go_simp
      refine hK.out _ _ (fun h => listed_done (by kernel_rfl) h) ?_
      clear hK K
      refine doneL (by kernel_rfl) ?_ _
      go_wp2
      go_end0
      have hst := HN4.out.stores
      simp only [List.length_append, List.length_cons, List.length_nil, Nat.zero_add] at hst
      exact ⟨rfl, ⟨_, _, hst⟩, (HG4.out.set _ hF1 _).set _ hF2 _⟩
  · skip
    go_simp
    have HN1 : Hid (NetM (V.alloc (.cells #[.int .i64 kept] 2)) base F1 F2 v1 v2 v1 v2 fs ks) := HN0.out.gr (Gr.refl _).alloc
    have HG1 : Hid (Gr w0 (V.alloc (.cells #[.int .i64 kept] 2))) := HG0.out.alloc
    have HC2 : Hid (∀ j u, [Value.int .i64 kept][j]? = some u → (V.alloc (.cells #[.int .i64 kept] 2)).cell? ((⟨V.heap.size, 0, none⟩ : Addr).add j) = some u) := cell_one_new _ _ _
    have HQ2 : Hid (v1.ownBlock ≠ some V.heap.size ∧ v2.ownBlock ≠ some V.heap.size) := ⟨fun e => by have := (HN0.out.o1.lt _ e).2; omega, fun e => by have := (HN0.out.o2.lt _ e).2; omega⟩
    obtain ⟨W1, hW1⟩ : ∃ x, x = V.alloc (.cells #[.int .i64 kept] 2) := ⟨_, rfl⟩
    rw [← hW1] at HN1 HG1 HC2 ⊢
    clear hW1
    refine hK.out _ _ ⟨HN1.out.c1, HN1.out.c2⟩ ?_
    clear hK K
    refine stepC 2 (by kernel_rfl) rfl (fun K hK => ?_)
    go_simp
    have HN2 : Hid (NetM (W1.alloc (.cells #[.int .i64 free] 2)) base F1 F2 v1 v2 v1 v2 fs ks) := HN1.out.gr (Gr.refl _).alloc
    have HG2 : Hid (Gr w0 (W1.alloc (.cells #[.int .i64 free] 2))) := HG1.out.alloc
    have HC1 : Hid (∀ j u, [Value.int .i64 free][j]? = some u → (W1.alloc (.cells #[.int .i64 free] 2)).cell? ((⟨W1.heap.size, 0, none⟩ : Addr).add j) = some u) := cell_one_new _ _ _
    have HQ1 : Hid (v1.ownBlock ≠ some W1.heap.size ∧ v2.ownBlock ≠ some W1.heap.size) := ⟨fun e => by have := (HN1.out.o1.lt _ e).2; omega, fun e => by have := (HN1.out.o2.lt _ e).2; omega⟩
    have HC2b : Hid (∀ j u, [Value.int .i64 kept][j]? = some u → (W1.alloc (.cells #[.int .i64 free] 2)).cell? ((⟨V.heap.size, 0, none⟩ : Addr).add j) = some u) := fun j u hj => (Gr.refl _).alloc.keep (HC2.out j u hj)
    clear HC2
    have HC2 := HC2b
    clear HC2b
    obtain ⟨W2, hW2⟩ : ∃ x, x = W1.alloc (.cells #[.int .i64 free] 2) := ⟨_, rfl⟩
    rw [← hW2] at HN2 HG2 HC1 HC2 ⊢
    clear hW2
    refine hK.out _ _ ⟨HN2.out.c1, HN2.out.c2⟩ (fun _ => ?_)
    clear hK K
    refine stepC 3 (by kernel_rfl) rfl (fun K hK => ?_)
    refine step_append_at (by rfl) _ _ 71 (by rfl) base 2 i0 (.int .i64 0) 1 8 Try.underlying71 hi hz0 hz1 hz2 rfl (by decide) v1 fs.length (iv fs) (by rfl) HN2.out.o1 ⟨W1.heap.size, 0, none⟩ 1 1 [.int .i64 free] (by rfl) rfl HC1.out (by intro u hu; simp at hu; subst hu; rfl) n63a (by omega) HN2.out.bs ?_
    intro u1 W3 hown hgrow hat
    have HN3 : Hid (NetM W3 base F1 F2 v1 v2 u1 v2 (fs ++ [free]) ks) := HN2.out.app1 hown hgrow hat
    have HG3 : Hid (Gr w0 W3) := HN2.out.grown1 HG2.out HBS.out hgrow
    have HC2 : Hid (∀ j u, [Value.int .i64 kept][j]? = some u → W3.cell? ((⟨V.heap.size, 0, none⟩ : Addr).add j) = some u) := fun j u hj => hgrow.cell (HC2.out j u hj) (fun e => HQ2.out.1 (by rw [Addr.add_lit] at e; exact e.symm))
    clear hown hgrow hat
    refine hK.out _ _ ⟨HN3.out.c1, HN3.out.c2⟩ (fun _ => ?_)
    clear hK K
    refine stepC 7 (by kernel_rfl) rfl (fun K hK => ?_)
    refine step_append_at (by rfl) _ _ 71 (by rfl) base 2 i0 (.int .i64 0) 1 8 Try.underlying71 hi hz0 hz1 hz2 rfl (by decide) v2 ks.length (iv ks) (by rfl) HN3.out.o2 ⟨V.heap.size, 0, none⟩ 1 1 [.int .i64 kept] (by rfl) rfl HC2.out (by intro u hu; simp at hu; subst hu; rfl) n63b (by omega) HN3.out.bs ?_
    intro u2 W4 hown hgrow hat
    have HN4 : Hid (NetM W4 base F1 F2 v1 v2 u1 u2 (fs ++ [free]) (ks ++ [kept])) := HN3.out.app2 hown hgrow hat
    have HG4 : Hid (Gr w0 W4) := HN3.out.grown2 HG3.out HBS.out hgrow
    clear hown hgrow hat
    refine hK.out _ _ ⟨HN4.out.c1, HN4.out.c2⟩ (fun _ => ?_)
    clear hK K
    obtain ⟨p1, q1, rfl⟩ := own_slice HN4.out.o1
    obtain ⟨p2, q2, rfl⟩ := own_slice HN4.out.o2
    refine stepS (by kernel_rfl) rfl (by kernel_rfl) (fun K hK => ?_)
    have c1 := HN4.out.c1
    have c2 := HN4.out.c2
    have z1 := HN4.out.z1
    have z2 := HN4.out.z2
    have bz := HN4.out.bs
    have hne := HN4.out.ne
    have hne2 : ¬ F2 = F1 := fun e => hne e.symm
    go_simp
    refine hK.out _ _ ?_
    clear hK K
    refine stepL 9 (by kernel_rfl) rfl (fun K hK => ?_)
    go_simp
    refine hK.out _ _ (fun h => listed_done (by kernel_rfl) h) ?_
    clear hK K
    refine doneL (by kernel_rfl) ?_ _
    go_wp2
    go_end0
    have hst := HN4.out.stores
    simp only [List.length_append, List.length_cons, List.length_nil, Nat.zero_add] at hst
    exact ⟨rfl, ⟨_, _, hst⟩, (HG4.out.set _ hF1 _).set _ hF2 _⟩
set_option maxHeartbeats 2000000 in
set_option maxRecDepth 100000 in
theorem net1_not (m : Mk) (free kept : Int) (N H F1 F2 base : Nat) (s a : ByteArray) (v1 v2 : Value) (fs ks : List Int) (w0 w : World) (hN : w0.cell? ⟨N, 0, none⟩ = some (.string s)) (hH : w0.cell? ⟨H, 0, none⟩ = some (.string a)) (hg : Gr w0 w) (h : NetM w base F1 F2 v1 v2 v1 v2 fs ks)
    (hno : ¬ (m.t = s ∧ m.st ≠ 2 ∧ Lib.hasPrefix m.key.data.toList a.data.toList = true)) :
    Calls Try.prog 34 #[.agg #[.string m.key, .int .i64 m.k, .string m.t, .int .i64 m.n, .int .i64 m.st], .int .i64 free, .int .i64 kept, .pointer (some ⟨N, 0, none⟩), .pointer (some ⟨H, 0, none⟩), .pointer (some ⟨F1, 0, none⟩), .pointer (some ⟨F2, 0, none⟩)] w fun e w' => e = .returned (.tuple #[]) ∧ (∃ u1 u2, NetM w' base F1 F2 u1 u2 u1 u2 fs ks) ∧ Gr w0 w' := by
  have HHP : Hid (∀ w', Calls Try.prog 35 #[.string m.key, .string a] w' fun e w2 => e = .returned (.bool (Lib.hasPrefix m.key.data.toList a.data.toList)) ∧ w2 = w') := fun w' => Try.strings_HasPrefix m.key a w'
  have n0 := hg.keep hN
  have h0 := hg.keep hH
  have nl : N < w.heap.size := World.block_lt_of_cell? w _ n0
  have hl : H < w.heap.size := World.block_lt_of_cell? w _ h0
  have HNA : Hid (NetM w base F1 F2 v1 v2 v1 v2 fs ks) := h
  have HG : Hid (Gr w0 w) := hg
  clear hN hH h hg
  by_cases ht : m.t = s
  · have hqt : (m.t.toList == s.toList) = true := by rw [ht]; simp
    by_cases hst : m.st = 2
    · have hqs : (m.st != 2) = false := by simpa using hst
      clear hno ht hst
      go_enter Try.func34, Try.ntmps34
      go_wp2
      go_end0
      exact ⟨rfl, ⟨_, _, HNA.out.gr (Gr.refl _).alloc⟩, HG.out.alloc⟩
    · have hqs : (m.st != 2) = true := by simpa using hst
      have hpf : Lib.hasPrefix m.key.data.toList a.data.toList = false := by
        cases hb : Lib.hasPrefix m.key.data.toList a.data.toList with
        | false => rfl
        | true => exact absurd ⟨ht, hst, hb⟩ hno
      rw [hpf] at HHP
      clear hno ht hst hpf
      go_enter Try.func34, Try.ntmps34
      go_wp2_with fail
      refine (HHP.out _).mono ?_
      rintro e w1 ⟨rfl, hw1⟩; obtain rfl := hw1.symm
      go_wp2
      go_end0
      exact ⟨rfl, ⟨_, _, HNA.out.gr (Gr.refl _).alloc⟩, HG.out.alloc⟩
  · have hqt := neB ht
    clear hno ht
    go_enter Try.func34, Try.ntmps34
    go_wp2
    go_end0
    exact ⟨rfl, ⟨_, _, HNA.out.gr (Gr.refl _).alloc⟩, HG.out.alloc⟩
end Go.Proofs.Ytgidkmipecfjhaa
