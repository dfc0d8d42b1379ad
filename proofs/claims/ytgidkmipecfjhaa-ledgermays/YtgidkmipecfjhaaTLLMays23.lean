/- For every input the law LedgerMays answers true: any ledger may be, or not, and says of accounts and keys, as the document says. -/
import Derived.Test.YtgidkmipecfjhaaTLLMays22
import Derived.Deep.DeepCutAuto
namespace Go.Proofs.Ytgidkmipecfjhaa
open Go.RowKit
theorem w64_id (n : Int) (h0 : -9223372036854775808 ≤ n) (h1 : n ≤ 9223372036854775807) : wrap64 n = n := by unfold wrap64; omega
theorem part_eq (a : Int) : (wrap64 (a.tmod 4294967296 + 4294967296)).tmod 4294967296 = a % 4294967296 := by
  have hb : -4294967296 < a.tmod 4294967296 ∧ a.tmod 4294967296 < 4294967296 := by
    by_cases h : 0 ≤ a
    · rw [Int.tmod_eq_emod_of_nonneg h]; omega
    · have : a.tmod 4294967296 = -((-a) % 4294967296) := by rw [← Int.tmod_eq_emod_of_nonneg (by omega : 0 ≤ -a), Int.neg_tmod, Int.neg_neg]
      rw [this]; omega
  rw [w64_id _ (by omega) (by omega)]
  by_cases h : 0 ≤ a
  · rw [Int.tmod_eq_emod_of_nonneg h, Int.tmod_eq_emod_of_nonneg (by omega)]; omega
  · have : a.tmod 4294967296 = -((-a) % 4294967296) := by rw [← Int.tmod_eq_emod_of_nonneg (by omega : 0 ≤ -a), Int.neg_tmod, Int.neg_neg]
    rw [this, Int.tmod_eq_emod_of_nonneg (by omega)]; omega
theorem half_high (s a : Int) (h0 : -9223372036854775808 ≤ a) (h1 : a ≤ 9223372036854775807) (hs0 : -92233720368547758080000 ≤ s) (hs1 : s ≤ 92233720368547758080000) :
    wrap64 (wrap64 (s / 4294967296 + wrap64 ((wrap64 (a - (wrap64 (a.tmod 4294967296 + 4294967296)).tmod 4294967296)).tdiv 4294967296)) + wrap64 ((wrap64 (s % 4294967296 + (wrap64 (a.tmod 4294967296 + 4294967296)).tmod 4294967296)).tdiv 4294967296)) = (s + a) / 4294967296 := by
  rw [part_eq, w64_id (a - a % 4294967296) (by omega) (by omega)]
  have e2 : (a - a % 4294967296).tdiv 4294967296 = a / 4294967296 := by
    have : a - a % 4294967296 = a / 4294967296 * 4294967296 := by omega
    rw [this, Int.mul_tdiv_cancel _ (by omega)]
  rw [e2, w64_id (a / 4294967296) (by omega) (by omega), w64_id (s % 4294967296 + a % 4294967296) (by omega) (by omega), Int.tdiv_eq_ediv_of_nonneg (by omega)]
  rw [w64_id ((s % 4294967296 + a % 4294967296) / 4294967296) (by omega) (by omega), w64_id (s / 4294967296 + a / 4294967296) (by omega) (by omega), w64_id _ (by omega) (by omega)]
  omega
theorem half_low (s a : Int) : (wrap64 (s % 4294967296 + (wrap64 (a.tmod 4294967296 + 4294967296)).tmod 4294967296)).tmod 4294967296 = (s + a) % 4294967296 := by
  rw [part_eq, w64_id (s % 4294967296 + a % 4294967296) (by omega) (by omega), Int.tmod_eq_emod_of_nonneg (by omega)]
  omega
set_option maxHeartbeats 1000000 in
set_option maxRecDepth 100000 in
theorem refSum_any (l : List Int) (ad : Option Addr) (cap : Nat) (w : World) (hL : IntsAt w ad l) (hn : l.length ≤ 10000) (hr : ∀ a ∈ l, -9223372036854775808 ≤ a ∧ a ≤ 9223372036854775807) :
    Calls Try.prog 38 #[.slice ad l.length cap] w fun e w' => e = .returned (.tuple #[.int .i64 (Csh.valE (Csh.sumE l)), .int .i64 (Csh.errE (Csh.sumE l))]) ∧ w' = w := by
  have HL : Hid (IntsAt w ad l) := hL
  have HR : Hid (∀ a ∈ l, -9223372036854775808 ≤ a ∧ a ≤ 9223372036854775807) := hr
  clear hL hr
  go_enter Try.func38, Try.ntmps38
  go_wp2
  go_loop [4, 5, 6] (fun h o i => ∃ k : Nat, k ≤ l.length ∧ i = .int .i64 k ∧ h = .int .i64 (Csh.sumE (l.take k) / 4294967296) ∧ o = .int .i64 (Csh.sumE (l.take k) % 4294967296)) (fun _ _ i => l.length - (intOf i).toNat)
  case atStart => exact ⟨0, by omega, rfl, rfl, rfl⟩
  case round =>
    obtain ⟨k, hk, rfl, rfl, rfl⟩ := hrel
    by_cases hlt : k < l.length
    · obtain ⟨b, off, rfl, hbl, hc⟩ := HL.out k hlt
      have hz := HR.out l[k] (List.getElem_mem hlt)
      have HM : Hid (Csh.sumE (l.take (k + 1)) = Csh.sumE (l.take k) + l[k]) := Csh.sum_more l k hlt
      have hb := Csh.sum_bound (l.take k) (fun a ha => HR.out a (List.mem_of_mem_take ha))
      rw [List.length_take] at hb
      generalize l[k] = a at *
      generalize Csh.sumE (l.take k) = s at *
      have HH : Hid (_ = _) := half_high s a hz.1 hz.2 (by omega) (by omega)
      have HO : Hid (_ = _) := half_low s a
      clear hb
      go_wp2
      go_round
      case rel => exact ⟨k + 1, by omega, by go_num, by rw [HM.out, HH.out], by rw [HM.out, HO.out]⟩
      case measure => simp [intOf]; omega
    · have hkl : l.take k = l := List.take_of_length_le (by omega)
      have hb := Csh.sum_bound l HR.out
      rw [hkl]
      clear hkl
      obtain ⟨s, es⟩ : ∃ s, Csh.sumE l = s := ⟨_, rfl⟩
      have ES : Hid (Csh.sumE l = s) := es
      rw [es] at hb ⊢
      clear es
      by_cases hok : Csh.okB s = true
      · have e3 : Csh.valE s = s := by unfold Csh.valE; rw [if_pos hok]
        have e4 : Csh.errE s = 0 := by unfold Csh.errE; rw [if_pos hok]
        simp only [Csh.okB, Bool.and_eq_true, decide_eq_true_eq] at hok
        have h1 : ¬ (s / 4294967296 < -2147483648) := by omega
        have h2 : ¬ (2147483647 < s / 4294967296) := by omega
        have HV : Hid (s / 4294967296 * 4294967296 + s % 4294967296 = s) := by
          show _ = _
          omega
        have E3 : Hid (Csh.valE s = s) := e3
        have E4 : Hid (Csh.errE s = 0) := e4
        clear e3 e4 hb
        go_wp2
        go_ret2
        exact ⟨by rw [ES.out, E3.out, E4.out, ← HV.out]; simp; omega, rfl⟩
      · have e3 : Csh.valE s = 0 := by unfold Csh.valE; rw [if_neg hok]
        have e4 : Csh.errE s = 40 := by unfold Csh.errE; rw [if_neg hok]
        simp only [Csh.okB, Bool.and_eq_true, decide_eq_true_eq] at hok
        have E3 : Hid (Csh.valE s = 0) := e3
        have E4 : Hid (Csh.errE s = 40) := e4
        clear e3 e4 hb
        by_cases h1 : s / 4294967296 < -2147483648
        · go_wp2
          go_ret2
          exact ⟨by rw [ES.out, E3.out, E4.out]; rfl, rfl⟩
        · have h2 : 2147483647 < s / 4294967296 := by omega
          go_wp2
          go_ret2
          exact ⟨by rw [ES.out, E3.out, E4.out]; rfl, rfl⟩
end Go.Proofs.Ytgidkmipecfjhaa
namespace Go.Proofs.Ytgidkmipecfjhaa
open Go.RowKit
open Led (Acc Mk)
structure TwoRows (w : World) (base : Nat) (v1 v2 : Value) (fs ks : List Int) : Prop where
  o1 : w.ownsRow base 2 1 v1 fs.length (iv fs)
  o2 : w.ownsRow base 2 1 v2 ks.length (iv ks)
  ap : ∀ g, v1.ownBlock = some g → v2.ownBlock ≠ some g
  bs : base ≤ w.heap.size
section
variable {w w' : World} {base : Nat} {v1 v2 : Value} {fs ks : List Int}
theorem TwoRows.gr (h : TwoRows w base v1 v2 fs ks) (g : Gr w w') : TwoRows w' base v1 v2 fs ks := ⟨own_gr2 h.o1 g, own_gr2 h.o2 g, h.ap, Nat.le_trans h.bs g.size⟩
theorem TwoRows.app1 (h : TwoRows w base v1 v2 fs ks) {u : Value} {x : Int} (ho : w'.ownsRow base 2 1 u (fs.length + 1) (iv fs ++ [.int .i64 x])) (hg : w.grownBy w' v1.ownBlock) (hat : u.ownBlock = v1.ownBlock ∨ u.ownBlock = some w.heap.size) :
    TwoRows w' base u v2 (fs ++ [x]) ks := by
  refine ⟨?_, h.o2.kept hg ?_, ?_, Nat.le_trans h.bs hg.size⟩
  · have : iv (fs ++ [x]) = iv fs ++ [.int .i64 x] := by unfold iv; simp
    rw [this, List.length_append]; exact ho
  · cases hv : v2.ownBlock with
    | none => exact Or.inl rfl
    | some g => exact Or.inr fun e => h.ap g e.symm hv
  · intro g hu hv
    rcases hat with e | e
    · exact h.ap g (by rw [← e]; exact hu) hv
    · rw [e] at hu; cases hu
      have := (h.o2.lt _ hv).2; omega
theorem TwoRows.app2 (h : TwoRows w base v1 v2 fs ks) {u : Value} {x : Int} (ho : w'.ownsRow base 2 1 u (ks.length + 1) (iv ks ++ [.int .i64 x])) (hg : w.grownBy w' v2.ownBlock) (hat : u.ownBlock = v2.ownBlock ∨ u.ownBlock = some w.heap.size) :
    TwoRows w' base v1 u fs (ks ++ [x]) := by
  refine ⟨h.o1.kept hg ?_, ?_, ?_, Nat.le_trans h.bs hg.size⟩
  · cases hv : v1.ownBlock with
    | none => exact Or.inl rfl
    | some g => exact Or.inr fun e => h.ap g hv e.symm
  · have : iv (ks ++ [x]) = iv ks ++ [.int .i64 x] := by unfold iv; simp
    rw [this, List.length_append]; exact ho
  · intro g hu hv
    rcases hat with e | e
    · exact h.ap g hu (by rw [← e]; exact hv)
    · rw [e] at hv; cases hv
      have := (h.o1.lt _ hu).2; omega
theorem TwoAt.grownR {g : Nat} {a b : Value} (h : TwoAt w g a b) {row : Option Nat} (hg : w.grownBy w' row) (hr : some g ≠ row) : TwoAt w' g a b :=
  ⟨hg.cell h.c0 hr, hg.cell h.c1 hr, grown_frozen hg h.lt hr h.f0, grown_frozen hg h.lt hr h.f1, Nat.lt_of_lt_of_le h.lt hg.size⟩
end
set_option maxHeartbeats 8000000 in
set_option maxRecDepth 100000 in
theorem refNet7_any (A : List Acc) (M : List Mk) (s a : ByteArray) (adA : Option Addr) (capA : Nat) (adM : Option Addr) (capM : Nat) (w : World) (h : LedAt w adA adM A M) (_has : a.size ≤ 9223372036854775807) :
    Calls Try.prog 13 #[.agg #[.slice adA A.length capA, .slice adM M.length capM], .string s, .string a] w fun e w' => e = .returned (.tuple #[.int .i64 (netF A M s a), .int .i64 (netK A M s a), .int .i64 (netE A M s)]) ∧ Gr w w' := by
  have HM : Hid (∀ w', Gr w w' → Calls Try.prog 15 #[.agg #[.slice adA A.length capA, .slice adM M.length capM]] w' fun e w2 => e = .returned (.int .i64 (mayL A M)) ∧ Gr w' w2) := fun w' g => refMay7_any A M adA capA adM capM w' (h.gr g)
  have HI : Hid (∀ w', Gr w w' → Calls Try.prog 32 #[.agg #[.slice adA A.length capA, .slice adM M.length capM], .string s] w' fun e w2 => e = .returned (.int .i64 (firstI (Led.nm A) s)) ∧ Gr w' w2) := fun w' g => refAcc_any A M s adA capA adM capM w' (h.a.gr g) h.la
  have H2 : Hid (MksAt w adM M) := h.m
  cases hm : Led.mayB A M with
  | false =>
    rw [mayL_no hm] at HM
    have hE : netE A M s = 2 := by unfold netE; rw [hm]; rfl
    have hF : netF A M s a = 0 := by unfold netF; rw [hE]; rfl
    have hK : netK A M s a = 0 := by unfold netK; rw [hE]; rfl
    rw [hE, hF, hK]
    clear h hm hE hF hK
    go_enter Try.func13, Try.ntmps13
    go_wp2_with fail
    refine (HM.out _ ((Gr.refl _).alloc)).mono ?_
    rintro e w1 ⟨rfl, hg1⟩
    have g1 : Gr w w1 := (by repeat (first | exact Gr.refl _ | refine Gr.alloc ?_ | refine Gr.drew ?_ | refine Gr.trans ?_ (by assumption)))
    clear hg1
    go_wp2
    exact bodyPost_ret (v := .tuple #[.int .i64 0, .int .i64 0, .int .i64 2]) (by simp [results, Try.results13, go_sem, *]) rfl ⟨rfl, g1⟩
  | true =>
  rw [mayL_yes hm] at HM
  have hM := (Led.may_iff A M).1 hm
  cases hb : Led.hasB (Led.nm A) s with
  | false =>
    rw [first_neg hb] at HI
    have hE : netE A M s = 70 := by unfold netE; rw [hm, hb]; rfl
    have hF : netF A M s a = 0 := by unfold netF; rw [hE]; rfl
    have hK : netK A M s a = 0 := by unfold netK; rw [hE]; rfl
    rw [hE, hF, hK]
    clear h hm hM hb hE hF hK
    go_enter Try.func13, Try.ntmps13
    go_wp2_with fail
    refine (HM.out _ ((Gr.refl _).alloc)).mono ?_
    rintro e w1 ⟨rfl, hg1⟩
    have g1 : Gr w w1 := (by repeat (first | exact Gr.refl _ | refine Gr.alloc ?_ | refine Gr.drew ?_ | refine Gr.trans ?_ (by assumption)))
    obtain ⟨b0, b1, _, _, bl⟩ := (TwoAt.new w (.slice adA A.length capA) (.slice adM M.length capM) 25 _ rfl).gr hg1
    clear hg1
    go_wp2_with fail
    refine (HI.out _ g1).mono ?_
    rintro e w2 ⟨rfl, hg2⟩
    have g2 : Gr w w2 := g1.trans hg2
    clear hg2 b0 b1 bl
    go_wp2
    exact bodyPost_ret (v := .tuple #[.int .i64 0, .int .i64 0, .int .i64 70]) (by simp [results, Try.results13, go_sem, *]) rfl ⟨rfl, g2⟩
  | true =>
  have hfi : ¬ firstI (Led.nm A) s < 0 := fun h => by have := (first_sign _ _).1 h; rw [hb] at this; cases this
  generalize firstI (Led.nm A) s = fi at *
  have hE : netE A M s = 0 := by unfold netE; rw [hm, hb]; rfl
  have hF : netF A M s a = Csh.sumE (fsL s a M) := by unfold netF; rw [hE]; rfl
  have hK : netK A M s a = Csh.sumE (ksL s a M) := by unfold netK; rw [hE]; rfl
  rw [hE, hF, hK]
  have HDE : Hid (∀ m w', m ∈ M → Calls Try.prog 37 #[.agg #[.int .i64 m.k, .string m.t, .int .i64 m.n]] w' fun e w2 => e = .returned (.tuple #[.int .i64 (Led.amF m), .int .i64 (Led.amK m)]) ∧ Gr w' w2) := fun m w' hm => refDelta_any m.k m.n m.t w' (h.rm m hm).2.2.1
  have HSM : Hid (∀ (l : List Int) (ad : Option Addr) (cp : Nat) (w' : World), l = fsL s a M ∨ l = ksL s a M → IntsAt w' ad l → Calls Try.prog 38 #[.slice ad l.length cp] w' fun e w2 => e = .returned (.tuple #[.int .i64 (Csh.sumE l), .int .i64 0]) ∧ w2 = w') := fun l ad cp w' hl hi => by
    have r := fs_rng s a hM.om
    have ln := fs_len s a M
    have h5 := hM.lm
    have ss := fs_sum s a hM
    have key : l.length ≤ 10000 ∧ (∀ x ∈ l, -9223372036854775808 ≤ x ∧ x ≤ 9223372036854775807) ∧ (-9223372036854775808 ≤ Csh.sumE l ∧ Csh.sumE l ≤ 9223372036854775807) := by
      rcases hl with rfl | rfl
      · exact ⟨by omega, fun x hx => by have := r.1 x hx; omega, by omega⟩
      · exact ⟨by omega, fun x hx => by have := r.2 x hx; omega, by omega⟩
    have := refSum_any l ad cp w' hi key.1 key.2.1
    rw [(val_in key.2.2).1, (val_in key.2.2).2] at this
    exact this
  have HRM : Hid (∀ m ∈ M, inM m) := h.rm
  have hl5 : M.length ≤ 500 := hM.lm
  obtain ⟨i0, hi, hz0, hz1, hz2⟩ := info_parts infoI
  clear h hm hM hb hE hF hK
  go_enter Try.func13, Try.ntmps13
  go_wp2_with fail
  refine (HM.out _ ((Gr.refl _).alloc)).mono ?_
  rintro e w1 ⟨rfl, hg1⟩
  have g1 : Gr w w1 := (by repeat (first | exact Gr.refl _ | refine Gr.alloc ?_ | refine Gr.drew ?_ | refine Gr.trans ?_ (by assumption)))
  have HB1 : Hid (TwoAt w1 w.heap.size (.slice adA A.length capA) (.slice adM M.length capM)) := (TwoAt.new w _ _ 25 _ rfl).gr hg1
  obtain ⟨b0, b1, _, _, bl⟩ := HB1.out
  clear hg1
  go_wp2_with fail
  refine (HI.out _ g1).mono ?_
  rintro e w2 ⟨rfl, hg2⟩
  have HG2 : Hid (Gr w w2) := g1.trans hg2
  have HB2 : Hid (TwoAt w2 w.heap.size (.slice adA A.length capA) (.slice adM M.length capM)) := HB1.out.gr hg2
  clear hg2 g1 HB1 b0 b1 bl HM HI
  go_wp2
  go_loopw [9, 10, 11] (fun p1 p2 ix wr => ∃ k : Nat, k ≤ M.length ∧ ix = .int .i64 k ∧ TwoRows wr (w.heap.size + 1) p1 p2 (fsL s a (M.take k)) (ksL s a (M.take k)) ∧ TwoAt wr w.heap.size (.slice adA A.length capA) (.slice adM M.length capM) ∧ Gr w wr)
      (fun _ _ ix _ => M.length - (intOf ix).toNat)
  case atStart => exact ⟨0, by omega, rfl, ⟨own_none _ _ _ _, own_none _ _ _ _, (fun g e => by cases e), HB2.out.lt⟩, HB2.out, HG2.out⟩
  case round =>
    clear HG2 HB2
    obtain ⟨k, hk, rfl, hrw, hbx, hg⟩ := hrel
    have HB : Hid (TwoAt wr w.heap.size (.slice adA A.length capA) (.slice adM M.length capM)) := hbx
    have HG : Hid (Gr w wr) := hg
    have HR : Hid (TwoRows wr (w.heap.size + 1) _ _ (fsL s a (M.take k)) (ksL s a (M.take k))) := hrw
    obtain ⟨b0, b1, _, _, bl⟩ := hbx
    clear hg hrw
    by_cases hlt : k < M.length
    · obtain ⟨b, off, rfl, hbb, c0, c1, c2, c3, c4⟩ := MksAt.at H2.out k hlt
      have hki : (k : Int) < (M.length : Int) := by omega
      have e0 := HG.out.keep c0
      have e1 := HG.out.keep c1
      have e2 := HG.out.keep c2
      have e3 := HG.out.keep c3
      have e4 := HG.out.keep c4
      have hbw : b < wr.heap.size := Nat.lt_of_lt_of_le hbb HG.out.size
      have hD := fun w' => HDE.out M[k] w' (List.getElem_mem hlt)
      have hks := (HRM.out M[k] (List.getElem_mem hlt)).1
      have heff := eff_iff s a M[k]
      have hraw := Lib.hasPrefix_raw M[k].key a
      have hlen := fs_len s a (M.take k)
      rw [List.length_take] at hlen
      have HNO : Hid (¬ effB s a M[k] = true → ∀ (u1 u2 : Value) (W : World), TwoRows W (w.heap.size + 1) u1 u2 (fsL s a (M.take k)) (ksL s a (M.take k)) → TwoRows W (w.heap.size + 1) u1 u2 (fsL s a (M.take (k + 1))) (ksL s a (M.take (k + 1)))) := fun he u1 u2 W hr => by rw [(fs_not hlt he).1, (fs_not hlt he).2]; exact hr
      have HYE : Hid (effB s a M[k] = true → ∀ (u1 u2 : Value) (W : World), TwoRows W (w.heap.size + 1) u1 u2 (fsL s a (M.take k) ++ [Led.amF M[k]]) (ksL s a (M.take k) ++ [Led.amK M[k]]) → TwoRows W (w.heap.size + 1) u1 u2 (fsL s a (M.take (k + 1))) (ksL s a (M.take (k + 1)))) := fun he u1 u2 W hr => by rw [(fs_yes hlt he).1, (fs_yes hlt he).2]; exact hr
      generalize Led.amF M[k] = fr at *
      generalize Led.amK M[k] = kp at *
      generalize M[k] = m at *
      have HD1 : Hid (∀ w', Calls Try.prog 37 #[.agg #[.int .i64 m.k, .string m.t, .int .i64 m.n]] w' fun e w2 => e = .returned (.tuple #[.int .i64 fr, .int .i64 kp]) ∧ Gr w' w2) := hD
      clear c0 c1 c2 c3 c4 hbb hD
      generalize fsL s a (M.take k) = fs at *
      generalize ksL s a (M.take k) = ks at *
      by_cases ht : m.t = s
      case neg =>
        have HNR : Hid (∀ (u1 u2 : Value) (W : World), TwoRows W (w.heap.size + 1) u1 u2 fs ks → TwoRows W (w.heap.size + 1) u1 u2 (fsL s a (M.take (k + 1))) (ksL s a (M.take (k + 1)))) := HNO.out (fun he => ht (heff.1 he).1)
        have hqt := neB ht
        clear heff hraw HNO HYE ht hks hlen
        go_wp2
        go_roundw
        case rel => exact ⟨k + 1, by omega, by go_num, HNR.out _ _ _ (HR.out.gr (Gr.refl _).alloc), HB.out.gr (Gr.refl _).alloc, HG.out.alloc⟩
        case measure => simp [intOf]; omega
      have hqt : (m.t.toList == s.toList) = true := by rw [ht]; simp
      by_cases hst : m.st = 2
      case pos =>
        have HNR : Hid (∀ (u1 u2 : Value) (W : World), TwoRows W (w.heap.size + 1) u1 u2 fs ks → TwoRows W (w.heap.size + 1) u1 u2 (fsL s a (M.take (k + 1))) (ksL s a (M.take (k + 1)))) := HNO.out (fun he => (heff.1 he).2.1 hst)
        have hqs : (m.st == 2) = true := by simpa using hst
        clear heff hraw HNO HYE ht hst hks hlen
        go_wp2
        go_roundw
        case rel => exact ⟨k + 1, by omega, by go_num, HNR.out _ _ _ (HR.out.gr (Gr.refl _).alloc), HB.out.gr (Gr.refl _).alloc, HG.out.alloc⟩
        case measure => simp [intOf]; omega
      have hqs : (m.st == 2) = false := by simpa using hst
      by_cases hsz : (m.key.size : Int) < (a.size : Int)
      case pos =>
        have HNR : Hid (∀ (u1 u2 : Value) (W : World), TwoRows W (w.heap.size + 1) u1 u2 fs ks → TwoRows W (w.heap.size + 1) u1 u2 (fsL s a (M.take (k + 1))) (ksL s a (M.take (k + 1)))) := HNO.out (fun he => by
          have h3 := (heff.1 he).2.2
          rw [h3, decide_eq_false (by omega)] at hraw
          cases hraw)
        have hsd : decide ((m.key.size : Int) < (a.size : Int)) = true := decide_eq_true hsz
        clear heff hraw HNO HYE ht hst hks hlen
        go_wp2
        go_roundw
        case rel => exact ⟨k + 1, by omega, by go_num, HNR.out _ _ _ (HR.out.gr (Gr.refl _).alloc), HB.out.gr (Gr.refl _).alloc, HG.out.alloc⟩
        case measure => simp [intOf]; omega
      have hsd : decide ((m.key.size : Int) < (a.size : Int)) = false := decide_eq_false hsz
      have hsn : a.size ≤ m.key.size := by omega
      rw [decide_eq_true hsn, Bool.true_and] at hraw
      cases hpf : Lib.hasPrefix m.key.data.toList a.data.toList with
      | false =>
        have HNR : Hid (∀ (u1 u2 : Value) (W : World), TwoRows W (w.heap.size + 1) u1 u2 fs ks → TwoRows W (w.heap.size + 1) u1 u2 (fsL s a (M.take (k + 1))) (ksL s a (M.take (k + 1)))) := HNO.out (fun he => by have h3 := (heff.1 he).2.2; rw [hpf] at h3; cases h3)
        rw [hpf] at hraw
        clear heff HNO HYE ht hst hlen hpf
        go_wp2
        go_roundw
        case rel => exact ⟨k + 1, by omega, by go_num, HNR.out _ _ _ (HR.out.gr (Gr.refl _).alloc), HB.out.gr (Gr.refl _).alloc, HG.out.alloc⟩
        case measure => simp [intOf]; omega
      | true =>
        have HYR : Hid (∀ (u1 u2 : Value) (W : World), TwoRows W (w.heap.size + 1) u1 u2 (fs ++ [fr]) (ks ++ [kp]) → TwoRows W (w.heap.size + 1) u1 u2 (fsL s a (M.take (k + 1))) (ksL s a (M.take (k + 1)))) := HYE.out (heff.2 ⟨ht, hst, hpf⟩)
        rw [hpf] at hraw
        have n63a : fs.length + 1 ≤ maxLen := by unfold maxLen; omega
        have n63b : ks.length + 1 ≤ maxLen := by unfold maxLen; omega
        clear heff HNO HYE ht hst hpf
        go_wp2_with fail
        refine (HD1.out _).mono ?_
        rintro e w3 ⟨rfl, hg3⟩
        have HW3 : Hid (Gr wr w3) := (Gr.refl wr).alloc.trans hg3
        have HR3 := HR.out.gr HW3.out
        have hbs := HR3.bs
        clear hg3 e0 e1 e2 e3 e4 b0 b1 bl
        go_wp2_with (first
          | (at_builtin; refine wpList_append_own_at _ rfl _ _ 71 rfl (w.heap.size + 1) 2 i0 (.int .i64 0) 1 8 Try.underlying71 hi hz0 hz1 hz2 rfl (by decide) _ _ _ rfl (HR3.o1.alloc _) ⟨w3.heap.size, 0, none⟩ 1 1 [.int .i64 fr] rfl rfl (cell_one_new _ _ _) (by intro u hu; simp at hu; subst hu; rfl) n63a (by omega) (by simp; omega) ?_)
          | fail)
        intro u1 w4 hown1 hgrow1 _ hat1
        have HR4 := (HR3.gr (Gr.refl _).alloc).app1 hown1 hgrow1 (by simpa using hat1)
        have HG4 : Hid (Gr w w4) := (HG.out.trans HW3.out).alloc.grown hgrow1 (fun g e => by have := (HR3.o1.lt _ e).1; omega)
        have HB4 : Hid (TwoAt w4 w.heap.size (.slice adA A.length capA) (.slice (some ⟨b, off, none⟩) M.length capM)) := ((HB.out.gr HW3.out).gr (Gr.refl _).alloc).grownR hgrow1 (fun e => by have := (HR3.o1.lt _ e.symm).1; omega)
        have hbs4 := HR4.bs
        clear hown1 hgrow1 hat1 HR3 hbs
        go_wp2_with (first
          | (at_builtin; refine wpList_append_own_at _ rfl _ _ 71 rfl (w.heap.size + 1) 2 i0 (.int .i64 0) 1 8 Try.underlying71 hi hz0 hz1 hz2 rfl (by decide) _ _ _ rfl (HR4.o2.alloc _) ⟨w4.heap.size, 0, none⟩ 1 1 [.int .i64 kp] rfl rfl (cell_one_new _ _ _) (by intro u hu; simp at hu; subst hu; rfl) n63b (by omega) (by simp; omega) ?_)
          | fail)
        intro u2 w5 hown2 hgrow2 _ hat2
        have HR5 : Hid (TwoRows w5 (w.heap.size + 1) u1 u2 (fs ++ [fr]) (ks ++ [kp])) := (HR4.gr (Gr.refl _).alloc).app2 hown2 hgrow2 (by simpa using hat2)
        have HG5 : Hid (Gr w w5) := HG4.out.alloc.grown hgrow2 (fun g e => by have := (HR4.o2.lt _ e).1; omega)
        have HB5 : Hid (TwoAt w5 w.heap.size (.slice adA A.length capA) (.slice (some ⟨b, off, none⟩) M.length capM)) := (HB4.out.gr (Gr.refl _).alloc).grownR hgrow2 (fun e => by have := (HR4.o2.lt _ e.symm).1; omega)
        clear hown2 hgrow2 hat2 HR4 hbs4
        go_wp2
        go_roundw
        case rel => exact ⟨k + 1, by omega, by go_num, HYR.out _ _ _ HR5.out, HB5.out, HG5.out⟩
        case measure => simp [intOf]; omega
    · have hki : ¬ (k : Int) < (M.length : Int) := by omega
      obtain rfl : k = M.length := by omega
      rw [List.take_length] at HR
      obtain ⟨a1, q1, rfl, _, hi1⟩ := own_ints (l := fsL s a M) HR.out.o1
      obtain ⟨a2, q2, rfl, _, hi2⟩ := own_ints (l := ksL s a M) HR.out.o2
      have HS1 : Hid (Calls Try.prog 38 #[.slice a1 (fsL s a M).length q1] wr fun e w2 => e = .returned (.tuple #[.int .i64 (Csh.sumE (fsL s a M)), .int .i64 0]) ∧ w2 = wr) := HSM.out _ a1 q1 wr (Or.inl rfl) hi1
      have HS2 : Hid (Calls Try.prog 38 #[.slice a2 (ksL s a M).length q2] wr fun e w2 => e = .returned (.tuple #[.int .i64 (Csh.sumE (ksL s a M)), .int .i64 0]) ∧ w2 = wr) := HSM.out _ a2 q2 wr (Or.inr rfl) hi2
      have HGE : Hid (Gr w wr) := HG.out
      clear HR hi1 hi2 HSM HDE HRM HB HG
      obtain ⟨r1, hr1⟩ : ∃ r, Csh.sumE (fsL s a M) = r := ⟨_, rfl⟩
      obtain ⟨r2, hr2⟩ : ∃ r, Csh.sumE (ksL s a M) = r := ⟨_, rfl⟩
      rw [hr1] at HS1
      rw [hr2] at HS2
      have HE1 : Hid (Csh.sumE (fsL s a M) = r1) := hr1
      have HE2 : Hid (Csh.sumE (ksL s a M) = r2) := hr2
      clear hr1 hr2
      go_wp2_with fail
      refine HS1.out.mono ?_
      rintro e w3 ⟨rfl, hw3⟩; obtain rfl := hw3.symm
      go_wp2_with fail
      refine HS2.out.mono ?_
      rintro e w3 ⟨rfl, hw3⟩; obtain rfl := hw3.symm
      go_wp2
      exact bodyPost_ret (v := .tuple #[.int .i64 r1, .int .i64 r2, .int .i64 0]) (by simp [results, Try.results13, go_sem, *]) rfl ⟨by rw [HE1.out, HE2.out], HGE.out⟩
end Go.Proofs.Ytgidkmipecfjhaa
namespace Go.Proofs.Ytgidkmipecfjhaa
open Go.ChangeShapes Go.WideShapes Go.ChangeAt Go.RowKit
open Go.ChangeMaps (open_string shut_string)
open Led (Acc Mk)
theorem hold16 {a b : World} (g : Gr a b) {q0 q1 q2 q3 q4 q5 q6 q7 q8 q9 q10 q11 q12 q13 q14 q15 : Addr} {v0 v1 v2 v3 v4 v5 v6 v7 v8 v9 v10 v11 v12 v13 v14 v15 : Value} (h0 : a.cell? q0 = some v0) (h1 : a.cell? q1 = some v1) (h2 : a.cell? q2 = some v2) (h3 : a.cell? q3 = some v3) (h4 : a.cell? q4 = some v4) (h5 : a.cell? q5 = some v5) (h6 : a.cell? q6 = some v6) (h7 : a.cell? q7 = some v7) (h8 : a.cell? q8 = some v8) (h9 : a.cell? q9 = some v9) (h10 : a.cell? q10 = some v10) (h11 : a.cell? q11 = some v11) (h12 : a.cell? q12 = some v12) (h13 : a.cell? q13 = some v13) (h14 : a.cell? q14 = some v14) (h15 : a.cell? q15 = some v15) :
    Gr a b ∧ b.cell? q0 = some v0 ∧ b.cell? q1 = some v1 ∧ b.cell? q2 = some v2 ∧ b.cell? q3 = some v3 ∧ b.cell? q4 = some v4 ∧ b.cell? q5 = some v5 ∧ b.cell? q6 = some v6 ∧ b.cell? q7 = some v7 ∧ b.cell? q8 = some v8 ∧ b.cell? q9 = some v9 ∧ b.cell? q10 = some v10 ∧ b.cell? q11 = some v11 ∧ b.cell? q12 = some v12 ∧ b.cell? q13 = some v13 ∧ b.cell? q14 = some v14 ∧ b.cell? q15 = some v15 :=
  ⟨g, g.keep h0, g.keep h1, g.keep h2, g.keep h3, g.keep h4, g.keep h5, g.keep h6, g.keep h7, g.keep h8, g.keep h9, g.keep h10, g.keep h11, g.keep h12, g.keep h13, g.keep h14, g.keep h15⟩
theorem len_maxL {n : Nat} (h : n ≤ maxLen) : n ≤ 9223372036854775807 := by unfold maxLen at h; omega
set_option maxHeartbeats 8000000 in
set_option maxRecDepth 100000 in
theorem ledgerMays_walk (A : List Acc) (M : List Mk) (s key : ByteArray) (adA : Option Addr) (capA : Nat) (adM : Option Addr) (capM : Nat) (w : World) (h : LedAt w adA adM A M) (hk : key.size ≤ 9223372036854775807) :
    Calls Try.prog 3 #[.agg #[.slice adA A.length capA, .slice adM M.length capM], .string s, .string key] w fun e w' => e = .returned (.bool true) ∧ Gr w w' := by
  have HA : Hid (∀ w', Calls Try.prog 9 #[] w' fun e w2 => e = .returned (.bool true) ∧ Gr w' w2) := fun w' => awake_any w'
  have HS : Hid (∀ w', Gr w w' → Calls Try.prog 8 #[.agg #[.slice adA A.length capA, .slice adM M.length capM]] w' fun e w2 => IsB e ∧ Gr w' w2) := fun w' g => small_some A M adA capA adM capM w' (h.m.gr g) h.la h.lm
  have HF : Hid (∀ w', Gr w w' → Calls Try.prog 10 #[.agg #[.slice adA A.length capA, .slice adM M.length capM], .string s] w' fun e w2 => e = .returned (.tuple #[.agg (accC (findE A M s)).toArray, .bool (findB A M s)]) ∧ Gr w' w2) := fun w' g => find7_any A M s adA capA adM capM w' (h.gr g)
  have HG : Hid (∀ w', Gr w w' → Calls Try.prog 11 #[.agg #[.slice adA A.length capA, .slice adM M.length capM], .string s] w' fun e w2 => e = .returned (.tuple #[.agg (accC (findE A M s)).toArray, .bool (findB A M s)]) ∧ Gr w' w2) := fun w' g => refFind7_any A M s adA capA adM capM w' (h.gr g)
  have HN : Hid (∀ w', Gr w w' → Calls Try.prog 12 #[.agg #[.slice adA A.length capA, .slice adM M.length capM], .string s, .string key] w' fun e w2 => e = .returned (.tuple #[.int .i64 (netF A M s key), .int .i64 (netK A M s key), .int .i64 (netE A M s)]) ∧ Gr w' w2) := fun w' g => net7_any A M s key adA capA adM capM w' (h.gr g)
  have HO : Hid (∀ w', Gr w w' → Calls Try.prog 13 #[.agg #[.slice adA A.length capA, .slice adM M.length capM], .string s, .string key] w' fun e w2 => e = .returned (.tuple #[.int .i64 (netF A M s key), .int .i64 (netK A M s key), .int .i64 (netE A M s)]) ∧ Gr w' w2) := fun w' g => refNet7_any A M s key adA capA adM capM w' (h.gr g) hk
  have HM : Hid (∀ w', Gr w w' → Calls Try.prog 14 #[.agg #[.slice adA A.length capA, .slice adM M.length capM]] w' fun e w2 => e = .returned (.int .i64 (mayL A M)) ∧ Gr w' w2) := fun w' g => (h.gr g).may capA capM
  have HP : Hid (∀ w', Gr w w' → Calls Try.prog 15 #[.agg #[.slice adA A.length capA, .slice adM M.length capM]] w' fun e w2 => e = .returned (.int .i64 (mayL A M)) ∧ Gr w' w2) := fun w' g => refMay7_any A M adA capA adM capM w' (h.gr g)
  have HT : Hid (∀ w', Gr w w' → Calls Try.prog 16 #[.agg #[.slice adA A.length capA, .slice adM M.length capM], .string key] w' fun e w2 => e = .returned (.int .i64 (stateE A M key)) ∧ Gr w' w2) := fun w' g => state7_any A M key adA capA adM capM w' (h.gr g)
  have HU : Hid (∀ w', Gr w w' → Calls Try.prog 17 #[.agg #[.slice adA A.length capA, .slice adM M.length capM], .string key] w' fun e w2 => e = .returned (.int .i64 (stateE A M key)) ∧ Gr w' w2) := fun w' g => refState7_any A M key adA capA adM capM w' (h.gr g)
  clear h
  unfold accC at HF HG
  generalize findE A M s = x at *
  generalize findB A M s = fb at *
  generalize netF A M s key = nf at *
  generalize netK A M s key = nk at *
  generalize netE A M s = ne at *
  generalize mayL A M = my at *
  generalize stateE A M key = sk at *
  go_enter Try.func3, Try.ntmps3
  go_wp2_with fail
  refine (HS.out _ ((Gr.refl _).alloc)).mono ?_
  rintro e w1 ⟨⟨b, rfl⟩, hg1⟩
  have HB1 : Hid (TwoAt w1 w.heap.size (.slice adA A.length capA) (.slice adM M.length capM)) := (TwoAt.new w _ _ 25 _ rfl).gr hg1
  have g1 : Gr w w1 := (by repeat (first | exact Gr.refl _ | refine Gr.alloc ?_ | refine Gr.drew ?_ | refine Gr.trans ?_ (by assumption)))
  obtain ⟨b0, b1, _, _, bl⟩ := HB1.out
  clear hg1
  cases b with
  | false =>
    go_wp2_with fail
    refine (HA.out _).mono ?_
    rintro e w2 ⟨rfl, hg2⟩
    have g2 : Gr w w2 := g1.trans hg2
    clear hg2
    go_wp2
    go_ret
    exact ⟨rfl, g2⟩
  | true =>
  by_cases hlen : (1000 : Int) < (key.size : Int)
  · go_wp2_with fail
    refine (HA.out _).mono ?_
    rintro e w2 ⟨rfl, hg2⟩
    have g2 : Gr w w2 := g1.trans hg2
    clear hg2
    go_wp2
    go_ret
    exact ⟨rfl, g2⟩
  go_wp2_with fail
  refine (HF.out _ g1).mono ?_
  rintro e w2 ⟨rfl, hg2⟩
  have HB2 : Hid (TwoAt w2 w.heap.size (.slice adA A.length capA) (.slice adM M.length capM)) := HB1.out.gr hg2
  have g2 : Gr w w2 := g1.trans hg2
  clear hg2 b0 b1 bl HB1 g1
  obtain ⟨b0, b1, _, _, bl⟩ := HB2.out
  go_wp2_with fail
  refine (HG.out _ g2.alloc).mono ?_
  rintro e w3 ⟨rfl, hg3⟩
  have HB3 : Hid (TwoAt w3 w.heap.size (.slice adA A.length capA) (.slice adM M.length capM)) := (HB2.out.gr (Gr.refl _).alloc).gr hg3
  have HX3 : Hid (AccAt w3 w2.heap.size (.string x.s) (.int .i64 x.a) (.int .i64 x.b) (.int .i64 x.c) (.int .i64 x.x) (.int .i64 x.y) (.int .i64 x.z)) := (AccAt.new w2 _ _ _ _ _ _ _ _ _ rfl).gr hg3
  have g3 : Gr w w3 := g2.alloc.trans hg3
  clear hg3 b0 b1 bl HB2 g2
  obtain ⟨b0, b1, _, _, bl⟩ := HB3.out
  go_wp2_with fail
  refine (HN.out _ g3.alloc).mono ?_
  rintro e w4 ⟨rfl, hg4⟩
  have HB4 : Hid (TwoAt w4 w.heap.size (.slice adA A.length capA) (.slice adM M.length capM)) := (HB3.out.gr (Gr.refl _).alloc).gr hg4
  have HX4 : Hid (AccAt w4 w2.heap.size (.string x.s) (.int .i64 x.a) (.int .i64 x.b) (.int .i64 x.c) (.int .i64 x.x) (.int .i64 x.y) (.int .i64 x.z)) := (HX3.out.gr (Gr.refl _).alloc).gr hg4
  have HY4 : Hid (AccAt w4 w3.heap.size (.string x.s) (.int .i64 x.a) (.int .i64 x.b) (.int .i64 x.c) (.int .i64 x.x) (.int .i64 x.y) (.int .i64 x.z)) := (AccAt.new w3 _ _ _ _ _ _ _ _ _ rfl).gr hg4
  have g4 : Gr w w4 := g3.alloc.trans hg4
  clear hg4 b0 b1 bl HB3 g3 HX3
  obtain ⟨b0, b1, _, _, bl⟩ := HB4.out
  go_wp2_with fail
  refine (HO.out _ g4).mono ?_
  rintro e W ⟨rfl, hg5⟩
  have HB5 : Hid (TwoAt W w.heap.size (.slice adA A.length capA) (.slice adM M.length capM)) := HB4.out.gr hg5
  have HX5 : Hid (AccAt W w2.heap.size (.string x.s) (.int .i64 x.a) (.int .i64 x.b) (.int .i64 x.c) (.int .i64 x.x) (.int .i64 x.y) (.int .i64 x.z)) := HX4.out.gr hg5
  have HY5 : Hid (AccAt W w3.heap.size (.string x.s) (.int .i64 x.a) (.int .i64 x.b) (.int .i64 x.c) (.int .i64 x.x) (.int .i64 x.y) (.int .i64 x.z)) := HY4.out.gr hg5
  have g5 : Gr w W := g4.trans hg5
  clear hg5 b0 b1 bl HB4 g4 HX4 HY4
  obtain ⟨b0, b1, _, _, bl⟩ := HB5.out
  obtain ⟨x0, x1, x2, x3, x4, x5, x6⟩ := HX5.out.cells
  obtain ⟨y0, y1, y2, y3, y4, y5, y6⟩ := HY5.out.cells
  have HG5 : Hid (Gr w W) := g5
  clear g5
  go_upto_region 7 with fail
  refine wp_region_held_drew (S := (fun w' => Gr W w' ∧ w'.cell? ⟨w.heap.size, 0, none⟩ = some (.slice adA A.length capA) ∧ w'.cell? ⟨w.heap.size, 1, none⟩ = some (.slice adM M.length capM) ∧ w'.cell? ⟨w2.heap.size, 0, none⟩ = some (.string x.s) ∧ w'.cell? ⟨w2.heap.size, 1, none⟩ = some (.int .i64 x.a) ∧ w'.cell? ⟨w2.heap.size, 2, none⟩ = some (.int .i64 x.b) ∧ w'.cell? ⟨w2.heap.size, 3, none⟩ = some (.int .i64 x.c) ∧ w'.cell? ⟨w2.heap.size, 4, none⟩ = some (.int .i64 x.x) ∧ w'.cell? ⟨w2.heap.size, 5, none⟩ = some (.int .i64 x.y) ∧ w'.cell? ⟨w2.heap.size, 6, none⟩ = some (.int .i64 x.z) ∧ w'.cell? ⟨w3.heap.size, 0, none⟩ = some (.string x.s) ∧ w'.cell? ⟨w3.heap.size, 1, none⟩ = some (.int .i64 x.a) ∧ w'.cell? ⟨w3.heap.size, 2, none⟩ = some (.int .i64 x.b) ∧ w'.cell? ⟨w3.heap.size, 3, none⟩ = some (.int .i64 x.c) ∧ w'.cell? ⟨w3.heap.size, 4, none⟩ = some (.int .i64 x.x) ∧ w'.cell? ⟨w3.heap.size, 5, none⟩ = some (.int .i64 x.y) ∧ w'.cell? ⟨w3.heap.size, 6, none⟩ = some (.int .i64 x.z))) (by kernel_rfl) (by exact hold16 (by (with_reducible repeat' (first | exact Gr.refl _ | refine Gr.set ?_ _ ?_ _ | refine Gr.alloc ?_ | refine Gr.drew ?_ | refine Gr.trans ?_ (by assumption))) <;> (first | (simp; done) | (simp; omega) | omega)) b0 b1 x0 x1 x2 x3 x4 x5 x6 y0 y1 y2 y3 y4 y5 y6) (fun hHeld => ?_)
  refine ty 0 54 hHeld ?_
  refine ty 2 56 hHeld ?_
  refine wpAnyH_ready (rs := [1]) (by kernel_rfl) (by simp) (AllReadyH.cons rfl (fun K hK => ?_) AllReadyH.nil)
  go_simp
  (go_at_call 14; refine (HM.out _ (HG5.out.trans (by (with_reducible repeat' (first | exact Gr.refl _ | refine Gr.set ?_ _ ?_ _ | refine Gr.alloc ?_ | refine Gr.drew ?_ | refine Gr.trans ?_ (by assumption))) <;> (first | (simp; done) | (simp; omega) | omega)))).mono ?_; rintro e wa ⟨rfl, hga⟩)
  (try go_wp2_with fail)
  refine hK.out _ _ (by exact hold16 (by (with_reducible repeat' (first | exact Gr.refl _ | refine Gr.set ?_ _ ?_ _ | refine Gr.alloc ?_ | refine Gr.drew ?_ | refine Gr.trans ?_ (by assumption))) <;> (first | (simp; done) | (simp; omega) | omega)) b0 b1 x0 x1 x2 x3 x4 x5 x6 y0 y1 y2 y3 y4 y5 y6) (fun hHeldN => ?_)
  clear hHeld hK K
  have hHeld := hHeldN
  clear hHeldN
  refine wpAnyH_ready (rs := [3]) (by kernel_rfl) (by simp) (AllReadyH.cons rfl (fun K hK => ?_) AllReadyH.nil)
  go_simp
  (go_at_call 15; refine (HP.out _ (HG5.out.trans (by (with_reducible repeat' (first | exact Gr.refl _ | refine Gr.set ?_ _ ?_ _ | refine Gr.alloc ?_ | refine Gr.drew ?_ | refine Gr.trans ?_ (by assumption))) <;> (first | (simp; done) | (simp; omega) | omega)))).mono ?_; rintro e wb ⟨rfl, hgb⟩)
  (try go_wp2_with fail)
  refine hK.out _ _ (by exact hold16 (by (with_reducible repeat' (first | exact Gr.refl _ | refine Gr.set ?_ _ ?_ _ | refine Gr.alloc ?_ | refine Gr.drew ?_ | refine Gr.trans ?_ (by assumption))) <;> (first | (simp; done) | (simp; omega) | omega)) b0 b1 x0 x1 x2 x3 x4 x5 x6 y0 y1 y2 y3 y4 y5 y6) (fun hHeldN => ?_)
  clear hHeld hK K
  have hHeld := hHeldN
  clear hHeldN
  refine ty 4 58 hHeld ?_
  refine ty 5 59 hHeld ?_
  refine ty 6 60 hHeld ?_
  refine ty 7 61 hHeld ?_
  refine ty 8 62 hHeld ?_
  refine ty 9 63 hHeld ?_
  refine ty 10 64 hHeld ?_
  refine ty 11 65 hHeld ?_
  refine ty 12 66 hHeld ?_
  refine ty 13 67 hHeld ?_
  refine ty 14 68 hHeld ?_
  refine ty 15 69 hHeld ?_
  refine ty 16 70 hHeld ?_
  refine ty 17 71 hHeld ?_
  refine ty 19 73 hHeld ?_
  refine ty 20 74 hHeld ?_
  refine wpAnyH_ready (rs := [18]) (by kernel_rfl) (by simp) (AllReadyH.cons rfl (fun K hK => ?_) AllReadyH.nil)
  go_simp
  (go_at_call 16; refine (HT.out _ (HG5.out.trans (by (with_reducible repeat' (first | exact Gr.refl _ | refine Gr.set ?_ _ ?_ _ | refine Gr.alloc ?_ | refine Gr.drew ?_ | refine Gr.trans ?_ (by assumption))) <;> (first | (simp; done) | (simp; omega) | omega)))).mono ?_; rintro e wc ⟨rfl, hgc⟩)
  (try go_wp2_with fail)
  refine hK.out _ _ (by exact hold16 (by (with_reducible repeat' (first | exact Gr.refl _ | refine Gr.set ?_ _ ?_ _ | refine Gr.alloc ?_ | refine Gr.drew ?_ | refine Gr.trans ?_ (by assumption))) <;> (first | (simp; done) | (simp; omega) | omega)) b0 b1 x0 x1 x2 x3 x4 x5 x6 y0 y1 y2 y3 y4 y5 y6) (fun hHeldN => ?_)
  clear hHeld hK K
  have hHeld := hHeldN
  clear hHeldN
  refine wpAnyH_ready (rs := [21]) (by kernel_rfl) (by simp) (AllReadyH.cons rfl (fun K hK => ?_) AllReadyH.nil)
  go_simp
  (go_at_call 17; refine (HU.out _ (HG5.out.trans (by (with_reducible repeat' (first | exact Gr.refl _ | refine Gr.set ?_ _ ?_ _ | refine Gr.alloc ?_ | refine Gr.drew ?_ | refine Gr.trans ?_ (by assumption))) <;> (first | (simp; done) | (simp; omega) | omega)))).mono ?_; rintro e wd ⟨rfl, hgd⟩)
  (try go_wp2_with fail)
  refine hK.out _ _ (by exact hold16 (by (with_reducible repeat' (first | exact Gr.refl _ | refine Gr.set ?_ _ ?_ _ | refine Gr.alloc ?_ | refine Gr.drew ?_ | refine Gr.trans ?_ (by assumption))) <;> (first | (simp; done) | (simp; omega) | omega)) b0 b1 x0 x1 x2 x3 x4 x5 x6 y0 y1 y2 y3 y4 y5 y6) (fun hHeldN => ?_)
  clear hHeld hK K
  have hHeld := hHeldN
  clear hHeldN
  refine ty 22 76 hHeld ?_
  refine ty 23 77 hHeld ?_
  refine ty 24 78 hHeld ?_
  refine ty 25 79 hHeld ?_
  refine ty 26 80 hHeld ?_
  refine ty 27 81 hHeld ?_
  refine ty 28 82 hHeld ?_
  refine ty 29 83 hHeld ?_
  refine ty 30 84 hHeld ?_
  refine ty 31 85 hHeld ?_
  refine ty 32 86 hHeld ?_
  refine ty 33 87 hHeld ?_
  refine ty 34 88 hHeld ?_
  refine ty 35 89 hHeld ?_
  refine ty 36 90 hHeld ?_
  refine ty 37 91 hHeld ?_
  refine ty 38 92 hHeld ?_
  refine ty 39 93 hHeld ?_
  refine wpAnyH_ready (rs := [40]) (by kernel_rfl) (by simp) (AllReadyH.cons rfl (fun K hK => ?_) AllReadyH.nil)
  go_simp
  (go_at_call 9; refine (HA.out _).mono ?_; rintro e we ⟨rfl, hge⟩)
  (try go_wp2_with fail)
  refine hK.out _ _ (by exact hold16 (by (with_reducible repeat' (first | exact Gr.refl _ | refine Gr.set ?_ _ ?_ _ | refine Gr.alloc ?_ | refine Gr.drew ?_ | refine Gr.trans ?_ (by assumption))) <;> (first | (simp; done) | (simp; omega) | omega)) b0 b1 x0 x1 x2 x3 x4 x5 x6 y0 y1 y2 y3 y4 y5 y6) (fun hHeldN => ?_)
  clear hHeld hK K
  have hHeld := hHeldN
  clear hHeldN
  refine ty 41 95 hHeld ?_
  refine ty 42 6 hHeld ?_
  refine wpAnyH_done (by kernel_rfl) ?_ _
  go_wp2
  go_ret
  exact ⟨rfl, HG5.out.trans (by (with_reducible repeat' (first | exact Gr.refl _ | refine Gr.set ?_ _ ?_ _ | refine Gr.alloc ?_ | refine Gr.drew ?_ | refine Gr.trans ?_ (by assumption))) <;> (first | (simp; done) | (simp; omega) | omega))⟩
set_option maxRecDepth 100000 in
theorem ledgerMays_lifted (os : Os) (started : os.Started) (H : Type) (enc : TypeId × Value → H) :
    ReturnsInHanded {} Try.checked os 3 .any (Rows.ledgerMaysSpec.pre6 enc Try.prog Try.f3 Rows.ledgerMaysRow.domain false) (Rows.ledgerMaysSpec.post enc Try.prog Try.f3 false true false false) := by
  refine returnsInHanded_of_change (C := Try.checked) own2 started (by kernel_rfl) Try.func3
    (ChangeSpec.witness6 (enc := enc) (C := Try.checked) false ⟨#[], #[.agg #[.slice none 0 0, .slice none 0 0], .string ⟨#[]⟩, .string ⟨#[]⟩], []⟩ 8 (by kernel_rfl) (by kernel_rfl) (by kernel_rfl) (by kernel_rfl)) ?_
  intro W base args ds gs before hval0 hW hcnd _
  have hval : ∀ (j : Nat) t v, Try.f3.params[j]? = some t → args[j]? = some v → Value.okWide Try.prog W .any base t v := hval0
  have hW' := hW
  obtain ⟨p, q, hA0, hV, rfl, hfz, hnd⟩ := hW
  have hA : DataW.TrodAll enc Try.prog W 0 (fun _ => true) true Try.f3.params.toList args.toList ds p := hA0
  rw [Try.params3] at hA hval
  obtain ⟨v0, v1, v2, d0, d1, d2, p0, p1, p2, rfl, rfl, rfl, q0, q1, q2⟩ := trodAll_three hA
  obtain ⟨rfl, rfl⟩ := trodVars_none hV
  have k0 := q0
  have lt0 : ∀ x ∈ p0, x.block < W.heap.size := by obtain ⟨m, hm⟩ := k0; exact DataW.trod_lt m _ _ _ hm
  obtain ⟨adA0, capA0, adM0, capM0, A0, M0, rfl, hL0⟩ := open_led (hval 0 25 v0 rfl rfl) q0
  obtain ⟨a1, rfl, rfl, rfl, wa1⟩ := open_string Try.underlying9 (hval 1 9 v1 rfl rfl) q1
  obtain ⟨a2, rfl, rfl, rfl, wa2⟩ := open_string Try.underlying9 (hval 2 9 v2 rfl rfl) q2
  clear hA0 hval0
  refine (ledgerMays_walk A0 M0 a1 a2 adA0 capA0 adM0 capM0 W hL0 (len_maxL wa2)).mono fun e W' ⟨he, hg⟩ => ?_
  subst he
  exact ⟨_, rfl, _, _, _, [], _, [], hW', trodAll_mk1 (shut_bool Try.underlying4 _), trodAll_mk3 (Below.trod laidOut2 (by kernel_rfl) (of_decide_eq_true (by kernel_rfl)) k0 hg.below lt0) (shut_string Try.underlying9 wa1) (shut_string Try.underlying9 wa2), rfl, hg.below.frame _, fun h => by cases h⟩
theorem ledgerMays_holds : Rows.LedgerMaysSaid :=
  OpenClaim.holds_of_wide 3 Try.f3 rfl rfl rfl rfl rfl rfl rfl ⟨rfl, rfl, rfl, rfl, rfl⟩ rfl rfl rfl rfl rfl (by kernel_rfl) Try.func3 (by kernel_rfl)
    (of_decide_eq_true (by kernel_rfl)) (by unfold Func.isWrapper; first | (rw [if_pos (by decide +kernel)]; kernel_rfl) | (rw [if_neg (by decide +kernel)]; exact ⟨rfl, rfl⟩))
    (fun os started H enc _ => ledgerMays_lifted os started H enc)
end Go.Proofs.Ytgidkmipecfjhaa
