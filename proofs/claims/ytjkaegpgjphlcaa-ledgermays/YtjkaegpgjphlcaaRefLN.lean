/- The document's Net. -/
import Derived.Test.YtjkaegpgjphlcaaNetD
import Derived.Test.YtjkaegpgjphlcaaRefLM
import Derived.Test.YtjkaegpgjphlcaaCashR
namespace Go.Proofs.Ytjkaegpgjphlcaa
open Go.RowKit
open Led (Acc Mk)

/- two lists that are gathered -/
structure TwoRows (w : World) (base : Nat) (v1 v2 : Value) (fs ks : List Int) : Prop where
  o1 : w.ownsRow base 2 1 v1 fs.length (iv fs)
  o2 : w.ownsRow base 2 1 v2 ks.length (iv ks)
  ap : ∀ g, v1.ownBlock = some g → v2.ownBlock ≠ some g
  bs : base ≤ w.heap.size
section
variable {w w' : World} {base : Nat} {v1 v2 : Value} {fs ks : List Int}
theorem TwoRows.gr (h : TwoRows w base v1 v2 fs ks) (g : Gr w w') : TwoRows w' base v1 v2 fs ks := ⟨own_gr2 h.o1 g, own_gr2 h.o2 g, h.ap, Nat.le_trans h.bs g.size⟩
theorem TwoRows.app1 (h : TwoRows w base v1 v2 fs ks) {u : Value} {x : Int} (ho : w'.ownsRow base 2 1 u (fs.length + 1) (iv fs ++ [.int .i64 x])) (hg : w.grownBy w' v1.ownBlock) (hat : u.ownBlock = v1.ownBlock ∨ u.ownBlock = some w.heap.size) :
    TwoRows w' base u v2 (fs ++ [x]) ks := by
  refine ⟨?_, h.o2.kept hg ?_, ?_, Nat.le_trans h.bs hg.size⟩
  · have : iv (fs ++ [x]) = iv fs ++ [.int .i64 x] := by unfold iv; simp
    rw [this, List.length_append]; exact ho
  · cases hv : v2.ownBlock with
    | none => exact Or.inl rfl
    | some g => exact Or.inr fun e => h.ap g e.symm hv
  · intro g hu hv
    rcases hat with e | e
    · exact h.ap g (by rw [← e]; exact hu) hv
    · rw [e] at hu; cases hu
      have := (h.o2.lt _ hv).2; omega
theorem TwoRows.app2 (h : TwoRows w base v1 v2 fs ks) {u : Value} {x : Int} (ho : w'.ownsRow base 2 1 u (ks.length + 1) (iv ks ++ [.int .i64 x])) (hg : w.grownBy w' v2.ownBlock) (hat : u.ownBlock = v2.ownBlock ∨ u.ownBlock = some w.heap.size) :
    TwoRows w' base v1 u fs (ks ++ [x]) := by
  refine ⟨h.o1.kept hg ?_, ?_, ?_, Nat.le_trans h.bs hg.size⟩
  · cases hv : v1.ownBlock with
    | none => exact Or.inl rfl
    | some g => exact Or.inr fun e => h.ap g hv e.symm
  · have : iv (ks ++ [x]) = iv ks ++ [.int .i64 x] := by unfold iv; simp
    rw [this, List.length_append]; exact ho
  · intro g hu hv
    rcases hat with e | e
    · exact h.ap g hu (by rw [← e]; exact hv)
    · rw [e] at hv; cases hv
      have := (h.o1.lt _ hu).2; omega
theorem TwoAt.grownR {g : Nat} {a b : Value} (h : TwoAt w g a b) {row : Option Nat} (hg : w.grownBy w' row) (hr : some g ≠ row) : TwoAt w' g a b :=
  ⟨hg.cell h.c0 hr, hg.cell h.c1 hr, grown_frozen hg h.lt hr h.f0, grown_frozen hg h.lt hr h.f1, Nat.lt_of_lt_of_le h.lt hg.size⟩
end

set_option maxHeartbeats 8000000 in
set_option maxRecDepth 100000 in
theorem refNet7_any (A : List Acc) (M : List Mk) (s a : ByteArray) (adA : Option Addr) (capA : Nat) (adM : Option Addr) (capM : Nat) (w : World) (h : LedAt w adA adM A M) (_has : a.size ≤ 9223372036854775807) :
    Calls Try.prog 13 #[.agg #[.slice adA A.length capA, .slice adM M.length capM], .string s, .string a] w fun e w' => e = .returned (.tuple #[.int .i64 (netF A M s a), .int .i64 (netK A M s a), .int .i64 (netE A M s)]) ∧ Gr w w' := by
  have HM : Hid (∀ w', Gr w w' → Calls Try.prog 15 #[.agg #[.slice adA A.length capA, .slice adM M.length capM]] w' fun e w2 => e = .returned (.int .i64 (mayL A M)) ∧ Gr w' w2) := fun w' g => refMay7_any A M adA capA adM capM w' (h.gr g)
  have HI : Hid (∀ w', Gr w w' → Calls Try.prog 32 #[.agg #[.slice adA A.length capA, .slice adM M.length capM], .string s] w' fun e w2 => e = .returned (.int .i64 (firstI (Led.nm A) s)) ∧ Gr w' w2) := fun w' g => refAcc_any A M s adA capA adM capM w' (h.a.gr g) h.la
  have H2 : Hid (MksAt w adM M) := h.m
  cases hm : Led.mayB A M with
  | false =>
    rw [mayL_no hm] at HM
    have hE : netE A M s = 2 := by unfold netE; rw [hm]; rfl
    have hF : netF A M s a = 0 := by unfold netF; rw [hE]; rfl
    have hK : netK A M s a = 0 := by unfold netK; rw [hE]; rfl
    rw [hE, hF, hK]
    clear h hm hE hF hK
    go_enter Try.func13, Try.ntmps13
    go_wp2_with fail
    refine (HM.out _ ((Gr.refl _).alloc)).mono ?_
    rintro e w1 ⟨rfl, hg1⟩
    have g1 : Gr w w1 := (by repeat (first | exact Gr.refl _ | refine Gr.alloc ?_ | refine Gr.drew ?_ | refine Gr.trans ?_ (by assumption)))
    clear hg1
    go_wp2
    exact bodyPost_ret (v := .tuple #[.int .i64 0, .int .i64 0, .int .i64 2]) (by simp [results, Try.results13, go_sem, *]) rfl ⟨rfl, g1⟩
  | true =>
  rw [mayL_yes hm] at HM
  have hM := (Led.may_iff A M).1 hm
  cases hb : Led.hasB (Led.nm A) s with
  | false =>
    rw [first_neg hb] at HI
    have hE : netE A M s = 70 := by unfold netE; rw [hm, hb]; rfl
    have hF : netF A M s a = 0 := by unfold netF; rw [hE]; rfl
    have hK : netK A M s a = 0 := by unfold netK; rw [hE]; rfl
    rw [hE, hF, hK]
    clear h hm hM hb hE hF hK
    go_enter Try.func13, Try.ntmps13
    go_wp2_with fail
    refine (HM.out _ ((Gr.refl _).alloc)).mono ?_
    rintro e w1 ⟨rfl, hg1⟩
    have g1 : Gr w w1 := (by repeat (first | exact Gr.refl _ | refine Gr.alloc ?_ | refine Gr.drew ?_ | refine Gr.trans ?_ (by assumption)))
    obtain ⟨b0, b1, _, _, bl⟩ := (TwoAt.new w (.slice adA A.length capA) (.slice adM M.length capM) 25 _ rfl).gr hg1
    clear hg1
    go_wp2_with fail
    refine (HI.out _ g1).mono ?_
    rintro e w2 ⟨rfl, hg2⟩
    have g2 : Gr w w2 := g1.trans hg2
    clear hg2 b0 b1 bl
    go_wp2
    exact bodyPost_ret (v := .tuple #[.int .i64 0, .int .i64 0, .int .i64 70]) (by simp [results, Try.results13, go_sem, *]) rfl ⟨rfl, g2⟩
  | true =>
  have hfi : ¬ firstI (Led.nm A) s < 0 := fun h => by have := (first_sign _ _).1 h; rw [hb] at this; cases this
  generalize firstI (Led.nm A) s = fi at *
  have hE : netE A M s = 0 := by unfold netE; rw [hm, hb]; rfl
  have hF : netF A M s a = Csh.sumE (fsL s a M) := by unfold netF; rw [hE]; rfl
  have hK : netK A M s a = Csh.sumE (ksL s a M) := by unfold netK; rw [hE]; rfl
  rw [hE, hF, hK]
  have HDE : Hid (∀ m w', m ∈ M → Calls Try.prog 37 #[.agg #[.int .i64 m.k, .string m.t, .int .i64 m.n]] w' fun e w2 => e = .returned (.tuple #[.int .i64 (Led.amF m), .int .i64 (Led.amK m)]) ∧ Gr w' w2) := fun m w' hm => refDelta_any m.k m.n m.t w' (h.rm m hm).2.2.1
  have HSM : Hid (∀ (l : List Int) (ad : Option Addr) (cp : Nat) (w' : World), l = fsL s a M ∨ l = ksL s a M → IntsAt w' ad l → Calls Try.prog 38 #[.slice ad l.length cp] w' fun e w2 => e = .returned (.tuple #[.int .i64 (Csh.sumE l), .int .i64 0]) ∧ w2 = w') := fun l ad cp w' hl hi => by
    have r := fs_rng s a hM.om
    have ln := fs_len s a M
    have h5 := hM.lm
    have ss := fs_sum s a hM
    have key : l.length ≤ 10000 ∧ (∀ x ∈ l, -9223372036854775808 ≤ x ∧ x ≤ 9223372036854775807) ∧ (-9223372036854775808 ≤ Csh.sumE l ∧ Csh.sumE l ≤ 9223372036854775807) := by
      rcases hl with rfl | rfl
      · exact ⟨by omega, fun x hx => by have := r.1 x hx; omega, by omega⟩
      · exact ⟨by omega, fun x hx => by have := r.2 x hx; omega, by omega⟩
    have := refSum_any l ad cp w' hi key.1 key.2.1
    rw [(val_in key.2.2).1, (val_in key.2.2).2] at this
    exact this
  have HRM : Hid (∀ m ∈ M, inM m) := h.rm
  have hl5 : M.length ≤ 500 := hM.lm
  obtain ⟨i0, hi, hz0, hz1, hz2⟩ := info_parts infoI
  clear h hm hM hb hE hF hK
  go_enter Try.func13, Try.ntmps13
  go_wp2_with fail
  refine (HM.out _ ((Gr.refl _).alloc)).mono ?_
  rintro e w1 ⟨rfl, hg1⟩
  have g1 : Gr w w1 := (by repeat (first | exact Gr.refl _ | refine Gr.alloc ?_ | refine Gr.drew ?_ | refine Gr.trans ?_ (by assumption)))
  have HB1 : Hid (TwoAt w1 w.heap.size (.slice adA A.length capA) (.slice adM M.length capM)) := (TwoAt.new w _ _ 25 _ rfl).gr hg1
  obtain ⟨b0, b1, _, _, bl⟩ := HB1.out
  clear hg1
  go_wp2_with fail
  refine (HI.out _ g1).mono ?_
  rintro e w2 ⟨rfl, hg2⟩
  have HG2 : Hid (Gr w w2) := g1.trans hg2
  have HB2 : Hid (TwoAt w2 w.heap.size (.slice adA A.length capA) (.slice adM M.length capM)) := HB1.out.gr hg2
  clear hg2 g1 HB1 b0 b1 bl HM HI
  go_wp2
  go_loopw [9, 10, 11] (fun p1 p2 ix wr => ∃ k : Nat, k ≤ M.length ∧ ix = .int .i64 k ∧ TwoRows wr (w.heap.size + 1) p1 p2 (fsL s a (M.take k)) (ksL s a (M.take k)) ∧ TwoAt wr w.heap.size (.slice adA A.length capA) (.slice adM M.length capM) ∧ Gr w wr)
      (fun _ _ ix _ => M.length - (intOf ix).toNat)
  case atStart => exact ⟨0, by omega, rfl, ⟨own_none _ _ _ _, own_none _ _ _ _, (fun g e => by cases e), HB2.out.lt⟩, HB2.out, HG2.out⟩
  case round =>
    clear HG2 HB2
    obtain ⟨k, hk, rfl, hrw, hbx, hg⟩ := hrel
    have HB : Hid (TwoAt wr w.heap.size (.slice adA A.length capA) (.slice adM M.length capM)) := hbx
    have HG : Hid (Gr w wr) := hg
    have HR : Hid (TwoRows wr (w.heap.size + 1) _ _ (fsL s a (M.take k)) (ksL s a (M.take k))) := hrw
    obtain ⟨b0, b1, _, _, bl⟩ := hbx
    clear hg hrw
    by_cases hlt : k < M.length
    · obtain ⟨b, off, rfl, hbb, c0, c1, c2, c3, c4⟩ := MksAt.at H2.out k hlt
      have hki : (k : Int) < (M.length : Int) := by omega
      have e0 := HG.out.keep c0
      have e1 := HG.out.keep c1
      have e2 := HG.out.keep c2
      have e3 := HG.out.keep c3
      have e4 := HG.out.keep c4
      have hbw : b < wr.heap.size := Nat.lt_of_lt_of_le hbb HG.out.size
      have hD := fun w' => HDE.out M[k] w' (List.getElem_mem hlt)
      have hks := (HRM.out M[k] (List.getElem_mem hlt)).1
      have heff := eff_iff s a M[k]
      have hraw := Lib.hasPrefix_raw M[k].key a
      have hlen := fs_len s a (M.take k)
      rw [List.length_take] at hlen
      have HNO : Hid (¬ effB s a M[k] = true → ∀ (u1 u2 : Value) (W : World), TwoRows W (w.heap.size + 1) u1 u2 (fsL s a (M.take k)) (ksL s a (M.take k)) → TwoRows W (w.heap.size + 1) u1 u2 (fsL s a (M.take (k + 1))) (ksL s a (M.take (k + 1)))) := fun he u1 u2 W hr => by rw [(fs_not hlt he).1, (fs_not hlt he).2]; exact hr
      have HYE : Hid (effB s a M[k] = true → ∀ (u1 u2 : Value) (W : World), TwoRows W (w.heap.size + 1) u1 u2 (fsL s a (M.take k) ++ [Led.amF M[k]]) (ksL s a (M.take k) ++ [Led.amK M[k]]) → TwoRows W (w.heap.size + 1) u1 u2 (fsL s a (M.take (k + 1))) (ksL s a (M.take (k + 1)))) := fun he u1 u2 W hr => by rw [(fs_yes hlt he).1, (fs_yes hlt he).2]; exact hr
      generalize Led.amF M[k] = fr at *
      generalize Led.amK M[k] = kp at *
      generalize M[k] = m at *
      have HD1 : Hid (∀ w', Calls Try.prog 37 #[.agg #[.int .i64 m.k, .string m.t, .int .i64 m.n]] w' fun e w2 => e = .returned (.tuple #[.int .i64 fr, .int .i64 kp]) ∧ Gr w' w2) := hD
      clear c0 c1 c2 c3 c4 hbb hD
      generalize fsL s a (M.take k) = fs at *
      generalize ksL s a (M.take k) = ks at *
      by_cases ht : m.t = s
      case neg =>
        have HNR : Hid (∀ (u1 u2 : Value) (W : World), TwoRows W (w.heap.size + 1) u1 u2 fs ks → TwoRows W (w.heap.size + 1) u1 u2 (fsL s a (M.take (k + 1))) (ksL s a (M.take (k + 1)))) := HNO.out (fun he => ht (heff.1 he).1)
        have hqt := neB ht
        clear heff hraw HNO HYE ht hks hlen
        go_wp2
        go_roundw
        case rel => exact ⟨k + 1, by omega, by go_num, HNR.out _ _ _ (HR.out.gr (Gr.refl _).alloc), HB.out.gr (Gr.refl _).alloc, HG.out.alloc⟩
        case measure => simp [intOf]; omega
      have hqt : (m.t.toList == s.toList) = true := by rw [ht]; simp
      by_cases hst : m.st = 2
      case pos =>
        have HNR : Hid (∀ (u1 u2 : Value) (W : World), TwoRows W (w.heap.size + 1) u1 u2 fs ks → TwoRows W (w.heap.size + 1) u1 u2 (fsL s a (M.take (k + 1))) (ksL s a (M.take (k + 1)))) := HNO.out (fun he => (heff.1 he).2.1 hst)
        have hqs : (m.st == 2) = true := by simpa using hst
        clear heff hraw HNO HYE ht hst hks hlen
        go_wp2
        go_roundw
        case rel => exact ⟨k + 1, by omega, by go_num, HNR.out _ _ _ (HR.out.gr (Gr.refl _).alloc), HB.out.gr (Gr.refl _).alloc, HG.out.alloc⟩
        case measure => simp [intOf]; omega
      have hqs : (m.st == 2) = false := by simpa using hst
      by_cases hsz : (m.key.size : Int) < (a.size : Int)
      case pos =>
        have HNR : Hid (∀ (u1 u2 : Value) (W : World), TwoRows W (w.heap.size + 1) u1 u2 fs ks → TwoRows W (w.heap.size + 1) u1 u2 (fsL s a (M.take (k + 1))) (ksL s a (M.take (k + 1)))) := HNO.out (fun he => by
          have h3 := (heff.1 he).2.2
          rw [h3, decide_eq_false (by omega)] at hraw
          cases hraw)
        have hsd : decide ((m.key.size : Int) < (a.size : Int)) = true := decide_eq_true hsz
        clear heff hraw HNO HYE ht hst hks hlen
        go_wp2
        go_roundw
        case rel => exact ⟨k + 1, by omega, by go_num, HNR.out _ _ _ (HR.out.gr (Gr.refl _).alloc), HB.out.gr (Gr.refl _).alloc, HG.out.alloc⟩
        case measure => simp [intOf]; omega
      have hsd : decide ((m.key.size : Int) < (a.size : Int)) = false := decide_eq_false hsz
      have hsn : a.size ≤ m.key.size := by omega
      rw [decide_eq_true hsn, Bool.true_and] at hraw
      cases hpf : Lib.hasPrefix m.key.data.toList a.data.toList with
      | false =>
        have HNR : Hid (∀ (u1 u2 : Value) (W : World), TwoRows W (w.heap.size + 1) u1 u2 fs ks → TwoRows W (w.heap.size + 1) u1 u2 (fsL s a (M.take (k + 1))) (ksL s a (M.take (k + 1)))) := HNO.out (fun he => by have h3 := (heff.1 he).2.2; rw [hpf] at h3; cases h3)
        rw [hpf] at hraw
        clear heff HNO HYE ht hst hlen hpf
        go_wp2
        go_roundw
        case rel => exact ⟨k + 1, by omega, by go_num, HNR.out _ _ _ (HR.out.gr (Gr.refl _).alloc), HB.out.gr (Gr.refl _).alloc, HG.out.alloc⟩
        case measure => simp [intOf]; omega
      | true =>
        have HYR : Hid (∀ (u1 u2 : Value) (W : World), TwoRows W (w.heap.size + 1) u1 u2 (fs ++ [fr]) (ks ++ [kp]) → TwoRows W (w.heap.size + 1) u1 u2 (fsL s a (M.take (k + 1))) (ksL s a (M.take (k + 1)))) := HYE.out (heff.2 ⟨ht, hst, hpf⟩)
        rw [hpf] at hraw
        have n63a : fs.length + 1 ≤ maxLen := by unfold maxLen; omega
        have n63b : ks.length + 1 ≤ maxLen := by unfold maxLen; omega
        clear heff HNO HYE ht hst hpf
        go_wp2_with fail
        refine (HD1.out _).mono ?_
        rintro e w3 ⟨rfl, hg3⟩
        have HW3 : Hid (Gr wr w3) := (Gr.refl wr).alloc.trans hg3
        have HR3 := HR.out.gr HW3.out
        have hbs := HR3.bs
        clear hg3 e0 e1 e2 e3 e4 b0 b1 bl
        go_wp2_with (first
          | (at_builtin; refine wpList_append_own_at _ rfl _ _ 71 rfl (w.heap.size + 1) 2 i0 (.int .i64 0) 1 8 Try.underlying71 hi hz0 hz1 hz2 rfl (by decide) _ _ _ rfl (HR3.o1.alloc _) ⟨w3.heap.size, 0, none⟩ 1 1 [.int .i64 fr] rfl rfl (cell_one_new _ _ _) (by intro u hu; simp at hu; subst hu; rfl) n63a (by omega) (by simp; omega) ?_)
          | fail)
        intro u1 w4 hown1 hgrow1 _ hat1
        have HR4 := (HR3.gr (Gr.refl _).alloc).app1 hown1 hgrow1 (by simpa using hat1)
        have HG4 : Hid (Gr w w4) := (HG.out.trans HW3.out).alloc.grown hgrow1 (fun g e => by have := (HR3.o1.lt _ e).1; omega)
        have HB4 : Hid (TwoAt w4 w.heap.size (.slice adA A.length capA) (.slice (some ⟨b, off, none⟩) M.length capM)) := ((HB.out.gr HW3.out).gr (Gr.refl _).alloc).grownR hgrow1 (fun e => by have := (HR3.o1.lt _ e.symm).1; omega)
        have hbs4 := HR4.bs
        clear hown1 hgrow1 hat1 HR3 hbs
        go_wp2_with (first
          | (at_builtin; refine wpList_append_own_at _ rfl _ _ 71 rfl (w.heap.size + 1) 2 i0 (.int .i64 0) 1 8 Try.underlying71 hi hz0 hz1 hz2 rfl (by decide) _ _ _ rfl (HR4.o2.alloc _) ⟨w4.heap.size, 0, none⟩ 1 1 [.int .i64 kp] rfl rfl (cell_one_new _ _ _) (by intro u hu; simp at hu; subst hu; rfl) n63b (by omega) (by simp; omega) ?_)
          | fail)
        intro u2 w5 hown2 hgrow2 _ hat2
        have HR5 : Hid (TwoRows w5 (w.heap.size + 1) u1 u2 (fs ++ [fr]) (ks ++ [kp])) := (HR4.gr (Gr.refl _).alloc).app2 hown2 hgrow2 (by simpa using hat2)
        have HG5 : Hid (Gr w w5) := HG4.out.alloc.grown hgrow2 (fun g e => by have := (HR4.o2.lt _ e).1; omega)
        have HB5 : Hid (TwoAt w5 w.heap.size (.slice adA A.length capA) (.slice (some ⟨b, off, none⟩) M.length capM)) := (HB4.out.gr (Gr.refl _).alloc).grownR hgrow2 (fun e => by have := (HR4.o2.lt _ e.symm).1; omega)
        clear hown2 hgrow2 hat2 HR4 hbs4
        go_wp2
        go_roundw
        case rel => exact ⟨k + 1, by omega, by go_num, HYR.out _ _ _ HR5.out, HB5.out, HG5.out⟩
        case measure => simp [intOf]; omega
    · have hki : ¬ (k : Int) < (M.length : Int) := by omega
      obtain rfl : k = M.length := by omega
      rw [List.take_length] at HR
      obtain ⟨a1, q1, rfl, _, hi1⟩ := own_ints (l := fsL s a M) HR.out.o1
      obtain ⟨a2, q2, rfl, _, hi2⟩ := own_ints (l := ksL s a M) HR.out.o2
      have HS1 : Hid (Calls Try.prog 38 #[.slice a1 (fsL s a M).length q1] wr fun e w2 => e = .returned (.tuple #[.int .i64 (Csh.sumE (fsL s a M)), .int .i64 0]) ∧ w2 = wr) := HSM.out _ a1 q1 wr (Or.inl rfl) hi1
      have HS2 : Hid (Calls Try.prog 38 #[.slice a2 (ksL s a M).length q2] wr fun e w2 => e = .returned (.tuple #[.int .i64 (Csh.sumE (ksL s a M)), .int .i64 0]) ∧ w2 = wr) := HSM.out _ a2 q2 wr (Or.inr rfl) hi2
      have HGE : Hid (Gr w wr) := HG.out
      clear HR hi1 hi2 HSM HDE HRM HB HG
      obtain ⟨r1, hr1⟩ : ∃ r, Csh.sumE (fsL s a M) = r := ⟨_, rfl⟩
      obtain ⟨r2, hr2⟩ : ∃ r, Csh.sumE (ksL s a M) = r := ⟨_, rfl⟩
      rw [hr1] at HS1
      rw [hr2] at HS2
      have HE1 : Hid (Csh.sumE (fsL s a M) = r1) := hr1
      have HE2 : Hid (Csh.sumE (ksL s a M) = r2) := hr2
      clear hr1 hr2
      go_wp2_with fail
      refine HS1.out.mono ?_
      rintro e w3 ⟨rfl, hw3⟩; obtain rfl := hw3.symm
      go_wp2_with fail
      refine HS2.out.mono ?_
      rintro e w3 ⟨rfl, hw3⟩; obtain rfl := hw3.symm
      go_wp2
      exact bodyPost_ret (v := .tuple #[.int .i64 r1, .int .i64 r2, .int .i64 0]) (by simp [results, Try.results13, go_sem, *]) rfl ⟨by rw [HE1.out, HE2.out], HGE.out⟩
end Go.Proofs.Ytjkaegpgjphlcaa
