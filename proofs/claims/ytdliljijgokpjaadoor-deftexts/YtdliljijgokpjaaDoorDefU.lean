/- def: Parse where there is a token of that number. -/
import Derived.Test.YtdliljijgokpjaaDoorDefT
import Derived.BigRegion
namespace Go.Proofs.YtdliljijgokpjaaDoor
open Go.RowKit
open Lex (Tok ckE valE numB)
open Df (Stp St tk Gd isT defB chE stpB one opt fin stps prs defN defR sm kw pE pA pT pN pL)

theorem Rd.new {w : World} {ad : Option Addr} {T : List Tok} {cap i m : Nat} (hT : ToksAt w ad T) (h0 : 0 < T.length) (hm : MapK w m) (t : TypeId) (g : Nat) (hg : g = w.heap.size) : Rd (w.alloc (.cells #[.slice ad T.length cap, .int .i64 (i : Int), .bool false, .map (some m)] t)) g m ad T cap ⟨i, false⟩ := by
  subst hg
  obtain ⟨tb, off, e, htb, _⟩ := hT 0 h0
  refine ⟨by simp, by simp, by simp, by simp, by simp [go_sem], by simp [go_sem], by simp, hT.gr (Gr.refl _).alloc, ?_, hm.gr (Gr.refl _).alloc, ?_⟩
  · intro a ea
    rw [e] at ea
    cases ea
    exact ⟨by show tb ≠ _; omega, by simp; omega⟩
  · have := hm.lt; omega
def PrW (T : List Tok) (i : Nat) (F : St × List Stp) (w : World) (nm : ByteArray) (e : Ending) (w' : World) : Prop :=
  (F.1.s = true → PaR w ⟨#[]⟩ [] 0 81 (tk T F.1.i).p e w') ∧ (F.1.s = false → defB nm F.2 = false → PaR w ⟨#[]⟩ [] 0 90 (tk T i).p e w') ∧ (F.1.s = false → defB nm F.2 = true → PaR w nm F.2 (F.1.i : Int) 0 0 e w')

set_option maxHeartbeats 8000000 in
set_option maxRecDepth 100000 in
theorem dParse_good (T : List Tok) (ad : Option Addr) (cap : Nat) (i : Nat) (w : World) (hT : ToksAt w ad T) (hc : T.length ≤ cap) (hn : T.length ≤ 5000) (hz : ∀ x ∈ T, x.t.size ≤ 9223372036854775807) (h80 : ckE T ≠ 80) (hi : i < T.length)
    (hin : (defR T i).1.s = false → ∀ s ∈ (defR T i).2, inS s) (hnm : (defN T i).size ≤ 16) :
    Calls Tryd.prog 16 #[.slice ad T.length cap, .int .i64 (i : Int)] w fun e w' => PrW T i (defR T i) w (defN T i) e w' := by
  have hG := Df.gd_of h80
  have HC : Hid (∀ w', Gr w w' → Calls Tryd.prog 33 #[.slice ad T.length cap] w' fun e w2 => e = .returned (.int .i64 (ckE T)) ∧ Gr w' w2) := fun w' g => check_any T ad cap w' (hT.gr g) hc hn hz
  have HW : Hid (∀ w', Calls Tryd.prog 27 #[.int .i64 (i : Int), .int .i64 0, .int .i64 ((T.length : Int) - 1)] w' fun e w2 => e = .returned (.bool true) ∧ w2 = w') := fun w' => by
    have := within_any (i : Int) 0 ((T.length : Int) - 1) w'
    rw [show (decide ((0 : Int) ≤ (i : Int)) && decide ((i : Int) ≤ (T.length : Int) - 1)) = true by simp; omega] at this
    exact this
  have HK : Hid (∀ w', Calls Tryd.prog 34 #[] w' fun e w2 => e = .returned (.map (some w'.heap.size)) ∧ MapK w2 w'.heap.size ∧ Gr w' w2) := fun w' => kinds_any w'
  have HD : Hid (∀ (b m : Nat) (w' : World), Rd w' b m ad T cap ⟨i, false⟩ → Calls Tryd.prog 35 #[.pointer (some ⟨b, 0, none⟩)] w' fun e w2 => DfR w' b m ad T cap (defN T i) (defR T i) e w2) := fun b m w' h => dDef_any b m ad T cap i w' h hG hi hn
  have HH : Hid (∀ (b m : Nat) (q : St) (w' : World), q.i < T.length → Rd w' b m ad T cap q → Calls Tryd.prog 36 #[.pointer (some ⟨b, 0, none⟩)] w' fun e w2 => e = .returned (.agg #[.int .i64 (tk T q.i).k, .string (tk T q.i).t, .int .i64 (tk T q.i).p]) ∧ Gr w' w2) := fun b m q w' hq h => dHere_any b m ad T cap q w' h hq
  have HX : Hid ((defR T i).1.s = false → ∀ (a : Option Addr) (c : Nat) (w' : World), (defR T i).2.length ≤ 5001 → StpsAt w' a (defR T i).2 → Calls Tryd.prog 12 #[.agg #[.string (defN T i), .slice a (defR T i).2.length c]] w' fun e w2 => e = .returned (.int .i64 (chE (defN T i) (defR T i).2)) ∧ Gr w' w2) := fun hs a c w' hl h => dCheck_any _ _ a c w' h (by omega) (by omega) (hin hs)
  have hlw : wrap64 ((T.length : Int) - 1) = (T.length : Int) - 1 := by unfold wrap64; omega
  have hb : (ckE T == 80) = false := by simpa using h80
  have HA0 := Lib.hid (TwoAt.new w (.string ⟨#[]⟩) (.slice none 0 0) 24 _ rfl)
  have HB0 := Lib.hid (TwoAt.new (w.alloc (.cells #[.string ⟨#[]⟩, .slice none 0 0] 24)) (.int .i64 0) (.int .i64 0) 37 (w.heap.size + 1) (by simp))
  have HT : Hid (ToksAt w ad T) := hT
  have HP : Hid (0 < T.length ∧ i < T.length ∧ T.length ≤ 5000) := ⟨by omega, hi, hn⟩
  have HCE : Hid (chE (defN T i) (defR T i).2 = if defB (defN T i) (defR T i).2 = true then 0 else 90) := rfl
  generalize ckE T = CK at *
  generalize defR T i = F at *
  generalize defN T i = NM at *
  obtain ⟨⟨fi, fs⟩, M⟩ := F
  simp only at *
  generalize chE NM M = CE at *
  generalize hDB : defB NM M = DB at *
  have HDB := Lib.hid hDB
  clear hT hz h80 hG hin hnm hDB
  go_enter Tryd.func16, Tryd.ntmps16
  go_wp2_with fail
  refine (HC.out _ (by repeat (first | exact Gr.refl _ | refine Gr.alloc ?_ | refine Gr.drew ?_ | refine Gr.trans ?_ (by assumption)))).mono ?_
  rintro e w1 ⟨rfl, hg⟩
  have HG1 : Hid (Gr w w1) := (Gr.refl _).alloc.alloc.trans hg
  have HA1 := Lib.hid ((HA0.out.gr (Gr.refl _).alloc).gr hg)
  have HB1 := Lib.hid (HB0.out.gr hg)
  clear hg HA0 HB0 HC
  go_wp2_with fail
  refine (HW.out _).mono ?_
  rintro e w2 ⟨rfl, hw⟩; obtain rfl := hw.symm
  clear HW
  go_wp2_with fail
  refine (HK.out _).mono ?_
  rintro e w2 ⟨rfl, hmk, hg⟩
  have HG2 : Hid (Gr w w2) := HG1.out.trans hg
  have HA2 := Lib.hid (HA1.out.gr hg)
  have HB2 := Lib.hid (HB1.out.gr hg)
  have HR2 := Lib.hid (Rd.new (i := i) (cap := cap) (HT.out.gr HG2.out) HP.out.1 hmk 63 _ rfl)
  clear hg hmk HA1 HB1 HG1 HK
  go_wp2_with fail
  refine (HD.out _ _ _ HR2.out).mono ?_
  rintro e w3 ⟨a, c, rfl, hst, hrd, hgb, hlc, hlt, hfi, hfr⟩
  simp only at hst hrd hlc hlt hfi
  have HG3 : Hid (Gr w w3) := Gr.gb HG2.out.alloc hgb HG2.out.size
  have HA3 := Lib.hid ((HA2.out.gr (Gr.refl _).alloc).grown hgb.g (by have := HA2.out.lt; simp; omega))
  have HB3 := Lib.hid ((HB2.out.gr (Gr.refl _).alloc).grown hgb.g (by have := HB2.out.lt; simp; omega))
  have HS3 := Lib.hid hst
  have HR3 := Lib.hid hrd
  have HE3 : Hid (M.length ≤ c ∧ M.length ≤ 5001 ∧ fi < T.length ∧ ∀ x, a = some x → w.heap.size + 2 ≤ x.block) := ⟨hlc, by have := HP.out; omega, hfi, fun x e => by have := hfr x e; have := HB2.out.lt; simp at *; omega⟩
  have HDD := Lib.hid (TwoAt.new w3 (.string NM) (.slice a M.length c) 24 _ rfl)
  have HB2n : Hid (w.heap.size + 2 ≤ w2.heap.size) := HB2.out.lt
  clear hst hrd hgb hlc hlt hfi hfr HA2 HB2 HG2 HR2 HD
  cases fs with
  | true =>
    obtain ⟨r0, r1, r2, r3, _, _, rl, _, _, _, _⟩ := HR3.out
    simp only at r1 r2
    go_wp2_with fail
    refine (HH.out _ _ _ _ HE3.out.2.2.1 (HR3.out.gr (Gr.refl _).alloc)).mono ?_
    rintro e w4 ⟨rfl, hg⟩
    simp only
    have hpl := tok_place (tk T fi).k (tk T fi).p (tk T fi).t
    have HG4 : Hid (Gr w w4) := HG3.out.alloc.trans hg
    obtain ⟨a0, a1, af0, af1, al⟩ := (HA3.out.gr (Gr.refl _).alloc).gr hg
    obtain ⟨b0, b1, bf0, bf1, bl⟩ := (HB3.out.gr (Gr.refl _).alloc).gr hg
    generalize hx : tk T fi = x at *
    obtain ⟨xk, xt, xp⟩ := x
    simp only at *
    have HXX := Lib.hid hx
    clear hg hx
    go_wp2
    refine bodyPost_ret (v := .tuple #[.agg #[.string ⟨#[]⟩, .slice none 0 0], .int .i64 0, .agg #[.int .i64 81, .int .i64 xp]]) (by simp [results, Tryd.results16, go_sem, *]) rfl ⟨fun _ => ?_, fun h => (by cases h), fun h => (by cases h)⟩
    show PaR w ⟨#[]⟩ [] 0 81 (tk T fi).p _ _
    rw [HXX.out]
    refine ⟨none, 0, rfl, RowAt.nil, by simp, (fun x e => by cases e), ?_⟩
    have hg4 := HG4.out
    exact (by (repeat' (first | with_reducible exact Gr.refl _ | with_reducible refine Gr.set ?_ _ ?_ _ | with_reducible refine Gr.alloc ?_ | with_reducible refine Gr.drew ?_ | with_reducible refine Gr.trans ?_ (by assumption))) <;> (first | (simp; done) | (simp; omega) | omega))
  | false =>
    obtain ⟨r0, r1, r2, r3, _, _, rl, _, _, _, _⟩ := HR3.out
    simp only at r1 r2
    go_wp2_with fail
    refine (HX.out (by first | rfl | trivial) _ _ _ HE3.out.2.1 (HS3.out.gr (Gr.refl _).alloc)).mono ?_
    rintro e w4 ⟨rfl, hg⟩
    have HG4 : Hid (Gr w w4) := HG3.out.alloc.trans hg
    have HS4 := Lib.hid ((HS3.out.gr (Gr.refl _).alloc).gr hg)
    obtain ⟨a0, a1, af0, af1, al⟩ := (HA3.out.gr (Gr.refl _).alloc).gr hg
    obtain ⟨b0, b1, bf0, bf1, bl⟩ := (HB3.out.gr (Gr.refl _).alloc).gr hg
    obtain ⟨d0, d1, df0, df1, dl⟩ := HDD.out.gr hg
    obtain ⟨s0, s1, s2, s3, _, _, sl, _, _, _, _⟩ := (HR3.out.gr (Gr.refl _).alloc).gr hg
    simp only at s1 s2
    clear hg r0 r1 r2 r3 rl
    have n1 : ¬ w2.heap.size = w.heap.size := by have := HB2n.out; omega
    have n2 : ¬ w.heap.size = w2.heap.size := by have := HB2n.out; omega
    have n3 : ¬ w2.heap.size = w.heap.size + 1 := by have := HB2n.out; omega
    have n4 : ¬ w.heap.size + 1 = w2.heap.size := by have := HB2n.out; omega
    have n5 : ¬ w3.heap.size = w.heap.size := by have := HB3.out.lt; omega
    have n6 : ¬ w.heap.size = w3.heap.size := by have := HB3.out.lt; omega
    have n7 : ¬ w3.heap.size = w.heap.size + 1 := by have := HB3.out.lt; omega
    have n8 : ¬ w.heap.size + 1 = w3.heap.size := by have := HB3.out.lt; omega
    cases DB with
    | true =>
      obtain rfl : CE = 0 := HCE.out
      go_wp2
      go_region
      go_wp2
      refine bodyPost_ret (v := .tuple #[.agg #[.string NM, .slice a M.length c], .int .i64 (fi : Int), .agg #[.int .i64 0, .int .i64 0]]) (by simp [results, Tryd.results16, go_sem, *]) rfl ⟨fun h => (by cases h), fun _ h => (by rw [HDB.out] at h; cases h), fun _ _ => ?_⟩
      have hg4 := HG4.out
      refine ⟨a, c, rfl, ?_, HE3.out.1, fun x e => by have := HE3.out.2.2.2 x e; omega, (by (repeat' (first | with_reducible exact Gr.refl _ | with_reducible refine Gr.set ?_ _ ?_ _ | with_reducible refine Gr.alloc ?_ | with_reducible refine Gr.drew ?_ | with_reducible refine Gr.trans ?_ (by assumption))) <;> (first | (simp; done) | (simp; omega) | omega))⟩
      repeat (first | with_reducible exact HS4.out | with_reducible refine RowAt.setFar ?_ _ _ (fun x e => by have := HE3.out.2.2.2 x e; simp; omega) | with_reducible refine RowAt.drew ?_ | with_reducible refine RowAt.gr ?_ ((Gr.refl _).drewN _))
    | false =>
      obtain rfl : CE = 90 := HCE.out
      obtain ⟨tb, off, rfl, htb, t0, t1, t2⟩ := (HT.out.gr HG4.out) i HP.out.2.1
      rw [← Df.tk_get T i HP.out.2.1] at t0 t1 t2
      generalize hx : tk T i = x at *
      obtain ⟨xk, xt, xp⟩ := x
      simp only at *
      have HXX := Lib.hid hx
      clear hx
      go_wp2
      go_region
      go_wp2
      refine bodyPost_ret (v := .tuple #[.agg #[.string ⟨#[]⟩, .slice none 0 0], .int .i64 0, .agg #[.int .i64 90, .int .i64 xp]]) (by simp [results, Tryd.results16, go_sem, *]) rfl ⟨fun h => (by cases h), fun _ _ => ?_, fun _ h => (by rw [HDB.out] at h; cases h)⟩
      rw [HXX.out]
      refine ⟨none, 0, rfl, RowAt.nil, by simp, (fun x e => by cases e), ?_⟩
      have hg4 := HG4.out
      exact (by (repeat' (first | with_reducible exact Gr.refl _ | with_reducible refine Gr.set ?_ _ ?_ _ | with_reducible refine Gr.alloc ?_ | with_reducible refine Gr.drew ?_ | with_reducible refine Gr.trans ?_ (by assumption))) <;> (first | (simp; done) | (simp; omega) | omega))

theorem take_size {T : List Tok} (hT : Gd T) (i : Nat) : (defN T i).size ≤ 16 := takeV_size hT _ 1
theorem dParse_any (T : List Tok) (ad : Option Addr) (cap : Nat) (at' : Int) (w : World) (hT : ToksAt w ad T) (hc : T.length ≤ cap) (hn : T.length ≤ 5000) (hz : ∀ x ∈ T, x.t.size ≤ 9223372036854775807) :
    Calls Tryd.prog 16 #[.slice ad T.length cap, .int .i64 at'] w fun e w' => PaR w (pN T at') (pL T at') (pT T at') (pE T at') (pA T at') e w' := by
  by_cases h80 : ckE T = 80
  · have e1 : pE T at' = 80 := by unfold Df.pE; rw [if_pos h80]
    have e2 : pA T at' = 0 := by unfold Df.pA; rw [if_pos h80]
    have e3 : pT T at' = 0 := by unfold Df.pT; rw [e1]; rfl
    have e4 : pN T at' = ⟨#[]⟩ := by unfold Df.pN; rw [e1]; rfl
    have e5 : pL T at' = [] := by unfold Df.pL; rw [e1]; rfl
    rw [e1, e2, e3, e4, e5]
    have := dParse_bad T ad cap at' w hT hc hn hz (Or.inl h80)
    rw [if_pos h80] at this
    exact this
  · by_cases hat : 0 ≤ at' ∧ at' < T.length
    · obtain ⟨i, rfl⟩ : ∃ i : Nat, at' = (i : Int) := ⟨at'.toNat, by omega⟩
      have hi : i < T.length := by omega
      have hG := Df.gd_of h80
      obtain ⟨h1, h2, h3⟩ := Df.def_same hG i hi
      cases ho : (prs T i).2 with
      | none =>
        obtain ⟨M, hM⟩ := h2 ho
        have e1 : pE T (i : Int) = 81 := by unfold Df.pE; rw [if_neg h80, if_pos hat, Int.toNat_natCast, ho]
        have e2 : pA T (i : Int) = (tk T (prs T i).1).p := by unfold Df.pA; rw [if_neg h80, if_pos hat, Int.toNat_natCast, ho]
        have e3 : pT T (i : Int) = 0 := by unfold Df.pT; rw [e1]; rfl
        have e4 : pN T (i : Int) = ⟨#[]⟩ := by unfold Df.pN; rw [e1]; rfl
        have e5 : pL T (i : Int) = [] := by unfold Df.pL; rw [e1]; rfl
        rw [e1, e2, e3, e4, e5]
        refine (dParse_good T ad cap i w hT hc hn hz h80 hi (fun h => by rw [hM] at h; cases h) (take_size hG i)).mono ?_
        rintro e w' ⟨q1, _, _⟩
        have := q1 (by rw [hM])
        rwa [hM] at this
      | some x =>
        obtain ⟨nm, L⟩ := x
        obtain ⟨hF, hN⟩ := h1 nm L ho
        obtain ⟨p1, p2⟩ := prs_in hG ho
        have hch : pE T (i : Int) = chE nm L := by unfold Df.pE; rw [if_neg h80, if_pos hat, Int.toNat_natCast, ho]
        have hpa : pA T (i : Int) = if defB nm L = true then 0 else (tk T i).p := by unfold Df.pA; rw [if_neg h80, if_pos hat, Int.toNat_natCast, ho]
        have hgo := dParse_good T ad cap i w hT hc hn hz h80 hi (fun _ => by rw [hF]; exact p1) (take_size hG i)
        cases hd : defB nm L with
        | true =>
          have e1 : pE T (i : Int) = 0 := by rw [hch]; exact Df.ch_yes hd
          have e2 : pA T (i : Int) = 0 := by rw [hpa, hd]; rfl
          have e3 : pT T (i : Int) = ((prs T i).1 : Int) := by unfold Df.pT; rw [e1, if_pos rfl, Int.toNat_natCast]
          have e4 : pN T (i : Int) = nm := by unfold Df.pN; rw [e1, if_pos rfl, Int.toNat_natCast, ho]
          have e5 : pL T (i : Int) = L := by unfold Df.pL; rw [e1, if_pos rfl, Int.toNat_natCast, ho]
          rw [e1, e2, e3, e4, e5]
          refine hgo.mono ?_
          rintro e w' ⟨_, _, q3⟩
          rw [hF, hN] at q3
          exact q3 rfl hd
        | false =>
          have e1 : pE T (i : Int) = 90 := by rw [hch]; exact Df.ch_no hd
          have e2 : pA T (i : Int) = (tk T i).p := by rw [hpa, hd]; rfl
          have e3 : pT T (i : Int) = 0 := by unfold Df.pT; rw [e1]; rfl
          have e4 : pN T (i : Int) = ⟨#[]⟩ := by unfold Df.pN; rw [e1]; rfl
          have e5 : pL T (i : Int) = [] := by unfold Df.pL; rw [e1]; rfl
          rw [e1, e2, e3, e4, e5]
          refine hgo.mono ?_
          rintro e w' ⟨_, q2, _⟩
          rw [hF, hN] at q2
          exact q2 rfl hd
    · have e1 : pE T at' = 2 := by unfold Df.pE; rw [if_neg h80, if_neg hat]
      have e2 : pA T at' = 0 := by unfold Df.pA; rw [if_neg h80, if_neg hat]
      have e3 : pT T at' = 0 := by unfold Df.pT; rw [e1]; rfl
      have e4 : pN T at' = ⟨#[]⟩ := by unfold Df.pN; rw [e1]; rfl
      have e5 : pL T at' = [] := by unfold Df.pL; rw [e1]; rfl
      rw [e1, e2, e3, e4, e5]
      have := dParse_bad T ad cap at' w hT hc hn hz (Or.inr hat)
      rw [if_neg h80] at this
      exact this
end Go.Proofs.YtdliljijgokpjaaDoor
