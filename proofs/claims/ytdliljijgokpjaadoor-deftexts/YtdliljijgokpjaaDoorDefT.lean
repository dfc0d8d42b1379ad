/- def: Parse. -/
import Derived.Test.YtdliljijgokpjaaDoorDefY
import Derived.Test.YtdliljijgokpjaaDoorLexC
namespace Go.Proofs.YtdliljijgokpjaaDoor
open Go.RowKit
open Lex (Tok ckE valE numB)
open Df (Stp St tk Gd isT defB chE stpB one opt fin stps prs defN defR sm kw pE pA pT pN pL)
open _root_.Go.Proofs.YtdliljijgokpjaaDoor.Act (nameB)

/- what is read has numbers of 64 bits -/
theorem val_rng {t : ByteArray} (h : t.size ≤ 16) : 0 ≤ valE 2 t ∧ valE 2 t < 10000000000000000 := by
  unfold Lex.valE
  by_cases hn : numB t = true
  · rw [if_pos ⟨rfl, hn⟩]
    obtain ⟨_, p16, pd⟩ := Lex.num_parts hn
    refine Lex.vl_rng _ (by simpa using h) (fun b hb => ?_)
    obtain ⟨j, hj, rfl⟩ := List.getElem_of_mem hb
    exact pd j (by simpa using hj)
  · rw [if_neg (fun e => hn e.2)]; omega
theorem sm_rng {t : ByteArray} (h : t.size ≤ 16) : inI (sm t) := by
  have := val_rng h
  unfold Df.sm inI
  split <;> omega
theorem fin_in {T : List Tok} {x : Nat × Option Int} {f : Int → Stp} {s : Stp} (hf : ∀ n, x.2 = some n → inS (f n)) (h : (fin T x f).2 = some s) : inS s := by
  unfold Df.fin at h
  cases hx : x.2 with
  | none => rw [hx] at h; cases h
  | some n =>
    rw [hx] at h
    simp only at h
    split at h
    · simp only [Option.some.injEq] at h; subst h; exact hf n hx
    · cases h
theorem opt_in {T : List Tok} (hT : Gd T) {i : Nat} {wd : ByteArray} {d n : Int} (hd : inI d) (h : (opt T i wd d).2 = some n) : inI n := by
  unfold Df.opt at h
  split at h
  · split at h
    · simp only [Option.some.injEq] at h; subst h; exact sm_rng (hT.size _)
    · cases h
  · simp only [Option.some.injEq] at h; subst h; exact hd
theorem one_in {T : List Tok} (hT : Gd T) {i : Nat} {s : Stp} (h : (one T i).2 = some s) : inS s := by
  have z : inI 0 := by unfold inI; omega
  have hz := fun j => hT.size j
  unfold Df.one at h
  split at h
  · split at h
    · split at h
      · refine fin_in (fun n hn => ?_) h
        have := opt_in hT (by unfold inI; omega) hn
        exact ⟨by show (⟨#[]⟩ : ByteArray).size ≤ _; decide, by show (tk T (i + 2)).t.size ≤ _; have := hz (i + 2); omega, z, z, sm_rng (hz _), z, this⟩
      · cases h
    · cases h
  · split at h
    · split at h
      · split at h
        · refine fin_in (fun n hn => ?_) h
          have := opt_in hT (by unfold inI; omega) hn
          have hv := val_rng (hz (i + 2))
          have hk := Df.kw_range (tk T i).t
          exact ⟨by show (tk T (i + 1)).t.size ≤ _; have := hz (i + 1); omega, by show (⟨#[]⟩ : ByteArray).size ≤ _; decide, by unfold inI; show _ ≤ kw _ ∧ kw _ ≤ _; omega, by unfold inI; show _ ≤ valE 2 _ ∧ valE 2 _ ≤ _; omega, z, this, z⟩
        · cases h
      · cases h
    · cases h
theorem stps_in {T : List Tok} (hT : Gd T) : ∀ (f i : Nat) (L M : List Stp), (∀ s ∈ L, inS s) → (stps T f i L).2 = some M → ∀ s ∈ M, inS s := by
  intro f
  induction f with
  | zero => intro i L M _ h; cases h
  | succ f ih =>
    intro i L M hL h
    unfold Df.stps at h
    split at h
    · simp only [Option.some.injEq] at h; subst h; exact hL
    · rcases hx : one T i with ⟨j, o⟩
      rw [hx] at h
      cases o with
      | none => cases h
      | some s =>
        refine ih j (L ++ [s]) M (fun x hx' => ?_) h
        rcases List.mem_append.1 hx' with h1 | h1
        · exact hL x h1
        · rw [List.mem_singleton] at h1; subst h1; exact one_in hT (by rw [hx])
theorem prs_in {T : List Tok} (hT : Gd T) {i : Nat} {nm : ByteArray} {L : List Stp} (h : (prs T i).2 = some (nm, L)) : (∀ s ∈ L, inS s) ∧ nm.size ≤ 16 := by
  unfold Df.prs at h
  split at h
  · split at h
    · split at h
      · rcases hx : stps T (T.length + 1) (i + 3) [] with ⟨j, o⟩
        rw [hx] at h
        cases o with
        | none => cases h
        | some M =>
          simp only [Option.some.injEq, Prod.mk.injEq] at h
          obtain ⟨h1, h2⟩ := h
          subst h1 h2
          exact ⟨stps_in hT _ _ [] M (by simp) (by rw [hx]), hT.size _⟩
      · cases h
    · cases h
  · cases h

/- the answer of Parse -/
def PaR (w : World) (nm : ByteArray) (L : List Stp) (t e p : Int) (en : Ending) (w' : World) : Prop :=
  ∃ a c, en = .returned (.tuple #[.agg #[.string nm, .slice a L.length c], .int .i64 t, .agg #[.int .i64 e, .int .i64 p]]) ∧ StpsAt w' a L ∧ L.length ≤ c ∧ (∀ x, a = some x → w.heap.size ≤ x.block) ∧ Gr w w'
theorem tok_place (k p : Int) (t : ByteArray) (W : World) : (Instr.field 66 (.agg #[.int .i64 k, .string t, .int .i64 p]) 2).run Tryd.prog W = .ok (.int .i64 p) W := by kernel_rfl

theorem gr_two {a b : World} (h : Gr a b) (x y : Value) : Gr a ((b.setCell ⟨a.heap.size, 0, none⟩ x).setCell ⟨a.heap.size, 1, none⟩ y) := (h.set _ (Nat.le_refl _) x).set _ (Nat.le_refl _) y

set_option maxHeartbeats 8000000 in
set_option maxRecDepth 100000 in
theorem dParse_bad (T : List Tok) (ad : Option Addr) (cap : Nat) (at' : Int) (w : World) (hT : ToksAt w ad T) (hc : T.length ≤ cap) (hn : T.length ≤ 5000) (hz : ∀ x ∈ T, x.t.size ≤ 9223372036854775807) (h : ckE T = 80 ∨ ¬ (0 ≤ at' ∧ at' < T.length)) :
    Calls Tryd.prog 16 #[.slice ad T.length cap, .int .i64 at'] w fun e w' => PaR w ⟨#[]⟩ [] 0 (if ckE T = 80 then 80 else 2) 0 e w' := by
  have HC : Hid (∀ w', Gr w w' → Calls Tryd.prog 33 #[.slice ad T.length cap] w' fun e w2 => e = .returned (.int .i64 (ckE T)) ∧ Gr w' w2) := fun w' g => check_any T ad cap w' (hT.gr g) hc hn hz
  have HW : Hid (∀ w', Calls Tryd.prog 27 #[.int .i64 at', .int .i64 0, .int .i64 ((T.length : Int) - 1)] w' fun e w2 => e = .returned (.bool (decide (0 ≤ at') && decide (at' ≤ (T.length : Int) - 1))) ∧ w2 = w') := fun w' => within_any at' 0 _ w'
  have HA0 := Lib.hid (TwoAt.new w (.string ⟨#[]⟩) (.slice none 0 0) 24 _ rfl)
  have HB0 := Lib.hid (TwoAt.new (w.alloc (.cells #[.string ⟨#[]⟩, .slice none 0 0] 24)) (.int .i64 0) (.int .i64 0) 37 (w.heap.size + 1) (by simp))
  have hlw : wrap64 ((T.length : Int) - 1) = (T.length : Int) - 1 := by unfold wrap64; omega
  by_cases h80 : ckE T = 80
  · rw [if_pos h80]
    rw [h80] at HC
    clear hT hz h h80 HW hlw
    go_enter Tryd.func16, Tryd.ntmps16
    go_wp2_with fail
    refine (HC.out _ (by repeat (first | exact Gr.refl _ | refine Gr.alloc ?_ | refine Gr.drew ?_ | refine Gr.trans ?_ (by assumption)))).mono ?_
    rintro e w1 ⟨rfl, hg⟩
    have HG1 : Hid (Gr w w1) := (Gr.refl _).alloc.alloc.trans hg
    obtain ⟨a0, a1, af0, af1, al⟩ := (HA0.out.gr (Gr.refl _).alloc).gr hg
    obtain ⟨b0, b1, bf0, bf1, bl⟩ := HB0.out.gr hg
    clear hg
    go_wp2
    refine bodyPost_ret (v := .tuple #[.agg #[.string ⟨#[]⟩, .slice none 0 0], .int .i64 0, .agg #[.int .i64 80, .int .i64 0]]) (by simp [results, Tryd.results16, go_sem, *]) rfl ⟨none, 0, rfl, RowAt.nil, by simp, (fun x e => by cases e), ?_⟩
    have hg1 := HG1.out
    exact (by (repeat' (first | with_reducible exact Gr.refl _ | with_reducible refine Gr.set ?_ _ ?_ _ | with_reducible refine Gr.alloc ?_ | with_reducible refine Gr.drew ?_ | with_reducible refine Gr.trans ?_ (by assumption))) <;> (first | (simp; done) | (simp; omega) | omega))
  · rw [if_neg h80]
    have hb : (ckE T == 80) = false := by simpa using h80
    have hwb : (decide (0 ≤ at') && decide (at' ≤ (T.length : Int) - 1)) = false := by
      cases hq : (decide (0 ≤ at') && decide (at' ≤ (T.length : Int) - 1)) with
      | false => rfl
      | true =>
        simp only [Bool.and_eq_true, decide_eq_true_eq] at hq
        rcases h with h | h
        · exact absurd h h80
        · exact absurd ⟨hq.1, by omega⟩ h
    rw [hwb] at HW
    generalize ckE T = CK at *
    clear hT hz h h80 hwb
    go_enter Tryd.func16, Tryd.ntmps16
    go_wp2_with fail
    refine (HC.out _ (by repeat (first | exact Gr.refl _ | refine Gr.alloc ?_ | refine Gr.drew ?_ | refine Gr.trans ?_ (by assumption)))).mono ?_
    rintro e w1 ⟨rfl, hg⟩
    have HG1 : Hid (Gr w w1) := (Gr.refl _).alloc.alloc.trans hg
    obtain ⟨a0, a1, af0, af1, al⟩ := (HA0.out.gr (Gr.refl _).alloc).gr hg
    obtain ⟨b0, b1, bf0, bf1, bl⟩ := HB0.out.gr hg
    clear hg
    go_wp2_with fail
    refine (HW.out _).mono ?_
    rintro e w2 ⟨rfl, hw⟩; obtain rfl := hw.symm
    go_wp2
    refine bodyPost_ret (v := .tuple #[.agg #[.string ⟨#[]⟩, .slice none 0 0], .int .i64 0, .agg #[.int .i64 2, .int .i64 0]]) (by simp [results, Tryd.results16, go_sem, *]) rfl ⟨none, 0, rfl, RowAt.nil, by simp, (fun x e => by cases e), ?_⟩
    have hg1 := HG1.out
    exact (by (repeat' (first | with_reducible exact Gr.refl _ | with_reducible refine Gr.set ?_ _ ?_ _ | with_reducible refine Gr.alloc ?_ | with_reducible refine Gr.drew ?_ | with_reducible refine Gr.trans ?_ (by assumption))) <;> (first | (simp; done) | (simp; omega) | omega))
end Go.Proofs.YtdliljijgokpjaaDoor
