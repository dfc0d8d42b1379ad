/- Parts of these proofs, laid together. -/
import Derived.Test.YthfbpilfdfploaaGJ
import Derived.Test.YthfbpilfdfploaaGC
import Derived.Test.YthfbpilfdfploaaGH
import Derived.Deep.DeepCutAuto
import Derived.Laws.CopyRow
import Derived.OwnWalk
namespace Go.Proofs.Ythfbpilfdfploaa
open Go.RowKit
open Lk (St)

variable {Z : Nat → Prop}
set_option maxHeartbeats 8000000 in
set_option maxRecDepth 100000 in
theorem kSend_any (g : Nat) (l : St Nx) (now : Int) (Q : List Mn) (adQ : Option Addr) (capQ : Nat) (w : World) (h : PkAt Z w g l) (he : l.ep ≠ 0) (hF : Frs Z w) (hQ : NtsAt Z w adQ Q) (hnQ : Q.length ≤ 9223372036854775807) :
    Calls Try.prog 7 #[.pointer (some ⟨g, 0, none⟩), .int .i64 now, .slice adQ Q.length capQ] w fun e w' => e = .returned (.int .i64 (Lk.sendE CX l now (pks Q))) ∧ PkAt Z w' g (Lk.sendS CX l now (pks Q)) ∧ GB g w w' := by
  have HM : Hid (Calls Try.prog 19 #[.pointer (some ⟨g, 0, none⟩)] w fun e w2 => e = .returned (.bool true) ∧ w2 = w) := by
    obtain ⟨a, c, E, a2, c2, h⟩ := h
    have := made_any g l.ep w (h.cs.at_ 2 _ rfl)
    rwa [decide_eq_false he] at this
  have HEn : Hid (∀ m ∈ Q, ∀ w', Gr w w' → Calls Try.prog 24 #[.pointer (some ⟨g, 0, none⟩), m.v] w' fun e w2 => e = .returned (.bool (Lk.ends CX l (pk m.x))) ∧ Gr w' w2) := fun m hm w' k => carries_any g l m w' (h.gr k) ((hQ.nt m hm).gr k)
  have HP : Hid (∀ w', Gr w w' → Calls Try.prog 25 #[.pointer (some ⟨g, 0, none⟩), .int .i64 now, .slice adQ Q.length capQ] w' fun e w2 => e = .returned (.int .i64 (Ox.push okN l.it l.nx now (pks Q)).2) ∧ PkAt Z w2 g (if (Ox.push okN l.it l.nx now (pks Q)).2 = 0 then { l with it := (Ox.push okN l.it l.nx now (pks Q)).1, nx := Ox.next (Ox.push okN l.it l.nx now (pks Q)).1 l.nx } else l) ∧ GB g w' w2) := fun w' k => kPush_any g l now Q adQ capQ w' (h.gr k) (hF.gr k) (hQ.gr k) hnQ
  have HQ := Lib.hid hQ.row
  have HS1 : Hid ((∀ (j : Nat) (hj : j < Q.length), Lk.ends CX l (pk Q[j].x) = true) → (Ox.push okN l.it l.nx now (pks Q)).2 = Lk.sendE CX l now (pks Q) ∧ (if (Ox.push okN l.it l.nx now (pks Q)).2 = 0 then { l with it := (Ox.push okN l.it l.nx now (pks Q)).1, nx := Ox.next (Ox.push okN l.it l.nx now (pks Q)).1 l.nx } else l) = Lk.sendS CX l now (pks Q)) := by
    intro hall
    have e1 : Lk.sendE CX l now (pks Q) = (Ox.push okN l.it l.nx now (pks Q)).2 := by
      unfold Lk.sendE
      rw [if_pos]
      · rfl
      · rw [List.all_eq_true]
        intro p hp
        obtain ⟨m, hm, rfl⟩ := List.mem_map.1 hp
        obtain ⟨j, hj, rfl⟩ := List.getElem_of_mem hm
        exact hall j hj
    refine ⟨e1.symm, ?_⟩
    unfold Lk.sendS
    rw [e1]; rfl
  have HS0 : Hid ((∃ (j : Nat) (hj : j < Q.length), Lk.ends CX l (pk Q[j].x) = false) → Lk.sendE CX l now (pks Q) = 130 ∧ Lk.sendS CX l now (pks Q) = l) := by
    rintro ⟨j, hj, hno⟩
    have e1 : Lk.sendE CX l now (pks Q) = 130 := by
      unfold Lk.sendE
      rw [if_neg]
      intro hall
      rw [List.all_eq_true] at hall
      have := hall (pk Q[j].x) (List.mem_map.2 ⟨_, List.getElem_mem hj, rfl⟩)
      rw [hno] at this; cases this
    refine ⟨e1, ?_⟩
    unfold Lk.sendS
    rw [e1]; rfl
  have HL := Lib.hid h
  generalize Lk.sendE CX l now (pks Q) = S at *
  generalize Lk.sendS CX l now (pks Q) = S' at *
  generalize (if (Ox.push okN l.it l.nx now (pks Q)).2 = 0 then { l with it := (Ox.push okN l.it l.nx now (pks Q)).1, nx := Ox.next (Ox.push okN l.it l.nx now (pks Q)).1 l.nx } else l) = R' at *
  generalize (Ox.push okN l.it l.nx now (pks Q)).2 = R at *
  clear h hQ hF he
  go_enter Try.func7, Try.ntmps7
  go_wp2_with fail
  refine HM.out.mono ?_
  rintro e1 w1 ⟨rfl, hw1⟩; obtain rfl := hw1.symm
  clear HM
  go_wp2
  go_loopw [14] (fun s14 wr => ∃ j : Nat, s14 = .int .i64 j ∧ j ≤ Q.length ∧ (∀ (i : Nat) (hi : i < Q.length), i < j → Lk.ends CX l (pk Q[i].x) = true) ∧ Gr w wr) (fun s14 _ => Q.length - (intOf s14).toNat)
  case atStart => exact ⟨0, rfl, Nat.zero_le _, fun i _ hi => absurd hi (Nat.not_lt_zero _), Gr.refl _⟩
  case round =>
    obtain ⟨j, rfl, hj, hall, hg⟩ := hrel
    have HG := Lib.hid hg
    have HA := Lib.hid hall
    clear hall
    by_cases hlt : j < Q.length
    · obtain ⟨b, off, rfl, hbl, d0, d1, d2, d3, d4, d5⟩ := NtsRow.at HQ.out j hlt
      have d0 := hg.keep d0
      have d1 := hg.keep d1
      have d2 := hg.keep d2
      have d3 := hg.keep d3
      have d4 := hg.keep d4
      have d5 := hg.keep d5
      have hbw : b < wr.heap.size := Nat.lt_of_lt_of_le hbl hg.size
      have hji : (j : Int) < (Q.length : Int) := by omega
      have hj0 : (0 : Int) ≤ (j : Int) := by omega
      have HX := Lib.hid (HEn.out Q[j] (List.getElem_mem hlt))
      have HN0 : Hid (Lk.ends CX l (pk Q[j].x) = false → S = 130 ∧ S' = l) := fun hno => HS0.out ⟨j, hlt, hno⟩
      have HN1 : Hid (Lk.ends CX l (pk Q[j].x) = true → ∀ (i : Nat) (hi : i < Q.length), i < j + 1 → Lk.ends CX l (pk Q[i].x) = true) := by
        intro hy i hi hij
        by_cases e : i = j
        · subst e; exact hy
        · exact HA.out i hi (by omega)
      clear hg
      generalize Q[j] = m at *
      generalize Lk.ends CX l (pk m.x) = x at *
      obtain ⟨⟨k0', r, n, L, dt, y⟩, ax, cx⟩ := m
      dsimp only [Mn.v] at *
      generalize L.length = ll at *
      have B1 := Cs.new wr [.int .i64 k0', .int .i64 r, .int .i64 n, .slice ax ll cx, .string dt, .int .i64 y] 26 _ rfl
      have z0 := B1.at_ 0 _ rfl
      have z1 := B1.at_ 1 _ rfl
      have z2 := B1.at_ 2 _ rfl
      have z3 := B1.at_ 3 _ rfl
      have z4 := B1.at_ 4 _ rfl
      have z5 := B1.at_ 5 _ rfl
      have zf0 := B1.fz 0 (by simp)
      have zf1 := B1.fz 1 (by simp)
      have zf2 := B1.fz 2 (by simp)
      have zf3 := B1.fz 3 (by simp)
      have zf4 := B1.fz 4 (by simp)
      have zf5 := B1.fz 5 (by simp)
      have zlt := B1.lt
      go_wp2_with fail
      refine wp_region_held_drew (S := (fun w' => Gr wr w' ∧ w'.cell? ⟨wr.heap.size, 0, none⟩ = some (.int .i64 k0') ∧ w'.cell? ⟨wr.heap.size, 1, none⟩ = some (.int .i64 r) ∧ w'.cell? ⟨wr.heap.size, 2, none⟩ = some (.int .i64 n) ∧ w'.cell? ⟨wr.heap.size, 3, none⟩ = some (.slice ax ll cx) ∧ w'.cell? ⟨wr.heap.size, 4, none⟩ = some (.string dt) ∧ w'.cell? ⟨wr.heap.size, 5, none⟩ = some (.int .i64 y))) (by kernel_rfl) (by exact ⟨(by repeat(first|exact Gr.r _|refine Gr.a ?_|refine Gr.d ?_|refine Gr.t ?_ (by assumption))), Gr.keep (by repeat(first|exact Gr.r _|refine Gr.a ?_|refine Gr.d ?_|refine Gr.t ?_ (by assumption))) z0, Gr.keep (by repeat(first|exact Gr.r _|refine Gr.a ?_|refine Gr.d ?_|refine Gr.t ?_ (by assumption))) z1, Gr.keep (by repeat(first|exact Gr.r _|refine Gr.a ?_|refine Gr.d ?_|refine Gr.t ?_ (by assumption))) z2, Gr.keep (by repeat(first|exact Gr.r _|refine Gr.a ?_|refine Gr.d ?_|refine Gr.t ?_ (by assumption))) z3, Gr.keep (by repeat(first|exact Gr.r _|refine Gr.a ?_|refine Gr.d ?_|refine Gr.t ?_ (by assumption))) z4, Gr.keep (by repeat(first|exact Gr.r _|refine Gr.a ?_|refine Gr.d ?_|refine Gr.t ?_ (by assumption))) z5⟩) (fun hHeld => ?_)
      refine ty 0 18 hHeld ?_
      refine ty 1 19 hHeld ?_
      refine ty 2 20 hHeld ?_
      refine ty 3 21 hHeld ?_
      refine wpAnyH_ready (rs := [4]) (by kernel_rfl) (by simp) (AllReadyH.cons rfl (fun K hK => ?_) AllReadyH.nil)
      go_simp
      (go_at_call 24; refine (HX.out _ (HG.out.trans hHeld.1)).mono ?_; rintro e wn ⟨rfl, hgn⟩)
      (try go_wp2_with fail)
      refine hK.out _ _ (by exact ⟨(by repeat(first|exact Gr.r _|refine Gr.a ?_|refine Gr.d ?_|refine Gr.t ?_ (by assumption))), Gr.keep (by repeat(first|exact Gr.r _|refine Gr.a ?_|refine Gr.d ?_|refine Gr.t ?_ (by assumption))) z0, Gr.keep (by repeat(first|exact Gr.r _|refine Gr.a ?_|refine Gr.d ?_|refine Gr.t ?_ (by assumption))) z1, Gr.keep (by repeat(first|exact Gr.r _|refine Gr.a ?_|refine Gr.d ?_|refine Gr.t ?_ (by assumption))) z2, Gr.keep (by repeat(first|exact Gr.r _|refine Gr.a ?_|refine Gr.d ?_|refine Gr.t ?_ (by assumption))) z3, Gr.keep (by repeat(first|exact Gr.r _|refine Gr.a ?_|refine Gr.d ?_|refine Gr.t ?_ (by assumption))) z4, Gr.keep (by repeat(first|exact Gr.r _|refine Gr.a ?_|refine Gr.d ?_|refine Gr.t ?_ (by assumption))) z5⟩) (fun hHeldN => ?_)
      clear hHeld hK K
      have hHeld := hHeldN
      clear hHeldN
      refine ty 5 23 hHeld ?_
      refine wpAnyH_done (by kernel_rfl) ?_ _
      have HG1 := Lib.hid (HG.out.trans hHeld.1)
      clear hHeld z0 z1 z2 z3 z4 z5 zf0 zf1 zf2 zf3 zf4 zf5 zlt B1 d0 d1 d2 d3 d4 d5
      cases x with
      | true =>
        have HN := Lib.hid (HN1.out rfl)
        go_wp2
        go_roundw
        case rel => exact ⟨j + 1, by go_num, by omega, HN.out, HG1.out⟩
        case measure => simp [intOf]; omega
      | false =>
        have HN := Lib.hid (HN0.out rfl)
        go_wp2
        go_ret
        exact ⟨by rw [HN.out.1]; rfl, by rw [HN.out.2]; exact HL.out.gr HG1.out, GB.ofGr HG1.out⟩
    · have hge : ¬ ((j : Int) < (Q.length : Int)) := by omega
      have HSe := Lib.hid (HS1.out (fun i hi => HA.out i hi (by omega)))
      clear hg
      go_wp2_with fail
      refine (HP.out _ HG.out).mono ?_
      rintro e1 w1 ⟨rfl, hp1, hgb⟩
      have H1 := Lib.hid hp1
      have H2 := Lib.hid hgb
      clear hp1 hgb
      go_wp2
      go_ret
      exact ⟨by rw [← HSe.out.1]; rfl, by rw [← HSe.out.2]; exact H1.out, (GB.ofGr HG.out).trans H2.out⟩
end Go.Proofs.Ythfbpilfdfploaa
namespace Go.Proofs.Ythfbpilfdfploaa
variable {P : Program} {md : Region.Mode} {ops : Array Oper} {Q : Exit → Act → World → Prop}

/- whatever order is picked from here on; S holds till number s has come -/
def wpAnyL (P : Program) (md : Region.Mode) (ops : Array Oper) (Q : Exit → Act → World → Prop) (s : Nat) (S : World → Prop) : Nat → Array Bool → Act → World → Prop
  | 0, listed, a, w => Region.ready md ops listed = [] ∧ Q .normal a w
  | fuel + 1, listed, a, w =>
    (Region.ready md ops listed = [] → Q .normal a w) ∧
    ∀ i ∈ Region.ready md ops listed, wpOp P ops Q i (fun a' w' => ((listed.setIfInBounds i true).getD s true = false → S w') ∧ wpAnyL P md ops Q s S fuel (listed.setIfInBounds i true) a' w') a w
variable {s : Nat} {S : World → Prop}
theorem wpAny_of_L : ∀ (fuel : Nat) (listed : Array Bool) (a : Act) (w : World), wpAnyL P md ops Q s S fuel listed a w → wpAny P md ops Q fuel listed a w
  | 0, _, _, _, h => h
  | fuel + 1, _, _, _, h => ⟨h.1, fun i hi => wpOp_mono (fun a' w' h' => wpAny_of_L fuel _ a' w' h'.2) (h.2 i hi)⟩
theorem getD_ne {l : Array Bool} {i j : Nat} (h : i ≠ j) : (l.setIfInBounds i true).getD j true = l.getD j true := getD_set_ne true h

theorem wpAnyL_first {i : Nat} {oi os : Oper} {v : Value} (hi : ops[i]? = some oi) (hsel : ∀ (j : Nat) (o : Oper) cs b, ops[j]? = some o → o.op ≠ .select cs b)
    (hQ : ∀ c a w, Q (.panic c) (a.put oi.dst v) w → Q (.panic c) a w) (his : i ≠ s) (hos : ops[s]? = some os) (hdep : ∃ e ∈ os.after, Region.binds md e = true ∧ e.on = i) :
    ∀ (fuel : Nat) (listed : Array Bool) (a : Act) (w : World),
      (∀ j oj, ops[j]? = some oj → j ≠ i → listed.getD j true = false → (∀ e ∈ oj.after, Region.binds md e = true → e.on ≠ i) → oi.apart ops oj = true) →
      i ∈ Region.ready md ops listed → YieldsIf P ops S oi v a → listed.getD s true = false → S w →
      wpAnyL P md ops Q s S fuel (listed.setIfInBounds i true) (a.put oi.dst v) w → wpAnyL P md ops Q s S (fuel + 1) listed a w := by
  intro fuel
  induction fuel with
  | zero =>
    intro listed a w _ hr hy _ hS H
    refine ⟨fun h => (by rw [h] at hr; cases hr), fun j hj => ?_⟩
    by_cases hji : j = i
    · subst hji; exact hy.wpOp hi hS ⟨fun _ => hS, H⟩
    · have := ready_mono hj hji
      rw [H.1] at this
      cases this
  | succ fuel ih =>
    intro listed a w hfree hr hy hls hS H
    refine ⟨fun h => (by rw [h] at hr; cases hr), fun j hj => ?_⟩
    by_cases hji : j = i
    · subst hji; exact hy.wpOp hi hS ⟨fun _ => hS, H⟩
    · have h1 := H.2 j (ready_mono hj hji)
      obtain ⟨hjun, oj, hoj, hall⟩ := mem_ready.1 hj
      have hnot : ∀ e ∈ oj.after, Region.binds md e = true → e.on ≠ i := fun e he hb heq => by
        have h1 := hall e he hb
        have h0 := (mem_ready.1 hr).1
        rw [heq] at h1
        rcases Nat.lt_or_ge i listed.size with h' | h'
        · simp [h'] at h0 h1; rw [h0] at h1; cases h1
        · simp [Array.getElem?_eq_none h'] at h1
      have hjs : j ≠ s := fun e => by
        subst e
        rw [hos] at hoj
        cases hoj
        obtain ⟨e, he, hb, hon⟩ := hdep
        exact hnot e he hb hon
      have h2 := wpOp_putIf hoj (hfree j oj hoj hji hjun hnot) (fun cs b => hsel i oi cs b hi) (fun cs b => hsel j oj cs b hoj) hQ hy h1
      have hfree' : ∀ k ok, ops[k]? = some ok → k ≠ i → (listed.setIfInBounds j true).getD k true = false →
          (∀ e ∈ ok.after, Region.binds md e = true → e.on ≠ i) → oi.apart ops ok = true := fun k ok hk hki hun hno => by
        refine hfree k ok hk hki ?_ hno
        by_cases hjk : j = k
        · subst hjk; exact hjun
        · rw [getD_set_ne true hjk] at hun; exact hun
      have hls' : (listed.setIfInBounds j true).getD s true = false := by rw [getD_ne hjs]; exact hls
      have hls2 : ((listed.setIfInBounds i true).setIfInBounds j true).getD s true = false := by rw [getD_ne hjs, getD_ne his]; exact hls
      refine wpOp_mono (fun a' w' h3 => ⟨fun _ => h3.2.1 hls2, ih (listed.setIfInBounds j true) a' w' hfree' (ready_mono hr (Ne.symm hji)) h3.1 hls' (h3.2.1 hls2) ?_⟩) h2
      rw [Array.setIfInBounds_comm _ _ hji]
      exact h3.2.2
theorem wpAnyL_firstW {i : Nat} {oi : Oper} {v : Value} (hi : ops[i]? = some oi) (hsel : ∀ (j : Nat) (o : Oper) cs b, ops[j]? = some o → o.op ≠ .select cs b)
    (hQ : ∀ c a w, Q (.panic c) (a.put oi.dst v) w → Q (.panic c) a w) (his : i ≠ s) :
    ∀ (fuel : Nat) (listed : Array Bool) (a : Act) (w : World),
      (∀ j oj, ops[j]? = some oj → j ≠ i → listed.getD j true = false → (∀ e ∈ oj.after, Region.binds md e = true → e.on ≠ i) → oi.apart ops oj = true) →
      i ∈ Region.ready md ops listed → YieldsIf P ops (fun _ => True) oi v a → (listed.getD s true = false → S w) →
      wpAnyL P md ops Q s S fuel (listed.setIfInBounds i true) (a.put oi.dst v) w → wpAnyL P md ops Q s S (fuel + 1) listed a w := by
  intro fuel
  induction fuel with
  | zero =>
    intro listed a w _ hr hy hS H
    refine ⟨fun h => (by rw [h] at hr; cases hr), fun j hj => ?_⟩
    by_cases hji : j = i
    · subst hji; exact hy.wpOp hi trivial ⟨fun h => hS (by rw [getD_ne his] at h; exact h), H⟩
    · have := ready_mono hj hji
      rw [H.1] at this
      cases this
  | succ fuel ih =>
    intro listed a w hfree hr hy hS H
    refine ⟨fun h => (by rw [h] at hr; cases hr), fun j hj => ?_⟩
    by_cases hji : j = i
    · subst hji; exact hy.wpOp hi trivial ⟨fun h => hS (by rw [getD_ne his] at h; exact h), H⟩
    · have h1 := H.2 j (ready_mono hj hji)
      obtain ⟨hjun, oj, hoj, hall⟩ := mem_ready.1 hj
      have hnot : ∀ e ∈ oj.after, Region.binds md e = true → e.on ≠ i := fun e he hb heq => by
        have h1 := hall e he hb
        have h0 := (mem_ready.1 hr).1
        rw [heq] at h1
        rcases Nat.lt_or_ge i listed.size with h' | h'
        · simp [h'] at h0 h1; rw [h0] at h1; cases h1
        · simp [Array.getElem?_eq_none h'] at h1
      have h2 := wpOp_putIf hoj (hfree j oj hoj hji hjun hnot) (fun cs b => hsel i oi cs b hi) (fun cs b => hsel j oj cs b hoj) hQ hy h1
      have hfree' : ∀ k ok, ops[k]? = some ok → k ≠ i → (listed.setIfInBounds j true).getD k true = false →
          (∀ e ∈ ok.after, Region.binds md e = true → e.on ≠ i) → oi.apart ops ok = true := fun k ok hk hki hun hno => by
        refine hfree k ok hk hki ?_ hno
        by_cases hjk : j = k
        · subst hjk; exact hjun
        · rw [getD_set_ne true hjk] at hun; exact hun
      have hsame : ((listed.setIfInBounds i true).setIfInBounds j true).getD s true = (listed.setIfInBounds j true).getD s true := by
        rw [Array.setIfInBounds_comm _ _ (Ne.symm hji), getD_ne his]
      refine wpOp_mono (fun a' w' h3 => ⟨fun h => h3.2.1 (by rw [hsame]; exact h), ih (listed.setIfInBounds j true) a' w' hfree' (ready_mono hr (Ne.symm hji)) h3.1 (fun h => h3.2.1 (by rw [hsame]; exact h)) ?_⟩) h2
      rw [Array.setIfInBounds_comm _ _ hji]
      exact h3.2.2

def waits (md : Region.Mode) (ops : Array Oper) (s i : Nat) : Bool := match ops[s]? with | some o => o.after.any fun e => Region.binds md e && e.on == i | none => false
theorem waits_spec {i : Nat} (h : waits md ops s i = true) : ∃ os, ops[s]? = some os ∧ ∃ e ∈ os.after, Region.binds md e = true ∧ e.on = i := by
  unfold waits at h
  cases hs : ops[s]? with
  | none => rw [hs] at h; cases h
  | some o =>
    rw [hs] at h
    obtain ⟨e, he, hb⟩ := Array.any_eq_true'.1 h
    simp only [Bool.and_eq_true, beq_iff_eq] at hb
    exact ⟨o, rfl, e, he, hb.1, hb.2⟩
/- taken first, under S -/
theorem takeS (i d : Nat) {oi : Oper} {v : Value} {fuel : Nat} {listed : Array Bool} {a : Act} {w : World} (hi : ops[i]? = some oi) (hd : oi.dst = some d) (his : i ≠ s) (hwt : waits md ops s i = true)
    (hs : Region.noSelect ops = true) (hf : Region.free md ops listed i = true) (hr : (Region.ready md ops listed).contains i = true) (hls : listed.getD s true = false)
    (hQ : ∀ c a w, Q (.panic c) (a.put (some d) v) w → Q (.panic c) a w) (hw : Region.wanted oi (yielded ops a.tmps) = true) (hy : ∀ w, S w → (execOp a.eval oi).run P w = .ok (.value v) w) (hS : S w)
    (h : wpAnyL P md ops Q s S fuel (listed.setIfInBounds i true) (a.put (some d) v) w) : wpAnyL P md ops Q s S (fuel + 1) listed a w := by
  rw [← hd] at hQ h
  obtain ⟨os, hos, hdep⟩ := waits_spec hwt
  exact wpAnyL_first hi (Region.noSelect_spec hs) hQ his hos hdep fuel listed a w (Region.free_spec hi hf) (by simpa using hr) (Or.inl ⟨hw, hy⟩) hls hS h
/- taken first, whatever the memory -/
theorem takeW (i d : Nat) {oi : Oper} {v : Value} {fuel : Nat} {listed : Array Bool} {a : Act} {w : World} (hi : ops[i]? = some oi) (hd : oi.dst = some d) (his : i ≠ s)
    (hs : Region.noSelect ops = true) (hf : Region.free md ops listed i = true) (hr : (Region.ready md ops listed).contains i = true)
    (hQ : ∀ c a w, Q (.panic c) (a.put (some d) v) w → Q (.panic c) a w) (hw : Region.wanted oi (yielded ops a.tmps) = true) (hy : ∀ w, (execOp a.eval oi).run P w = .ok (.value v) w) (hS : listed.getD s true = false → S w)
    (h : wpAnyL P md ops Q s S fuel (listed.setIfInBounds i true) (a.put (some d) v) w) : wpAnyL P md ops Q s S (fuel + 1) listed a w := by
  rw [← hd] at hQ h
  exact wpAnyL_firstW hi (Region.noSelect_spec hs) hQ his fuel listed a w (Region.free_spec hi hf) (by simpa using hr) (Or.inl ⟨hw, fun w _ => hy w⟩) hS h
/- the only one that may come up -/
theorem stepL (i : Nat) {o : Oper} {fuel : Nat} {listed : Array Bool} {a : Act} {w : World} (hr : Region.ready md ops listed = [i]) (ho : ops[i]? = some o)
    (h : ∀ K' : Act → World → Prop, Shut (∀ a w, ((listed.setIfInBounds i true).getD s true = false → S w) → wpAnyL P md ops Q s S fuel (listed.setIfInBounds i true) a w → K' a w) → if Region.wanted o (yielded ops a.tmps) = true then Oper.wp P o a w K' Q else K' (a.put o.dst undef) w) :
    wpAnyL P md ops Q s S (fuel + 1) listed a w := by
  refine ⟨fun h0 => (by rw [hr] at h0; cases h0), fun j hj => ?_⟩
  rw [hr] at hj
  obtain rfl : j = i := by simpa using hj
  exact wpOp_step ho (fun K' hK => h K' (fun a w hS hW => hK a w ⟨hS, hW⟩))
theorem stepC (i : Nat) {o : Oper} {fuel : Nat} {listed : Array Bool} {a : Act} {w : World} (hr : Region.ready md ops listed = [i]) (ho : ops[i]? = some o)
    (h : ∀ K' : Act → World → Prop, Shut (∀ a w, S w → (S w → wpAnyL P md ops Q s S fuel (listed.setIfInBounds i true) a w) → K' a w) → if Region.wanted o (yielded ops a.tmps) = true then Oper.wp P o a w K' Q else K' (a.put o.dst undef) w) :
    wpAnyL P md ops Q s S (fuel + 1) listed a w :=
  stepL i hr ho (fun K' hK => h K' (fun a w hS hW => hK.out a w (fun _ => hS) (hW hS)))
theorem listed_done {l : Array Bool} {s : Nat} (h1 : l.getD s true = true) (h : l.getD s true = false) {S : Prop} : S := by rw [h1] at h; cases h
theorem stepS {o : Oper} {fuel : Nat} {listed : Array Bool} {a : Act} {w : World} (hr : Region.ready md ops listed = [s]) (ho : ops[s]? = some o) (hl : (listed.setIfInBounds s true).getD s true = true)
    (h : ∀ K' : Act → World → Prop, Shut (∀ a w, wpAnyL P md ops Q s S fuel (listed.setIfInBounds s true) a w → K' a w) → if Region.wanted o (yielded ops a.tmps) = true then Oper.wp P o a w K' Q else K' (a.put o.dst undef) w) :
    wpAnyL P md ops Q s S (fuel + 1) listed a w :=
  stepL s hr ho (fun K' hK => h K' (fun a w hW => hK.out a w (fun h => listed_done hl h) hW))
theorem doneL {listed : Array Bool} {a : Act} {w : World} (hr : Region.ready md ops listed = []) (h : Q .normal a w) : ∀ fuel, wpAnyL P md ops Q s S fuel listed a w
  | 0 => ⟨hr, h⟩
  | _ + 1 => ⟨fun _ => h, by rw [hr]; simp⟩
theorem beginL (s : Nat) (S : World → Prop) {id : Nat} {a : Act} {w : World} (hm : P.follows .mixedOrders = true) (hS : S w.drew)
    (h : S w.drew → wpAnyL P .any ops Q s S ops.size (Array.replicate ops.size false) a w.drew) : (Code.region id ops true).wp P Q a w :=
  wp_region_any hm (wpAny_of_L (s := s) (S := S) _ _ _ _ (h hS))
end Go.Proofs.Ythfbpilfdfploaa
namespace Go.Proofs.Ythfbpilfdfploaa
open Go.RowKit
open Wn (Wd)

/- what Take answers -/
def TkR (w w' : World) (e : Ending) (r : Wd × Bool × Int) : Prop :=
  ∃ ad cap, e = .returned (.tuple #[wdV r.1.low ad r.1.seen.length cap, .bool r.2.1, .int .i64 r.2.2]) ∧ WdAt w' ad cap r.1 ∧ (∀ a, ad = some a → w.heap.size ≤ a.block ∧ a.block < w'.heap.size) ∧ Gr w w'
theorem wd_zero (w : World) : WdAt w none 0 ⟨0, []⟩ := ⟨IntsAt.nil, by simp, by simp, fun _ => rfl, by simp, by simp⟩
theorem TkR.no {w w' : World} (c : Int) (h : Gr w w') : TkR w w' (.returned (.tuple #[wdV 0 none 0 0, .bool false, .int .i64 c])) (⟨0, []⟩, false, c) := ⟨none, 0, rfl, wd_zero _, (fun a e => by cases e), h⟩
theorem gr_set2 {a b : World} (h : Gr a b) (g : Nat) (hg : a.heap.size ≤ g) (x y : Value) : Gr a ((b.setCell ⟨g, 0, none⟩ x).setCell ⟨g, 1, none⟩ y) := (h.set _ hg x).set _ hg y
set_option maxHeartbeats 8000000 in
set_option maxRecDepth 100000 in
theorem take_bad (W : Wd) (q : Int) (ad : Option Addr) (cap : Nat) (w : World) (h : WdAt w ad cap W) (hb : ¬ (Wn.may W = true ∧ 1 ≤ q ∧ q ≤ 1000000000)) :
    Calls Try.prog 37 #[wdV W.low ad W.seen.length cap, .int .i64 q] w fun e w' => TkR w w' e (⟨0, []⟩, false, 2) := by
  have HM : Hid (∀ w', Gr w w' → Calls Try.prog 52 #[wdV W.low ad W.seen.length cap] w' fun e w2 => e = .returned (.int .i64 (mayE W)) ∧ Gr w' w2) := fun w' g => may_any W ad cap w' (h.gr g)
  clear h
  generalize W.seen.length = n at *
  generalize W.low = low at *
  by_cases hm : Wn.may W = true
  · have e0 : mayE W = 0 := by unfold mayE; rw [if_pos hm]
    rw [e0] at HM
    by_cases h1 : q < 1
    · clear hb
      go_enter Try.func37, Try.ntmps37
      go_wp2_with fail
      refine (HM.out _ (by repeat(first|exact Gr.r _|refine Gr.a ?_|refine Gr.d ?_|refine Gr.t ?_ (by assumption)))).mono ?_
      rintro e w1 ⟨rfl, hg1⟩
      have G1 : Hid (Gr w w1) := (Gr.refl w).alloc.alloc.trans hg1
      obtain ⟨c0, c1, f0, f1, lt⟩ := (Bx2.new (w.alloc (.cells #[.int .i64 low, .slice ad n cap] 37)) (.int .i64 0) (.slice none 0 0) 37 (w.heap.size + 1) (by simp)).gr hg1
      clear hg1
      go_wp2
      exact bodyPost_ret (v := .tuple #[wdV 0 none 0 0, .bool false, .int .i64 2]) (by simp [results, Try.results37, go_sem, *]) rfl (TkR.no 2 (gr_set2 G1.out _ (by omega) _ _))
    · have h2 : 1000000000 < q := by
        rcases Int.lt_or_le 1000000000 q with c | c
        · exact c
        · exact absurd ⟨hm, by omega, c⟩ hb
      clear hb
      go_enter Try.func37, Try.ntmps37
      go_wp2_with fail
      refine (HM.out _ (by repeat(first|exact Gr.r _|refine Gr.a ?_|refine Gr.d ?_|refine Gr.t ?_ (by assumption)))).mono ?_
      rintro e w1 ⟨rfl, hg1⟩
      have G1 : Hid (Gr w w1) := (Gr.refl w).alloc.alloc.trans hg1
      obtain ⟨c0, c1, f0, f1, lt⟩ := (Bx2.new (w.alloc (.cells #[.int .i64 low, .slice ad n cap] 37)) (.int .i64 0) (.slice none 0 0) 37 (w.heap.size + 1) (by simp)).gr hg1
      clear hg1
      go_wp2
      exact bodyPost_ret (v := .tuple #[wdV 0 none 0 0, .bool false, .int .i64 2]) (by simp [results, Try.results37, go_sem, *]) rfl (TkR.no 2 (gr_set2 G1.out _ (by omega) _ _))
  · have e0 : mayE W = 2 := by unfold mayE; rw [if_neg hm]
    rw [e0] at HM
    clear hb hm e0
    go_enter Try.func37, Try.ntmps37
    go_wp2_with fail
    refine (HM.out _ (by repeat(first|exact Gr.r _|refine Gr.a ?_|refine Gr.d ?_|refine Gr.t ?_ (by assumption)))).mono ?_
    rintro e w1 ⟨rfl, hg1⟩
    have G1 : Hid (Gr w w1) := (Gr.refl w).alloc.alloc.trans hg1
    obtain ⟨c0, c1, f0, f1, lt⟩ := (Bx2.new (w.alloc (.cells #[.int .i64 low, .slice ad n cap] 37)) (.int .i64 0) (.slice none 0 0) 37 (w.heap.size + 1) (by simp)).gr hg1
    clear hg1
    go_wp2
    exact bodyPost_ret (v := .tuple #[wdV 0 none 0 0, .bool false, .int .i64 2]) (by simp [results, Try.results37, go_sem, *]) rfl (TkR.no 2 (gr_set2 G1.out _ (by omega) _ _))
set_option maxHeartbeats 8000000 in
set_option maxRecDepth 100000 in
theorem take_far (W : Wd) (q : Int) (ad : Option Addr) (cap : Nat) (w : World) (h : WdAt w ad cap W) (hm : Wn.may W = true) (h1 : 1 ≤ q) (h2 : q ≤ 1000000000) (hf : W.low + 16 < q) :
    Calls Try.prog 37 #[wdV W.low ad W.seen.length cap, .int .i64 q] w fun e w' => TkR w w' e (⟨0, []⟩, false, 180) := by
  have HM : Hid (∀ w', Gr w w' → Calls Try.prog 52 #[wdV W.low ad W.seen.length cap] w' fun e w2 => e = .returned (.int .i64 (mayE W)) ∧ Gr w' w2) := fun w' g => may_any W ad cap w' (h.gr g)
  have hlo := ((Wn.may_iff W).1 hm).1
  have e0 : mayE W = 0 := by unfold mayE; rw [if_pos hm]
  rw [e0] at HM
  clear h hm e0
  generalize W.seen.length = n at *
  generalize W.low = low at *
  go_enter Try.func37, Try.ntmps37
  go_wp2_with fail
  refine (HM.out _ (by repeat(first|exact Gr.r _|refine Gr.a ?_|refine Gr.d ?_|refine Gr.t ?_ (by assumption)))).mono ?_
  rintro e w1 ⟨rfl, hg1⟩
  have G1 : Hid (Gr w w1) := (Gr.refl w).alloc.alloc.trans hg1
  obtain ⟨c0, c1, f0, f1, lt⟩ := (Bx2.new (w.alloc (.cells #[.int .i64 low, .slice ad n cap] 37)) (.int .i64 0) (.slice none 0 0) 37 (w.heap.size + 1) (by simp)).gr hg1
  obtain ⟨d0, d1, g0, g1, dt⟩ := ((Bx2.new w (.int .i64 low) (.slice ad n cap) 37 w.heap.size rfl).gr (Gr.refl _).alloc).gr hg1
  clear hg1
  go_wp2
  exact bodyPost_ret (v := .tuple #[wdV 0 none 0 0, .bool false, .int .i64 180]) (by simp [results, Try.results37, go_sem, *]) rfl (TkR.no 180 (gr_set2 G1.out _ (by omega) _ _))
set_option maxHeartbeats 8000000 in
set_option maxRecDepth 100000 in
theorem take_had (W : Wd) (q : Int) (ad : Option Addr) (cap : Nat) (w : World) (h : WdAt w ad cap W) (hm : Wn.may W = true) (h1 : 1 ≤ q) (h2 : q ≤ 1000000000) (hf : ¬ (W.low + 16 < q)) (hh : Wn.has W q = true) :
    Calls Try.prog 37 #[wdV W.low ad W.seen.length cap, .int .i64 q] w fun e w' => TkR w w' e (W, false, 0) := by
  have HM : Hid (∀ w', Gr w w' → Calls Try.prog 52 #[wdV W.low ad W.seen.length cap] w' fun e w2 => e = .returned (.int .i64 (mayE W)) ∧ Gr w' w2) := fun w' g => may_any W ad cap w' (h.gr g)
  obtain ⟨hlo, hup, _⟩ := (Wn.may_iff W).1 hm
  have hle := Wn.may_len hm
  have HC : Hid (∀ w', Gr w w' → Calls Try.prog 53 #[.slice ad W.seen.length cap] w' fun e w2 => ∃ v, e = .returned v ∧ w2.ownsRow w'.heap.size 3 1 v W.seen.length (intV W.seen) ∧ Gr w' w2) := fun w' g => copy_any W.seen ad cap w' (h.row.gr g) (by omega) h.non
  have HS : Hid (∀ w' ad' cap', IntsAt w' ad' W.seen → Calls Try.prog 54 #[.slice ad' W.seen.length cap', .int .i64 q] w' fun e w2 => e = .returned (.tuple #[.int .i64 (Wn.pos q W.seen : Nat), .bool (decide (q ∈ W.seen))]) ∧ Gr w' w2) := fun w' ad' cap' hL => search_any W.seen ad' cap' q w' hL (by omega) hup
  have e0 : mayE W = 0 := by unfold mayE; rw [if_pos hm]
  rw [e0] at HM
  have hor : decide (q ∈ W.seen) = true ∨ (decide (q ∈ W.seen) = false ∧ q ≤ W.low) := by
    by_cases c : q ∈ W.seen
    · exact Or.inl (decide_eq_true c)
    · rcases (Wn.has_iff W q).1 hh with h | h
      · exact absurd h c
      · exact Or.inr ⟨decide_eq_false c, h.2⟩
  have HL0 := Lib.hid h.lo0
  have HL1 := Lib.hid h.lo1
  have HLn := Lib.hid h.len
  clear h hm e0 hh hup
  obtain ⟨low, l⟩ := W
  simp only at *
  go_enter Try.func37, Try.ntmps37
  go_wp2_with fail
  refine (HM.out _ (by repeat(first|exact Gr.r _|refine Gr.a ?_|refine Gr.d ?_|refine Gr.t ?_ (by assumption)))).mono ?_
  rintro e w1 ⟨rfl, hg1⟩
  have G1 : Hid (Gr w w1) := (Gr.refl w).alloc.alloc.trans hg1
  have B1 := Lib.hid ((Bx2.new (w.alloc (.cells #[.int .i64 low, .slice ad l.length cap] 37)) (.int .i64 0) (.slice none 0 0) 37 (w.heap.size + 1) (by simp)).gr hg1)
  have A1 := Lib.hid (((Bx2.new w (.int .i64 low) (.slice ad l.length cap) 37 w.heap.size rfl).gr (Gr.refl _).alloc).gr hg1)
  obtain ⟨d0, d1, _, _, _⟩ := A1.out
  clear hg1 HM
  go_wp2_with fail
  refine (HC.out _ G1.out).mono ?_
  rintro e w2 ⟨v, rfl, ho, hg2⟩
  obtain ⟨ad2, cap2, rfl, hc2, hL2, hn2, hb2⟩ := own_intsN ho
  have R2 := Lib.hid hL2
  have G2 := Lib.hid (G1.out.trans hg2)
  have B2 := Lib.hid (B1.out.gr hg2)
  have A2 := Lib.hid (A1.out.gr hg2)
  have C2 := Lib.hid hn2
  have N2 : Hid (∀ a, ad2 = some a → w.heap.size + 2 ≤ a.block ∧ a.block < w2.heap.size) := fun a e => by
    have h1 := hb2 a e
    have h2 := B1.out.lt
    omega
  clear d0 d1 ho hg2 hL2 hn2 hb2 HC G1 B1 A1
  go_wp2_with fail
  refine (HS.out _ _ _ R2.out).mono ?_
  rintro e w3 ⟨rfl, hg3⟩
  have R3 := Lib.hid (R2.out.gr hg3)
  have G3 := Lib.hid (G2.out.trans hg3)
  obtain ⟨c0, c1, f0, f1, lt⟩ := B2.out.gr hg3
  obtain ⟨d0, d1, _, _, dt⟩ := A2.out.gr hg3
  have N3 : Hid (∀ a, ad2 = some a → w.heap.size + 2 ≤ a.block ∧ a.block < w3.heap.size) := fun a e => by
    have h1 := N2.out a e
    have h2 := hg3.size
    omega
  clear hg3 HS R2 G2 B2 A2 N2
  rcases hor with ht | ⟨ht, hq⟩
  · rw [ht]
    go_wp2
    exact bodyPost_ret (v := .tuple #[wdV low ad2 l.length cap2, .bool false, .int .i64 0]) (by simp [results, Try.results37, go_sem, *]) rfl
      ⟨ad2, cap2, rfl, ⟨(R3.out.set _ _ (fun a e => by have := N3.out a e; simp; omega)).set _ _ (fun a e => by have := N3.out a e; simp; omega), hc2, HLn.out, C2.out, HL0.out, HL1.out⟩, (fun a e => by have := N3.out a e; simp; omega), gr_set2 G3.out _ (by omega) _ _⟩
  · rw [ht]
    go_wp2
    exact bodyPost_ret (v := .tuple #[wdV low ad2 l.length cap2, .bool false, .int .i64 0]) (by simp [results, Try.results37, go_sem, *]) rfl
      ⟨ad2, cap2, rfl, ⟨(R3.out.set _ _ (fun a e => by have := N3.out a e; simp; omega)).set _ _ (fun a e => by have := N3.out a e; simp; omega), hc2, HLn.out, C2.out, HL0.out, HL1.out⟩, (fun a e => by have := N3.out a e; simp; omega), gr_set2 G3.out _ (by omega) _ _⟩
theorem heap_new (w : World) (o : Obj) : (w.drew.alloc o).heap[w.heap.size]? = some o := by
  show (w.heap.push o)[w.heap.size]? = some o
  simp
theorem hold1 {a b : World} (g : Gr a b) {p : Addr} {v : Value} (h : a.cell? p = some v) : b.cell? p = some v := g.keep h
theorem below_keep {B : Nat} {a b : World} (g : Below B a b) {p : Addr} (hp : p.block < B) {v : Value} (h : a.cell? p = some v) : b.cell? p = some v := (g.cell hp).trans h
theorem Bx2.below {B : Nat} {w w' : World} {g : Nat} {a b : Value} (h : Bx2 w g a b) (k : Below B w w') (hg : g < B) : Bx2 w' g a b :=
  ⟨below_keep k hg h.c0, below_keep k hg h.c1, (k.frozen (p := ⟨g, 0, none⟩) hg).trans h.f0, (k.frozen (p := ⟨g, 1, none⟩) hg).trans h.f1, Nat.lt_of_lt_of_le h.lt k.size⟩
theorem Gr.belowT {a b c : World} (h : Gr a b) {B : Nat} (k : Below B b c) (hB : a.heap.size ≤ B) : Gr a c := ⟨h.below.trans (k.mono hB)⟩
set_option maxHeartbeats 8000000 in
set_option maxRecDepth 100000 in
theorem take_new (W : Wd) (q : Int) (ad : Option Addr) (cap : Nat) (w : World) (h : WdAt w ad cap W) (hm : Wn.may W = true) (h1 : 1 ≤ q) (h2 : q ≤ 1000000000) (hf : ¬ (W.low + 16 < q)) (hh : Wn.has W q = false) :
    Calls Try.prog 37 #[wdV W.low ad W.seen.length cap, .int .i64 q] w fun e w' => TkR w w' e (Wn.more W q, true, 0) := by
  have HM : Hid (∀ w', Gr w w' → Calls Try.prog 52 #[wdV W.low ad W.seen.length cap] w' fun e w2 => e = .returned (.int .i64 (mayE W)) ∧ Gr w' w2) := fun w' g => may_any W ad cap w' (h.gr g)
  obtain ⟨hlo, hup, hsn⟩ := (Wn.may_iff W).1 hm
  have hle := Wn.may_len hm
  have hnot : q ∉ W.seen := fun hx => by rw [(Wn.has_iff W q).2 (Or.inl hx)] at hh; cases hh
  have hql : ¬ (q ≤ W.low) := fun hx => by rw [(Wn.has_iff W q).2 (Or.inr ⟨h1, hx⟩)] at hh; cases hh
  have HC : Hid (∀ w', Gr w w' → Calls Try.prog 53 #[.slice ad W.seen.length cap] w' fun e w2 => ∃ v, e = .returned v ∧ w2.ownsRow w'.heap.size 3 1 v W.seen.length (intV W.seen) ∧ Gr w' w2) := fun w' g => copy_any W.seen ad cap w' (h.row.gr g) (by omega) h.non
  have HS : Hid (∀ w' ad' cap', IntsAt w' ad' W.seen → Calls Try.prog 54 #[.slice ad' W.seen.length cap', .int .i64 q] w' fun e w2 => e = .returned (.tuple #[.int .i64 (Wn.pos q W.seen : Nat), .bool false]) ∧ Gr w' w2) := fun w' ad' cap' hL => by
    have := search_any W.seen ad' cap' q w' hL (by omega) hup
    rw [decide_eq_false hnot] at this
    exact this
  have HI : Hid (∀ (base : Nat) (v : Value) (vb : Nat) (w' : World), w'.ownsRow base 3 1 v W.seen.length (intV W.seen) → w'.heap[vb]? = some (.cells #[.int .i64 q] 3 (0, 0)) → (∀ g, v.ownBlock = some g → vb ≠ g) → base ≤ w'.heap.size →
      Calls Try.prog 56 #[v, .int .i64 (Wn.pos q W.seen : Nat), .slice (some ⟨vb, 0, none⟩) 1 1] w' fun e w2 => InR base w' w2 e (Wn.ins q W.seen)) := fun base v vb w' ho hv hne hb => by
    have := ins_any base W.seen v (Wn.pos q W.seen) q vb 3 w' ho (by omega) (Wn.pos_le _ _) hv hne hb
    unfold put at this
    rw [Wn.pos_ins q W.seen hup hnot] at this
    exact this
  have hins : (Wn.ins q W.seen).length = W.seen.length + 1 := Wn.ins_len q _ hnot
  have HG : Hid (∀ (w' : World) (g cap' : Nat), IntsAt w' (some ⟨g, 0, none⟩) (Wn.ins q W.seen) → (Wn.ins q W.seen).length ≤ cap' → Calls Try.prog 55 #[.int .i64 W.low, .slice (some ⟨g, 0, none⟩) (Wn.ins q W.seen).length cap'] w' fun e w2 => gonR w' w2 e (some ⟨g, 0, none⟩) (Wn.more W q)) := fun w' g cap' hL hc => by
    have := goon_any W.low (Wn.ins q W.seen) (some ⟨g, 0, none⟩) cap' w' hL (by omega) hc hlo.1 (by omega) (fun n hn => by
      rcases (Wn.mem_ins q n W.seen).1 hn with rfl | hn
      · omega
      · have := hsn n hn; omega)
    rw [Wn.gon_more hm h1 (by omega) hh] at this
    exact this
  have HMr : Hid ((Wn.more W q).seen.length ≤ 9223372036854775807 ∧ -9223372036854775808 ≤ (Wn.more W q).low ∧ (Wn.more W q).low ≤ 9223372036854775807) := by
    have ht := Wn.more_took hm h1 (show q ≤ W.low + 16 by omega)
    have hl0 := ht.low0
    have hl1 : (Wn.more W q).low ≤ W.low + 17 := (Wn.up_spec (fun n => Wn.has W n || decide (n = q)) 17 W.low).2.1
    have hl2 : (Wn.more W q).seen.length ≤ 16 := by
      have := Wn.up_len (Wn.more W q).seen ((Wn.more W q).low + 1) (W.low + 16) ht.up (fun n hn => ⟨ht.ab n hn, by
        rcases (ht.has n).1 ((Wn.has_iff _ _).2 (Or.inl hn)) with hx | hx
        · exact (Wn.has_le hm hx).2
        · omega⟩)
      have := Wn.took_low ht
      omega
    exact ⟨by omega, by omega, by omega⟩
  have e0 : mayE W = 0 := by unfold mayE; rw [if_pos hm]
  rw [e0] at HM
  clear h hm e0 hh hup hsn hnot hins
  generalize Wn.more W q = M at *
  generalize hP : Wn.pos q W.seen = ps at *
  generalize Wn.ins q W.seen = il at *
  clear hP
  obtain ⟨low, l⟩ := W
  simp only at *
  go_enter Try.func37, Try.ntmps37
  go_wp2_with fail
  refine (HM.out _ (by repeat(first|exact Gr.r _|refine Gr.a ?_|refine Gr.d ?_|refine Gr.t ?_ (by assumption)))).mono ?_
  rintro e w1 ⟨rfl, hg1⟩
  have G1 : Hid (Gr w w1) := (Gr.refl w).alloc.alloc.trans hg1
  have B1 := Lib.hid ((Bx2.new (w.alloc (.cells #[.int .i64 low, .slice ad l.length cap] 37)) (.int .i64 0) (.slice none 0 0) 37 (w.heap.size + 1) (by simp)).gr hg1)
  have A1 := Lib.hid (((Bx2.new w (.int .i64 low) (.slice ad l.length cap) 37 w.heap.size rfl).gr (Gr.refl _).alloc).gr hg1)
  obtain ⟨d0, d1, _, _, _⟩ := A1.out
  have hs1 := B1.out.lt
  clear hg1 HM
  go_wp2_with fail
  refine (HC.out _ G1.out).mono ?_
  rintro e w2 ⟨v, rfl, ho, hg2⟩
  obtain ⟨ad2, cap2, rfl, hc2, hL2, hn2, hb2⟩ := own_intsN ho
  have O2 := Lib.hid ho
  have R2 := Lib.hid hL2
  have G2 := Lib.hid (G1.out.trans hg2)
  have B2 := Lib.hid (B1.out.gr hg2)
  have A2 := Lib.hid (A1.out.gr hg2)
  have S2 := hg2.size
  have N2 : Hid (∀ a, ad2 = some a → w1.heap.size ≤ a.block ∧ a.block < w2.heap.size) := hb2
  clear d0 d1 ho hg2 hL2 hn2 hb2 HC G1 B1 A1
  go_wp2_with fail
  refine (HS.out _ _ _ R2.out).mono ?_
  rintro e w3 ⟨rfl, hg3⟩
  have O3 := Lib.hid (row_gr O2.out hg3)
  have G3 := Lib.hid (G2.out.trans hg3)
  have B3 := Lib.hid (B2.out.gr hg3)
  have A3 := Lib.hid (A2.out.gr hg3)
  obtain ⟨d0, d1, _, _, dt⟩ := A3.out
  have S3 := hg3.size
  clear hg3 HS R2 G2 B2 A2 O2
  go_upto_region 9 with fail
  refine beginL 8 (fun w' => w'.cell? ⟨w.heap.size, 0, none⟩ = some (.int .i64 low)) (by kernel_rfl) (by first | with_reducible exact hHeld | with_reducible exact d0 | with_reducible exact k5 | with_reducible exact k4 | exact Gr.keep (by repeat(first|exact Gr.r _|refine Gr.a ?_|refine Gr.d ?_|refine Gr.t ?_ (by assumption))) d0) (fun hHeld => ?_)
  refine takeW 0 48 (v := ?_) rfl rfl (by decide) (by kernel_rfl) (by kernel_rfl) (by kernel_rfl) (fun _ _ _ h => h) (by rfl) ?_ (fun _ => hHeld) ?_
  rotate_left
  · (intro w; (try intro hSw); (try dsimp only at hSw); go_simp; try with_reducible rfl)
  simp only [Act.put, List.setIfInBounds_toArray, List.set_cons_zero, List.set_cons_succ]
  refine takeW 2 50 (v := ?_) rfl rfl (by decide) (by kernel_rfl) (by kernel_rfl) (by kernel_rfl) (fun _ _ _ h => h) (by rfl) ?_ (fun _ => hHeld) ?_
  rotate_left
  · (intro w; (try intro hSw); (try dsimp only at hSw); go_simp; try with_reducible rfl)
  simp only [Act.put, List.setIfInBounds_toArray, List.set_cons_zero, List.set_cons_succ]
  refine takeW 3 51 (v := ?_) rfl rfl (by decide) (by kernel_rfl) (by kernel_rfl) (by kernel_rfl) (fun _ _ _ h => h) (by rfl) ?_ (fun _ => hHeld) ?_
  rotate_left
  · (intro w; (try intro hSw); (try dsimp only at hSw); go_simp; try with_reducible rfl)
  simp only [Act.put, List.setIfInBounds_toArray, List.set_cons_zero, List.set_cons_succ]
  refine takeW 4 52 (v := ?_) rfl rfl (by decide) (by kernel_rfl) (by kernel_rfl) (by kernel_rfl) (fun _ _ _ h => h) (by rfl) ?_ (fun _ => hHeld) ?_
  rotate_left
  · (intro w; (try intro hSw); (try dsimp only at hSw); go_simp; try with_reducible rfl)
  simp only [Act.put, List.setIfInBounds_toArray, List.set_cons_zero, List.set_cons_succ]
  refine takeS 1 49 (v := ?_) rfl rfl (by decide) (by kernel_rfl) (by kernel_rfl) (by kernel_rfl) (by kernel_rfl) (by kernel_rfl) (fun _ _ _ h => h) (by rfl) ?_ hHeld ?_
  rotate_left
  · (intro w; (try intro hSw); (try dsimp only at hSw); go_simp; try with_reducible rfl)
  simp only [Act.put, List.setIfInBounds_toArray, List.set_cons_zero, List.set_cons_succ]
  refine stepC 5 (by kernel_rfl) rfl (fun K hK => ?_)
  go_simp
  refine hK.out _ _ (by first | with_reducible exact hHeld | with_reducible exact d0 | with_reducible exact k5 | with_reducible exact k4 | exact Gr.keep (by repeat(first|exact Gr.r _|refine Gr.a ?_|refine Gr.d ?_|refine Gr.t ?_ (by assumption))) d0) (fun hHeldN => ?_)
  clear hHeld hK K
  have hHeld := hHeldN
  clear hHeldN
  refine stepC 6 (by kernel_rfl) rfl (fun K hK => ?_)
  go_simp
  (refine (HI.out w1.heap.size _ w3.heap.size _ (row_gr O3.out (Gr.refl _).drew.alloc) (heap_new _ _) (fun g e => by cases ad2 with | none => cases e | some a => cases e; have := (N2.out a rfl).2; omega) (by simp; omega)).mono ?_; rintro e w4 ⟨g, cap4, rfl, hL4, hc4, hbg, hgl, hb4⟩; have k4 : w4.cell? ⟨w.heap.size, 0, none⟩ = some (.int .i64 low) := below_keep hb4 (p := ⟨w.heap.size, 0, none⟩) (by show w.heap.size < w1.heap.size; omega) (Gr.keep (Gr.refl _).drew.alloc d0))
  (try go_wp2_with fail)
  refine hK.out _ _ (by first | with_reducible exact hHeld | with_reducible exact d0 | with_reducible exact k5 | with_reducible exact k4 | exact Gr.keep (by repeat(first|exact Gr.r _|refine Gr.a ?_|refine Gr.d ?_|refine Gr.t ?_ (by assumption))) d0) (fun hHeldN => ?_)
  clear hHeld hK K
  have hHeld := hHeldN
  clear hHeldN
  have B4 := Lib.hid (Bx2.below (B3.out.gr (Gr.refl _).drew.alloc) hb4 (by omega))
  have G4 := Lib.hid (G3.out.drew.alloc.belowT hb4 (by omega))
  clear hb4 B3 G3 A3
  refine stepC 7 (by kernel_rfl) rfl (fun K hK => ?_)
  go_simp
  (refine (HG.out _ g cap4 hL4 hc4).mono ?_; rintro e w5 ⟨ad5, cap5, rfl, hL5, hc5, hn5, hb5, hg5⟩; have k5 : w5.cell? ⟨w.heap.size, 0, none⟩ = some (.int .i64 low) := hg5.keep k4)
  (try go_wp2_with fail)
  refine hK.out _ _ (by first | with_reducible exact hHeld | with_reducible exact d0 | with_reducible exact k5 | with_reducible exact k4 | exact Gr.keep (by repeat(first|exact Gr.r _|refine Gr.a ?_|refine Gr.d ?_|refine Gr.t ?_ (by assumption))) d0) (fun hHeldN => ?_)
  clear hHeld hK K
  have hHeld := hHeldN
  clear hHeldN
  have G5 := Lib.hid (G4.out.trans hg5)
  have N5 : Hid (∀ a, ad5 = some a → w.heap.size + 2 ≤ a.block ∧ a.block < w5.heap.size) := fun a e => by
    obtain ⟨a', e', hb'⟩ := hb5 a e
    cases e'
    have := hg5.size
    simp only at hb'
    omega
  have R5 := Lib.hid hL5
  have C5 := Lib.hid hn5
  obtain ⟨c0, c1, f0, f1, lt⟩ := B4.out.gr hg5
  clear hL4 hL5 hn5 hb5 hg5 B4 G4
  refine stepS (by kernel_rfl) rfl (by kernel_rfl) (fun K hK => ?_)
  go_simp
  refine hK.out _ _ ?_
  clear hHeld hK K
  refine takeW 9 5 (v := ?_) rfl rfl (by decide) (by kernel_rfl) (by kernel_rfl) (by kernel_rfl) (fun _ _ _ h => h) (by rfl) ?_ (fun h => listed_done (by kernel_rfl) h) ?_
  rotate_left
  · (intro w; (try intro hSw); (try dsimp only at hSw); go_simp; try with_reducible rfl)
  simp only [Act.put, List.setIfInBounds_toArray, List.set_cons_zero, List.set_cons_succ]
  refine takeW 10 6 (v := ?_) rfl rfl (by decide) (by kernel_rfl) (by kernel_rfl) (by kernel_rfl) (fun _ _ _ h => h) (by rfl) ?_ (fun h => listed_done (by kernel_rfl) h) ?_
  rotate_left
  · (intro w; (try intro hSw); (try dsimp only at hSw); go_simp; try with_reducible rfl)
  simp only [Act.put, List.setIfInBounds_toArray, List.set_cons_zero, List.set_cons_succ]
  refine doneL (by kernel_rfl) ?_ _
  go_wp2
  exact bodyPost_ret (v := .tuple #[wdV M.low ad5 M.seen.length cap5, .bool true, .int .i64 0]) (by simp [results, Try.results37, go_sem, *]) rfl
    ⟨ad5, cap5, rfl, ⟨(R5.out.set _ _ (fun a e => by have := N5.out a e; simp; omega)).set _ _ (fun a e => by have := N5.out a e; simp; omega), hc5, HMr.out.1, C5.out, HMr.out.2.1, HMr.out.2.2⟩, (fun a e => by have := N5.out a e; simp; omega), gr_set2 G5.out _ (by omega) _ _⟩
/- Take, whatever it is given -/
theorem take_any (W : Wd) (q : Int) (ad : Option Addr) (cap : Nat) (w : World) (h : WdAt w ad cap W) :
    Calls Try.prog 37 #[wdV W.low ad W.seen.length cap, .int .i64 q] w fun e w' => TkR w w' e (Wn.take W q) := by
  unfold Wn.take
  by_cases c : Wn.may W = true ∧ 1 ≤ q ∧ q ≤ 1000000000
  · rw [if_pos c]
    by_cases f : W.low + 16 < q
    · rw [if_pos f]; exact take_far W q ad cap w h c.1 c.2.1 c.2.2 f
    · rw [if_neg f]
      by_cases t : Wn.has W q = true
      · rw [if_pos t]; exact take_had W q ad cap w h c.1 c.2.1 c.2.2 f t
      · rw [if_neg t]; exact take_new W q ad cap w h c.1 c.2.1 c.2.2 f (by simpa using t)
  · rw [if_neg c]; exact take_bad W q ad cap w h c
end Go.Proofs.Ythfbpilfdfploaa
namespace Go.Proofs.Ythfbpilfdfploaa
open Go.RowKit
open Lk (St)
open Wn (Wd)

variable {Z : Nat → Prop}
/- copy of hops into a new row -/
theorem run_copy_hops {P : Program} (w : World) (dT sT ty elem : TypeId) (i : TypeInfo) (g c : Nat) (ad : Option Addr) (sc : Nat) (cur : Array Value) (t : TypeId) (L : List (Int × Int)) (hu : P.underlying dT = some (.slice elem)) (hi : P.info? elem = some i) (hs : i.size = 2)
    (hg : w.heap[g]? = some (.cells cur t (0, 0))) (hcur : cur.size = L.length * 2) (hL : HopsAt w ad L) :
    ∃ w', (Builtin.copy_ #[dT, sT] ty #[.slice (some ⟨g, 0, none⟩) L.length c, .slice ad L.length sc]).run P w = .ok (goInt L.length) w' ∧ HopsAt w' (some ⟨g, 0, none⟩) L ∧ GB g w w' := by
  cases L with
  | nil =>
    refine ⟨w, ?_, HopsAt.nil, GB.refl _ _⟩
    cases ad with
    | none => simp [Builtin.copy_, run_underlying hu, Builtin.lenOf, Builtin.firstCells, sizeOf, typeInfo, hi, storeCells]
    | some a => simp [Builtin.copy_, run_underlying hu, Builtin.lenOf, Builtin.firstCells, sizeOf, typeInfo, hi, storeCells, loadCells, loadCellsFrom]
  | cons x l =>
    obtain ⟨b, off, rfl, hb, _⟩ := hL 0 (by simp)
    have hl := run_loadCells_list (P := P) w ⟨b, off, none⟩ (hopV (x :: l)) hL.news
    have hln := hopV_len (x :: l)
    have hst := run_storeCells_at P g 0 t (hopV (x :: l)) 0 cur w hg (by omega) (hopV_one _)
    have hd : cur.toList.drop (hopV (x :: l)).length = [] := List.drop_eq_nil_of_le (by simp; omega)
    simp only [Nat.zero_add, List.take_zero, List.nil_append, hd, List.append_nil] at hst
    refine ⟨w.setRow g (hopV (x :: l)).toArray, ?_, ?_, ?_⟩
    · rw [hln, List.length_cons] at hl
      simp [Builtin.copy_, Builtin.lenOf, Builtin.firstCells, sizeOf, typeInfo, run_underlying hu, hi, hs, hl, hst]
    · have hgl : g < (w.setRow g (hopV (x :: l)).toArray).heap.size := (Array.getElem?_eq_some_iff.1 (setRow_heap w g cur (hopV (x :: l)).toArray t (0, 0) hg)).1
      intro j hj
      have hc := fun k => cell_setRow_same w g k cur (hopV (x :: l)).toArray t (0, 0) hg
      refine ⟨g, 0, rfl, hgl, ?_, ?_⟩
      · rw [Nat.zero_add, hc]
        have := flat_get (f := fun h : Int × Int => [Value.int .i64 h.1, Value.int .i64 h.2]) (c := 2) (fun _ => rfl) (x :: l) j hj 0 (by omega)
        rw [Nat.add_zero] at this
        simpa [hopV] using this
      · rw [Nat.zero_add, hc]
        have := flat_get (f := fun h : Int × Int => [Value.int .i64 h.1, Value.int .i64 h.2]) (c := 2) (fun _ => rfl) (x :: l) j hj 1 (by omega)
        simpa [hopV] using this
    · exact ⟨⟨rfl, rfl, rfl, by simp [World.setRow], fun k hk hne => setRow_other w g k _ (fun e => hne (by rw [e]))⟩⟩
theorem made_row {w : World} {base : Nat} {e : TypeId} {g n : Nat} {xs : List Value} (h : w.ownsRow base e 2 (.slice (some ⟨g, 0, none⟩) n n) n xs) : ∃ cur, w.heap[g]? = some (.cells cur e (0, 0)) ∧ cur.size = n * 2 := by
  obtain ⟨_, ⟨h, _⟩ | ⟨g', cap, cur, h, _, h1, _, _, h2, _⟩⟩ := h
  · cases h
  · cases h; exact ⟨cur, h1, h2⟩
set_option maxHeartbeats 8000000 in
set_option maxRecDepth 100000 in
theorem kCopied_any (m : Mn) (w : World) (hZ : Frs Z w) (h : MnAt Z w m) (hn : m.x.L.length ≤ 1000) (hd : m.x.d.size ≤ 1000) :
    Calls Try.prog 38 #[m.v] w fun e w' => CnR Z m w e w' := by
  obtain ⟨⟨k, r, n, L, d, y⟩, ad, cap⟩ := m
  obtain ⟨i0, hi, hz0, hz1, hz2⟩ := info_parts infoHop
  have HS : Hid (∀ w', Calls Try.prog 57 #[.string d] w' fun e w2 => e = .returned (.string d) ∧ Gr w' w2) := fun w' => sclone_any d w' (by simp only at hd; omega)
  have HL : Hid (L.length ≤ 9223372036854775807 ∧ d.size ≤ 9223372036854775807) := ⟨h.hl, h.hd⟩
  have HH := Lib.hid h.hp
  clear h
  dsimp only [Mn.v] at *
  have hll : Hid (∀ w' a c, HopsAt w' a L → L.length ≤ c → (∀ p, a = some p → w.heap.size ≤ p.block) → MnAt Z w' ⟨⟨k, r, n, L, d, y⟩, a, c⟩) := fun w' a c h1 h2 h3 => ⟨h1, HL.out.1, h2, HL.out.2, fun _ p e => hZ _ (h3 p e)⟩
  unfold CnR
  dsimp only [Mn.v]
  have hbt : i0.bytes * L.length ≤ 281474976710656 := by rw [hz2]; omega
  have hml : L.length ≤ maxLen := by unfold maxLen; omega
  have B0 := Cs.new w [.int .i64 k, .int .i64 r, .int .i64 n, .slice ad L.length cap, .string d, .int .i64 y] 26 _ rfl
  have D0 := Cs.new (w.alloc (.cells #[.int .i64 k, .int .i64 r, .int .i64 n, .slice ad L.length cap, .string d, .int .i64 y] 26)) [.int .i64 0, .int .i64 0, .int .i64 0, .slice none 0 0, .string ⟨#[]⟩, .int .i64 0] 26 (w.heap.size + 1) (by simp)
  obtain ⟨W2, hW2⟩ : ∃ W2, W2 = (w.alloc (.cells #[.int .i64 k, .int .i64 r, .int .i64 n, .slice ad L.length cap, .string d, .int .i64 y] 26)).alloc (.cells #[.int .i64 0, .int .i64 0, .int .i64 0, .slice none 0 0, .string ⟨#[]⟩, .int .i64 0] 26) := ⟨_, rfl⟩
  have G2 : Hid (Gr w W2) := by show Gr w W2; rw [hW2]; exact (Gr.refl _).alloc.alloc
  have B2 : Cs W2 w.heap.size [.int .i64 k, .int .i64 r, .int .i64 n, .slice ad L.length cap, .string d, .int .i64 y] := by rw [hW2]; exact B0.alloc
  have D2 : Cs W2 (w.heap.size + 1) [.int .i64 0, .int .i64 0, .int .i64 0, .slice none 0 0, .string ⟨#[]⟩, .int .i64 0] := by rw [hW2]; exact D0
  have hs2 : W2.heap.size = w.heap.size + 2 := by rw [hW2]; simp
  subst hW2
  clear B0 D0 hn hd HL
  go_enter Try.func38, Try.ntmps38
  go_wp2_with (first
    | (refine wpList_make_full _ rfl _ _ 22 rfl w.heap.size 83 i0 (.agg #[.int .i64 0, .int .i64 0]) 2 Try.underlying22 hi hz0 hz1 .i64 .i64 (L.length : Int) (L.length : Int) L.length rfl rfl rfl rfl hbt hml (by simp; omega) ?_)
    | fail)
  intro w3 hown hgrow
  obtain ⟨cur, hcur, hcs⟩ := made_row hown
  have hg3 := (Gr.refl _).grown hgrow (fun k e => by cases e)
  have HG3 : Hid (Gr w w3) := G2.out.trans hg3
  obtain ⟨w4, hrun, hh4, hgb4⟩ := run_copy_hops (P := Try.prog) w3 22 22 3 83 i0 (w.heap.size + 2) L.length ad cap cur 83 L Try.underlying22 hi hz1 hcur hcs (HH.out.gr HG3.out)
  have HB3 := Lib.hid (B2.gr hg3)
  have HD3 := Lib.hid (D2.gr hg3)
  have b3 := HB3.out.at_ 3 _ rfl
  have bl := HB3.out.lt
  have HG4 : Hid (Gr w w4) := HG3.out.gb hgb4 (by omega)
  have hb4 := hgb4.cs HB3.out (by omega)
  have hd4 := hgb4.cs HD3.out (by omega)
  have HB4 := Lib.hid (hb4.set 3 (by simp) (.slice (some ⟨w.heap.size + 2, 0, none⟩) L.length L.length))
  have HD4 := Lib.hid (hd4.far ⟨w.heap.size, 3, none⟩ (.slice (some ⟨w.heap.size + 2, 0, none⟩) L.length L.length) (by simp))
  have HH4 := Lib.hid (hh4.set ⟨w.heap.size, 3, none⟩ (.slice (some ⟨w.heap.size + 2, 0, none⟩) L.length L.length) (fun a e => by cases e; simp))
  have c3 := hb4.at_ 3 _ rfl
  have cf3 := hb4.fz 3 (by simp)
  have cl := hb4.lt
  have c4 := HB4.out.at_ 4 _ rfl
  clear hh4 hgb4 hb4 hd4 HG3 HB3 HD3 hown hgrow hcur hcs hg3 B2 D2 G2 hs2 HH hbt hml hi hz0 hz1 hz2
  go_wp2_with fail
  refine (HS.out _).mono ?_
  rintro e5 w5 ⟨rfl, hg5⟩
  have G5 : Hid (Gr w w5) := (HG4.out.set _ (by simp) _).trans hg5
  have HB5 := Lib.hid (HB4.out.gr hg5)
  have HD5 := Lib.hid (HD4.out.gr hg5)
  have HH5 := Lib.hid (HH4.out.gr hg5)
  have x0 := HB5.out.at_ 0 _ rfl
  have x1 := HB5.out.at_ 1 _ rfl
  have x2 := HB5.out.at_ 2 _ rfl
  have x3 := HB5.out.at_ 3 _ rfl
  have x4 := HB5.out.at_ 4 _ rfl
  have x5 := HB5.out.at_ 5 _ rfl
  have xf0 := HB5.out.fz 0 (by simp)
  have xf1 := HB5.out.fz 1 (by simp)
  have xf2 := HB5.out.fz 2 (by simp)
  have xf3 := HB5.out.fz 3 (by simp)
  have xf4 := HB5.out.fz 4 (by simp)
  have xf5 := HB5.out.fz 5 (by simp)
  have xlt := HB5.out.lt
  have z0 := HD5.out.at_ 0 _ rfl
  have z1 := HD5.out.at_ 1 _ rfl
  have z2 := HD5.out.at_ 2 _ rfl
  have z3 := HD5.out.at_ 3 _ rfl
  have z4 := HD5.out.at_ 4 _ rfl
  have z5 := HD5.out.at_ 5 _ rfl
  have zf0 := HD5.out.fz 0 (by simp)
  have zf1 := HD5.out.fz 1 (by simp)
  have zf2 := HD5.out.fz 2 (by simp)
  have zf3 := HD5.out.fz 3 (by simp)
  have zf4 := HD5.out.fz 4 (by simp)
  have zf5 := HD5.out.fz 5 (by simp)
  have zlt := HD5.out.lt
  have hs5 := G5.out.size
  clear hg5 HB4 HD4 HH4 HG4 c3 cf3 cl c4
  go_wp2
  refine bodyPost_ret (v := .agg #[.int .i64 k, .int .i64 r, .int .i64 n, .slice (some ⟨w.heap.size + 2, 0, none⟩) L.length L.length, .string d, .int .i64 y]) (by simp [results, Try.results38, go_sem, *]) rfl ?_
  refine ⟨some ⟨w.heap.size + 2, 0, none⟩, L.length, rfl, ?_, fun p e => by cases e; simp, ?_⟩
  · refine hll.out _ _ _ ?_ (Nat.le_refl _) (fun p e => by cases e; simp)
    repeat' (first | with_reducible exact HH5.out | with_reducible refine HopsAt.set ?_ _ _ ?_)
    all_goals (intro a e; cases e; simp)
  · repeat' (first | with_reducible exact G5.out | with_reducible refine Gr.set ?_ _ ?_ _)
    all_goals (simp; try omega)
end Go.Proofs.Ythfbpilfdfploaa
namespace Go.Proofs.Ythfbpilfdfploaa
open Go.RowKit

structure Ma where
  k : Int
  now : Int
  m : Mn
  x : Mf
def aC (z : Ma) : List Value := [.int .i64 z.k, .int .i64 z.now, .int .i64 z.m.x.k, .int .i64 z.m.x.r, .int .i64 z.m.x.n, .slice z.m.ad z.m.x.L.length z.m.cap, .string z.m.x.d, .int .i64 z.m.x.y, .int .i64 z.x.f, .int .i64 z.x.t, .int .i64 z.x.e, .int .i64 z.x.s, .int .i64 z.x.a, .int .i64 z.x.c, .int .i64 z.x.m.x.k, .int .i64 z.x.m.x.r, .int .i64 z.x.m.x.n, .slice z.x.m.ad z.x.m.x.L.length z.x.m.cap, .string z.x.m.x.d, .int .i64 z.x.m.x.y]
theorem aC_len (z : Ma) : (aC z).length = 20 := rfl
structure ActsAt (w : World) (ad : Option Addr) (D : List Ma) : Prop where
  row : RowAt aC w ad D
  nt : ∀ z ∈ D, MnAt Any w z.m ∧ MnAt Any w z.x.m
theorem ActsRow.at {w : World} {ad : Option Addr} {D : List Ma} (h : RowAt aC w ad D) (k : Nat) (hk : k < D.length) : ∃ b off, ad = some ⟨b, off, none⟩ ∧ b < w.heap.size ∧ w.cell? ⟨b, off + k * 20, none⟩ = some (.int .i64 D[k].k) ∧ w.cell? ⟨b, off + k * 20 + 1, none⟩ = some (.int .i64 D[k].now) ∧ w.cell? ⟨b, off + k * 20 + 2, none⟩ = some (.int .i64 D[k].m.x.k) ∧ w.cell? ⟨b, off + k * 20 + 3, none⟩ = some (.int .i64 D[k].m.x.r) ∧ w.cell? ⟨b, off + k * 20 + 4, none⟩ = some (.int .i64 D[k].m.x.n) ∧ w.cell? ⟨b, off + k * 20 + 5, none⟩ = some (.slice D[k].m.ad D[k].m.x.L.length D[k].m.cap) ∧ w.cell? ⟨b, off + k * 20 + 6, none⟩ = some (.string D[k].m.x.d) ∧ w.cell? ⟨b, off + k * 20 + 7, none⟩ = some (.int .i64 D[k].m.x.y) ∧ w.cell? ⟨b, off + k * 20 + 8, none⟩ = some (.int .i64 D[k].x.f) ∧ w.cell? ⟨b, off + k * 20 + 9, none⟩ = some (.int .i64 D[k].x.t) ∧ w.cell? ⟨b, off + k * 20 + 10, none⟩ = some (.int .i64 D[k].x.e) ∧ w.cell? ⟨b, off + k * 20 + 11, none⟩ = some (.int .i64 D[k].x.s) ∧ w.cell? ⟨b, off + k * 20 + 12, none⟩ = some (.int .i64 D[k].x.a) ∧ w.cell? ⟨b, off + k * 20 + 13, none⟩ = some (.int .i64 D[k].x.c) ∧ w.cell? ⟨b, off + k * 20 + 14, none⟩ = some (.int .i64 D[k].x.m.x.k) ∧ w.cell? ⟨b, off + k * 20 + 15, none⟩ = some (.int .i64 D[k].x.m.x.r) ∧ w.cell? ⟨b, off + k * 20 + 16, none⟩ = some (.int .i64 D[k].x.m.x.n) ∧ w.cell? ⟨b, off + k * 20 + 17, none⟩ = some (.slice D[k].x.m.ad D[k].x.m.x.L.length D[k].x.m.cap) ∧ w.cell? ⟨b, off + k * 20 + 18, none⟩ = some (.string D[k].x.m.x.d) ∧ w.cell? ⟨b, off + k * 20 + 19, none⟩ = some (.int .i64 D[k].x.m.x.y) := by
  have g := fun i hi => flat_get aC_len D k hk i hi
  obtain ⟨b, off, rfl, hb, c0⟩ := h _ _ (g 0 (by omega))
  obtain ⟨_, _, e, _, c1⟩ := h _ _ (g 1 (by omega)); cases e
  obtain ⟨_, _, e, _, c2⟩ := h _ _ (g 2 (by omega)); cases e
  obtain ⟨_, _, e, _, c3⟩ := h _ _ (g 3 (by omega)); cases e
  obtain ⟨_, _, e, _, c4⟩ := h _ _ (g 4 (by omega)); cases e
  obtain ⟨_, _, e, _, c5⟩ := h _ _ (g 5 (by omega)); cases e
  obtain ⟨_, _, e, _, c6⟩ := h _ _ (g 6 (by omega)); cases e
  obtain ⟨_, _, e, _, c7⟩ := h _ _ (g 7 (by omega)); cases e
  obtain ⟨_, _, e, _, c8⟩ := h _ _ (g 8 (by omega)); cases e
  obtain ⟨_, _, e, _, c9⟩ := h _ _ (g 9 (by omega)); cases e
  obtain ⟨_, _, e, _, c10⟩ := h _ _ (g 10 (by omega)); cases e
  obtain ⟨_, _, e, _, c11⟩ := h _ _ (g 11 (by omega)); cases e
  obtain ⟨_, _, e, _, c12⟩ := h _ _ (g 12 (by omega)); cases e
  obtain ⟨_, _, e, _, c13⟩ := h _ _ (g 13 (by omega)); cases e
  obtain ⟨_, _, e, _, c14⟩ := h _ _ (g 14 (by omega)); cases e
  obtain ⟨_, _, e, _, c15⟩ := h _ _ (g 15 (by omega)); cases e
  obtain ⟨_, _, e, _, c16⟩ := h _ _ (g 16 (by omega)); cases e
  obtain ⟨_, _, e, _, c17⟩ := h _ _ (g 17 (by omega)); cases e
  obtain ⟨_, _, e, _, c18⟩ := h _ _ (g 18 (by omega)); cases e
  obtain ⟨_, _, e, _, c19⟩ := h _ _ (g 19 (by omega)); cases e
  rw [← Nat.add_assoc] at c1 c2 c3 c4 c5 c6 c7 c8 c9 c10 c11 c12 c13 c14 c15 c16 c17 c18 c19
  exact ⟨b, off, rfl, hb, c0, c1, c2, c3, c4, c5, c6, c7, c8, c9, c10, c11, c12, c13, c14, c15, c16, c17, c18, c19⟩
/- what few answers: yes or no -/
def FewR (w : World) (e : Ending) (w' : World) : Prop := ∃ b, e = .returned (.bool b) ∧ Gr w w'
end Go.Proofs.Ythfbpilfdfploaa
