
/- For all items and numbers the law OutboxAnswered answers true: what is answered is there no more, what is left stays as it is, all others can be pushed again. -/
import Derived.Test.YtilkfgpcibdikaaOdA
import Derived.Test.YtilkfgpcibdikaaOpenV
import Derived.Test.YtilkfgpcibdikaaOcD
namespace Go.Proofs.Ytilkfgpcibdikaa
open Go.ChangeShapes Go.WideShapes Go.ChangeAt Go.RowKit

/- one item of a row, as a row of its own -/
theorem ItsAt.one {w : World} {b off : Nat} {D : List Mi} (h : ItsAt w (some ⟨b, off, none⟩) D) (k : Nat) (hk : k < D.length) : ItsAt w (some ⟨b, off + k * 9, none⟩) [D[k]] := by
  refine ⟨?_, fun x hx => ?_⟩
  · intro j u hu
    rw [List.flatMap_cons, List.flatMap_nil, List.append_nil] at hu
    have hj : j < 9 := (List.getElem?_eq_some_iff.1 hu).1
    obtain ⟨b', off', e, hb, hc⟩ := h.row (k * 9 + j) u (by rw [flat_get iC_len D k hk j hj]; exact hu)
    cases e
    exact ⟨b, off + k * 9, rfl, hb, by rw [Nat.add_assoc]; exact hc⟩
  · rw [List.mem_singleton] at hx
    subst hx
    exact h.nt _ (List.getElem_mem hk)
/- what is left of the first k -/
def lft (low : Int) (l : List (Ox.It Nx)) (k : Nat) : List (Ox.It Nx) := (l.take k).filter fun x => decide (low < x.q)
theorem lft_up {low : Int} {l : List (Ox.It Nx)} {k : Nat} (h : k < l.length) (hq : low < l[k].q) : (lft low l (k + 1)).length = (lft low l k).length + 1 := by
  unfold lft
  rw [List.take_succ_eq_append_getElem h, List.filter_append, List.filter_cons, if_pos (by simpa using hq), List.length_append]; rfl
theorem lft_same {low : Int} {l : List (Ox.It Nx)} {k : Nat} (h : k < l.length) (hq : ¬ low < l[k].q) : lft low l (k + 1) = lft low l k := by
  unfold lft
  rw [List.take_succ_eq_append_getElem h, List.filter_append, List.filter_cons, if_neg (by simpa using hq)]; simp
theorem lft_get {low : Int} {l : List (Ox.It Nx)} {k : Nat} (h : k < l.length) (hq : low < l[k].q) : (l.filter fun x => decide (low < x.q))[(lft low l k).length]? = some l[k] := by
  have e : l = l.take k ++ (l[k] :: l.drop (k + 1)) := by rw [← List.drop_eq_getElem_cons h, List.take_append_drop]
  have e2 : (l.filter fun x => decide (low < x.q)) = lft low l k ++ (l[k] :: (l.drop (k + 1)).filter fun x => decide (low < x.q)) := by
    conv => lhs; rw [e]
    rw [List.filter_append, List.filter_cons, if_pos (by simpa using hq)]; rfl
  rw [e2, List.getElem?_append_right (Nat.le_refl _), Nat.sub_self]; rfl
theorem lft_all (low : Int) (l : List (Ox.It Nx)) : lft low l l.length = l.filter fun x => decide (low < x.q) := by
  unfold lft; rw [List.take_length]
theorem gone_has {l : List (Ox.It Nx)} {low : Int} (h : Ox.mayB okN l = true) {k : Nat} (hk : k < l.length) (hq : ¬ low < l[k].q) : Ox.hasB okN (l.filter fun x => decide (low < x.q)) l[k].n = false := by
  have hm := (Ox.mayB_iff _ _).1 h
  unfold Ox.hasB
  cases e : Ox.among (l.filter fun x => decide (low < x.q)) l[k].n with
  | false => simp
  | true =>
    obtain ⟨y, hy, hn⟩ := (Ox.among_iff _ _).1 e
    obtain ⟨hy1, hy2⟩ := List.mem_filter.1 hy
    obtain ⟨j, hj, rfl⟩ := List.getElem_of_mem hy1
    have hp := List.pairwise_iff_getElem.1 hm.ap
    have hjk : j ≠ k := fun c => by subst c; exact hq (by simpa using hy2)
    rcases Nat.lt_or_gt_of_ne hjk with c | c
    · exact absurd hn (hp j k hj hk c).2
    · exact absurd hn.symm (hp k j hk hj c).2
theorem left_may {l : List (Ox.It Nx)} {low : Int} (h : Ox.mayB okN l = true) : Ox.mayB okN (l.filter fun x => decide (low < x.q)) = true := (Ox.mayB_iff _ _).2 (Ox.ans_may ((Ox.mayB_iff _ _).1 h) low)
theorem anew7_may {l : List (Ox.It Nx)} (h : Ox.mayB okN l = true) : Ox.mayB okN (Ox.num 7 1 l) = true := (Ox.mayB_iff _ _).2 (Ox.anew_may ((Ox.mayB_iff _ _).1 h) (by decide))
theorem left_has {l : List (Ox.It Nx)} {p : Nx} (h : Ox.mayB okN l = true) (hp : ∃ x ∈ l, x.n = p) : Ox.hasB okN l p = true := by
  unfold Ox.hasB
  rw [h, (Ox.among_iff _ _).2 hp]; rfl

set_option maxHeartbeats 16000000 in
set_option maxRecDepth 100000 in
theorem outboxAnswered_walk (D : List Mi) (ad : Option Addr) (cap : Nat) (low : Int) (w : World) (hD : ItsAt w ad D) (hc : D.length ≤ cap) (hn : D.length ≤ 9223372036854775807) :
    Calls Try.prog 6 #[.slice ad D.length cap, .int .i64 low] w fun e w' => e = .returned (.bool true) ∧ Gr w w' := by
  have HA : Hid (∀ w', Calls Try.prog 8 #[] w' fun e w2 => AwR w' e w2) := fun w' => awake_any w'
  have HF : Hid (∀ w', Gr w w' → Calls Try.prog 7 #[.slice ad D.length cap, .slice none 0 0] w' fun e w2 => FewR w' e w2) := fun w' g => few_any D [] ad cap none 0 w' (hD.gr g).row RowAt.nil
  have HM : Hid (∀ w', Gr w w' → Calls Try.prog 13 #[.slice ad D.length cap] w' fun e w2 => e = .returned (.int .i64 (mayE D)) ∧ Gr w' w2) := fun w' g => may_any D ad cap w' (hD.gr g) hc hn
  go_enter Try.func6, Try.ntmps6
  go_wp2_with fail
  refine (HF.out _ ?_).mono ?_
  · exact (by repeat (first | exact Gr.refl _ | refine Gr.alloc ?_ | refine Gr.drew ?_ | refine Gr.trans ?_ (by assumption)))
  rintro e1 w1 ⟨b, rfl, hg1⟩
  have HG1 : Hid (Gr w w1) := (by repeat (first | exact Gr.refl _ | refine Gr.alloc ?_ | refine Gr.drew ?_ | refine Gr.trans ?_ (by assumption)))
  clear hg1 HF
  cases b with
  | false =>
    clear hD
    go_wp2_with fail
    refine (HA.out _).mono ?_
    rintro e2 w2 ⟨rfl, hg2⟩
    go_wp2
    go_ret
    exact ⟨rfl, HG1.out.trans hg2⟩
  | true =>
    cases hm : Ox.mayB okN (its D) with
    | false =>
      rw [mayE_bad hm] at HM
      clear hD hm
      go_wp2_with fail
      refine (HM.out _ HG1.out).mono ?_
      rintro e2 w2 ⟨rfl, hg2⟩
      have HG2 := Lib.hid (HG1.out.trans hg2)
      clear hg2
      go_wp2_with fail
      refine (HA.out _).mono ?_
      rintro e3 w3 ⟨rfl, hg3⟩
      have HG3 := Lib.hid (HG2.out.trans hg3)
      go_wp2
      go_ret
      exact ⟨rfl, HG3.out⟩
    | true =>
      rw [mayE_ok hm] at HM
      have hl12 := mayB_len hm
      have HMd := Lib.hid hm
      have HDa := Lib.hid hD
      have HAn : Hid (∀ w', Gr w w' → Calls Try.prog 18 #[.slice ad D.length cap, .int .i64 low] w' fun e w2 => BxR ((its D).filter fun x => decide (low < x.q)) w' e w2) := fun w' g => by
        have := answered_any D low ad cap w' (hD.gr g) hc hn
        rw [show Ox.ans okN (its D) low = (its D).filter fun x => decide (low < x.q) by unfold Ox.ans; rw [if_pos hm]] at this
        exact this
      have HH : Hid (∀ m w', MnAt w' m → Gr w w' → Calls Try.prog 11 #[.slice ad D.length cap, m.v] w' fun e w2 => e = .returned (.bool (Ox.hasB okN (its D) (pk m.x))) ∧ Gr w' w2) := fun m w' hmn g => hasO_any D m ad cap w' (hD.gr g) hc hn hmn
      clear hD hm
      unfold BxR at HAn
      go_wp2_with fail
      refine (HM.out _ HG1.out).mono ?_
      rintro e2 w2 ⟨rfl, hg2⟩
      have HG2 := Lib.hid (HG1.out.trans hg2)
      clear hg2 HG1 HM
      go_wp2_with fail
      refine (HAn.out _ HG2.out).mono ?_
      rintro e3 w3 ⟨a, c, E, rfl, hb, he, hg3⟩
      obtain ⟨_, _, ee, hEc, hcm, hit, _⟩ := hb.at
      cases ee
      have HE := Lib.hid he
      have HI := Lib.hid hit
      have HG3 := Lib.hid (HG2.out.trans hg3)
      have HEm : Hid (Ox.mayB okN (its E) = true) := by show _ = _; rw [he]; exact left_may HMd.out
      have hE12 := mayB_len HEm.out
      have HMe : Hid (∀ w', Gr w3 w' → Calls Try.prog 13 #[.slice a E.length c] w' fun e w2 => e = .returned (.int .i64 0) ∧ Gr w' w2) := fun w' g => by
        have := may_any E a c w' (HI.out.gr g) hEc (by omega)
        rw [mayE_ok HEm.out] at this
        exact this
      have HHe : Hid (∀ m w', MnAt w' m → Gr w3 w' → Calls Try.prog 11 #[.slice a E.length c, m.v] w' fun e w2 => e = .returned (.bool (Ox.hasB okN ((its D).filter fun x => decide (low < x.q)) (pk m.x))) ∧ Gr w' w2) := fun m w' hmn g => by
        have := hasO_any E m a c w' (HI.out.gr g) hEc (by omega) hmn
        rw [HE.out] at this
        exact this
      have HAw : Hid (∀ w', Gr w3 w' → Calls Try.prog 20 #[.slice a E.length c, .int .i64 7] w' fun e w2 => ∃ a7 c7 F, e = .returned (.slice a7 F.length c7) ∧ Bxs w2 w'.heap.size (.slice a7 F.length c7) F ∧ its F = Ox.num 7 1 (its E) ∧ Gr w' w2) := fun w' g => by
        have := anew_any E 7 a c w' (HI.out.gr g) hEc (by omega)
        rw [show Ox.anew okN (its E) 7 = Ox.num 7 1 (its E) by unfold Ox.anew; rw [if_pos ⟨HEm.out, by decide⟩]] at this
        exact this
      have HEl : Hid (E.length = (lft low (its D) D.length).length) := by
        show _ = _
        have := congrArg List.length HE.out
        rw [its_len] at this
        rw [this, ← its_len D, lft_all]
      clear hb he hit hg3 HAn HG2
      go_wp2
      go_loopw [6, 7] (fun s6 s7 wr => ∃ k n : Nat, s7 = .int .i64 k ∧ s6 = .int .i64 n ∧ k ≤ D.length ∧ n = (lft low (its D) k).length ∧ Gr w3 wr) (fun _ s7 _ => D.length - (intOf s7).toNat)
      case atStart => exact ⟨0, 0, rfl, rfl, Nat.zero_le _, rfl, Gr.refl _⟩
      case round =>
        obtain ⟨k, n, rfl, rfl, hk, hnl, hg'⟩ := hrel
        have HNl := Lib.hid hnl
        have HG' := Lib.hid hg'
        have hg : Gr w wr := HG3.out.trans hg'
        have HG := Lib.hid hg
        clear hnl
        by_cases hlt : k < D.length
        · have hki : (k : Int) < (D.length : Int) := by omega
          have hk0 : (0 : Int) ≤ (k : Int) := by omega
          obtain ⟨b, off, rfl, hbl, d0, d1, d2, d3, d4, d5, d6, d7, d8⟩ := ItsRow.at HDa.out.row k hlt
          have d0 := hg.keep d0
          have d3 := hg.keep d3
          have d4 := hg.keep d4
          have d5 := hg.keep d5
          have d6 := hg.keep d6
          have d7 := hg.keep d7
          have d8 := hg.keep d8
          have hbw : b < wr.heap.size := Nat.lt_of_lt_of_le hbl hg.size
          have hkl : k < (its D).length := by rw [its_len]; exact hlt
          have hkq : (its D)[k] = D[k].it := its_get D k hlt
          by_cases hq : low < D[k].q
          · have hq' : low < (its D)[k].q := by rw [hkq]; exact hq
            have hup := lft_up hkl hq'
            have hget := lft_get hkl hq'
            rw [← HNl.out] at hup hget
            have hnE : n < E.length := by
              rw [← HE.out] at hget
              have := (List.getElem?_eq_some_iff.1 hget).1
              rwa [its_len] at this
            have hsame : its [D[k]] = its [E[n]] := by
              rw [← HE.out, its_get? E n hnE, hkq] at hget
              have := Option.some.inj hget
              simp [its, this]
            obtain ⟨b2, off2, rfl, hb2l, _⟩ := ItsRow.at HI.out.row n hnE
            have HS : Hid (∀ w' cx cy, Gr wr w' → Calls Try.prog 15 #[.slice (some ⟨b, off + k * 9, none⟩) 1 cx, .slice (some ⟨b2, off2 + n * 9, none⟩) 1 cy] w' fun e w2 => e = .returned (.bool true) ∧ Gr w' w2) := fun w' cx cy g => by
              have := rSame_yes [D[k]] [E[n]] (some ⟨b, off + k * 9, none⟩) cx (some ⟨b2, off2 + n * 9, none⟩) cy w' ((HDa.out.gr (hg.trans g)).one k hlt) ((HI.out.gr (hg'.trans g)).one n hnE) (by simp) hsame
              exact this
            have hni : (n : Int) < (E.length : Int) := by omega
            have hn0 : (0 : Int) ≤ (n : Int) := by omega
            have hni2 : ¬ (E.length : Int) ≤ (n : Int) := by omega
            have hni3 : ¬ E.length ≤ n := by omega
            have hni4 : decide (E.length ≤ n) = false := decide_eq_false hni3
            have hni5 : decide ((E.length : Int) ≤ (n : Int)) = false := decide_eq_false hni2
            have hkc2 : k + 1 ≤ cap := by omega
            have hnc2 : n + 1 ≤ c := by omega
            have hkc : (k : Int) + 1 ≤ (cap : Int) := by omega
            have hnc : (n : Int) + 1 ≤ (c : Int) := by omega
            have hk2 : (0 : Int) ≤ (k : Int) + 1 := by omega
            have hn2 : (0 : Int) ≤ (n : Int) + 1 := by omega
            have hwk : IntKind.i64.wrap ((k : Int) + 1) = (k : Int) + 1 := by rw [IntKind.wrap_i64]; omega
            have hwn : IntKind.i64.wrap ((n : Int) + 1) = (n : Int) + 1 := by rw [IntKind.wrap_i64]; omega
            have htk : ((k : Int) + 1).toNat = k + 1 := by omega
            have htn : ((n : Int) + 1).toNat = n + 1 := by omega
            have hsk : k + 1 - k = 1 := by omega
            have hsn : n + 1 - n = 1 := by omega
            have hck : ¬ cap = k := by omega
            have hcn : ¬ c = n := by omega
            have HUp := Lib.hid hup
            clear hg hg' d3 d4 d5 d6 d7 d8 hget hsame hup hkq hq' HNl d1 d2
            generalize D[k].q = q at *
            clear hkl
            go_wp2_with fail
            refine wp_region_held_drew (S := (fun w' => Gr wr w')) (by kernel_rfl) (by exact (by repeat (first | exact Gr.refl _ | refine Gr.alloc ?_ | refine Gr.drew ?_ | refine Gr.trans ?_ (by assumption)))) (fun hHeld => ?_)
            refine take_yes 0 35 (v := ?_) rfl rfl (by kernel_rfl) (by kernel_rfl) (by kernel_rfl) (fun _ _ _ h => h) (by rfl) ?_ hHeld ?_
            rotate_left
            · (intro w hSw; (try dsimp only at hSw); go_simp; try with_reducible rfl)
            simp only [Act.put, List.setIfInBounds_toArray, List.set_cons_zero, List.set_cons_succ]
            refine take_yes 1 36 (v := ?_) rfl rfl (by kernel_rfl) (by kernel_rfl) (by kernel_rfl) (fun _ _ _ h => h) (by rfl) ?_ hHeld ?_
            rotate_left
            · (intro w hSw; (try dsimp only at hSw); go_simp; try with_reducible rfl)
            simp only [Act.put, List.setIfInBounds_toArray, List.set_cons_zero, List.set_cons_succ]
            refine take_yes 2 37 (v := ?_) rfl rfl (by kernel_rfl) (by kernel_rfl) (by kernel_rfl) (fun _ _ _ h => h) (by rfl) ?_ hHeld ?_
            rotate_left
            · (intro w hSw; (try dsimp only at hSw); go_simp; try with_reducible rfl)
            simp only [Act.put, List.setIfInBounds_toArray, List.set_cons_zero, List.set_cons_succ]
            refine take_yes 3 38 (v := ?_) rfl rfl (by kernel_rfl) (by kernel_rfl) (by kernel_rfl) (fun _ _ _ h => h) (by rfl) ?_ hHeld ?_
            rotate_left
            · (intro w hSw; (try dsimp only at hSw); go_simp; try with_reducible rfl)
            simp only [Act.put, List.setIfInBounds_toArray, List.set_cons_zero, List.set_cons_succ]
            refine take_yes 4 39 (v := ?_) rfl rfl (by kernel_rfl) (by kernel_rfl) (by kernel_rfl) (fun _ _ _ h => h) (by rfl) ?_ hHeld ?_
            rotate_left
            · (intro w hSw; (try dsimp only at hSw); go_simp; try with_reducible rfl)
            simp only [Act.put, List.setIfInBounds_toArray, List.set_cons_zero, List.set_cons_succ]
            refine take_yes 5 40 (v := ?_) rfl rfl (by kernel_rfl) (by kernel_rfl) (by kernel_rfl) (fun _ _ _ h => h) (by rfl) ?_ hHeld ?_
            rotate_left
            · (intro w hSw; (try dsimp only at hSw); go_simp; try with_reducible rfl)
            simp only [Act.put, List.setIfInBounds_toArray, List.set_cons_zero, List.set_cons_succ]
            refine take_yes 6 41 (v := ?_) rfl rfl (by kernel_rfl) (by kernel_rfl) (by kernel_rfl) (fun _ _ _ h => h) (by rfl) ?_ hHeld ?_
            rotate_left
            · (intro w hSw; (try dsimp only at hSw); go_simp; try with_reducible rfl)
            simp only [Act.put, List.setIfInBounds_toArray, List.set_cons_zero, List.set_cons_succ]
            refine take_yes 7 42 (v := ?_) rfl rfl (by kernel_rfl) (by kernel_rfl) (by kernel_rfl) (fun _ _ _ h => h) (by rfl) ?_ hHeld ?_
            rotate_left
            · (intro w hSw; (try dsimp only at hSw); go_simp; try with_reducible rfl)
            simp only [Act.put, List.setIfInBounds_toArray, List.set_cons_zero, List.set_cons_succ]
            refine take_yes 8 43 (v := ?_) rfl rfl (by kernel_rfl) (by kernel_rfl) (by kernel_rfl) (fun _ _ _ h => h) (by rfl) ?_ hHeld ?_
            rotate_left
            · (intro w hSw; (try dsimp only at hSw); go_simp; try with_reducible rfl)
            simp only [Act.put, List.setIfInBounds_toArray, List.set_cons_zero, List.set_cons_succ]
            refine take_yes 9 44 (v := ?_) rfl rfl (by kernel_rfl) (by kernel_rfl) (by kernel_rfl) (fun _ _ _ h => h) (by rfl) ?_ hHeld ?_
            rotate_left
            · (intro w hSw; (try dsimp only at hSw); go_simp; try with_reducible rfl)
            simp only [Act.put, List.setIfInBounds_toArray, List.set_cons_zero, List.set_cons_succ]
            refine take_yes 10 45 (v := ?_) rfl rfl (by kernel_rfl) (by kernel_rfl) (by kernel_rfl) (fun _ _ _ h => h) (by rfl) ?_ hHeld ?_
            rotate_left
            · (intro w hSw; (try dsimp only at hSw); go_simp; try with_reducible rfl)
            simp only [Act.put, List.setIfInBounds_toArray, List.set_cons_zero, List.set_cons_succ]
            refine take_yes 11 46 (v := ?_) rfl rfl (by kernel_rfl) (by kernel_rfl) (by kernel_rfl) (fun _ _ _ h => h) (by rfl) ?_ hHeld ?_
            rotate_left
            · (intro w hSw; (try dsimp only at hSw); go_simp; try with_reducible rfl)
            simp only [Act.put, List.setIfInBounds_toArray, List.set_cons_zero, List.set_cons_succ]
            refine take_yes 12 47 (v := ?_) rfl rfl (by kernel_rfl) (by kernel_rfl) (by kernel_rfl) (fun _ _ _ h => h) (by rfl) ?_ hHeld ?_
            rotate_left
            · (intro w hSw; (try dsimp only at hSw); go_simp; try with_reducible rfl)
            simp only [Act.put, List.setIfInBounds_toArray, List.set_cons_zero, List.set_cons_succ]
            refine take_yes 13 48 (v := ?_) rfl rfl (by kernel_rfl) (by kernel_rfl) (by kernel_rfl) (fun _ _ _ h => h) (by rfl) ?_ hHeld ?_
            rotate_left
            · (intro w hSw; (try dsimp only at hSw); go_simp; try with_reducible rfl)
            simp only [Act.put, List.setIfInBounds_toArray, List.set_cons_zero, List.set_cons_succ]
            refine take_yes 14 49 (v := ?_) rfl rfl (by kernel_rfl) (by kernel_rfl) (by kernel_rfl) (fun _ _ _ h => h) (by rfl) ?_ hHeld ?_
            rotate_left
            · (intro w hSw; (try dsimp only at hSw); go_simp; try with_reducible rfl)
            simp only [Act.put, List.setIfInBounds_toArray, List.set_cons_zero, List.set_cons_succ]
            refine wpAnyH_ready (rs := [15]) (by kernel_rfl) (by simp) (AllReadyH.cons rfl (fun K hK => ?_) AllReadyH.nil)
            go_simp
            (go_at_call 15; refine (HS.out _ _ _ hHeld).mono ?_; rintro e4 wn ⟨rfl, hgn⟩)
            (try go_wp2_with fail)
            refine hK.out _ _ (by exact (by repeat (first | exact Gr.refl _ | refine Gr.alloc ?_ | refine Gr.drew ?_ | refine Gr.trans ?_ (by assumption)))) (fun hHeldN => ?_)
            clear hHeld hK K
            have hHeld := hHeldN
            clear hHeldN
            refine take_yes 16 51 (v := ?_) rfl rfl (by kernel_rfl) (by kernel_rfl) (by kernel_rfl) (fun _ _ _ h => h) (by rfl) ?_ hHeld ?_
            rotate_left
            · (intro w hSw; (try dsimp only at hSw); go_simp; try with_reducible rfl)
            simp only [Act.put, List.setIfInBounds_toArray, List.set_cons_zero, List.set_cons_succ]
            refine take_yes 17 52 (v := ?_) rfl rfl (by kernel_rfl) (by kernel_rfl) (by kernel_rfl) (fun _ _ _ h => h) (by rfl) ?_ hHeld ?_
            rotate_left
            · (intro w hSw; (try dsimp only at hSw); go_simp; try with_reducible rfl)
            simp only [Act.put, List.setIfInBounds_toArray, List.set_cons_zero, List.set_cons_succ]
            refine wpAnyH_done (by kernel_rfl) ?_ _
            have HG2 := Lib.hid (HG'.out.trans hHeld)
            clear hHeld
            go_wp2
            go_roundw
            case rel => exact ⟨k + 1, n + 1, by go_num, by go_num, by omega, HUp.out.symm, HG2.out⟩
            case measure => simp [intOf]; omega
          · have hq' : ¬ low < (its D)[k].q := by rw [hkq]; exact hq
            have hsm := lft_same hkl hq'
            have hgo := gone_has HMd.out hkl hq'
            rw [hkq] at hgo
            have HX := Lib.hid (fun w' (g : Gr wr w') => HHe.out D[k].m w' ((HDa.out.nt _ (List.getElem_mem hlt)).gr (hg.trans g)) (hg'.trans g))
            have hgo2 : Ox.hasB okN ((its D).filter fun x => decide (low < x.q)) (pk D[k].m.x) = false := hgo
            rw [hgo2] at HX
            have HNl2 : Hid (n = (lft low (its D) (k + 1)).length) := by show _ = _; rw [hsm]; exact HNl.out
            clear hg hg' hgo hgo2 hsm hkq hq' HNl hkl d1 d2
            generalize D[k] = x at *
            obtain ⟨q, dd, s, ⟨⟨k0, r, nn, L, dt, y⟩, ax, cx⟩⟩ := x
            dsimp only [Mn.v, Mi.v] at *
            go_wp2_with fail
            refine (HX.out _ ?_).mono ?_
            · exact Gr.refl _
            rintro e4 w4 ⟨rfl, hg4⟩
            have HG2 := Lib.hid (HG'.out.trans hg4)
            clear hg4 d0 d3 d4 d5 d6 d7 d8
            go_wp2
            go_roundw
            case rel => exact ⟨k + 1, n, by go_num, rfl, by omega, HNl2.out, HG2.out⟩
            case measure => simp [intOf]; omega
        · have hge : ¬ ((k : Int) < (D.length : Int)) := by omega
          have hkD : k = D.length := by omega
          have HnE : Hid (n = E.length) := by show _ = _; rw [HNl.out, HEl.out, hkD]
          clear hg hg' HNl
          have hnE := HnE.out
          clear HnE HEl
          go_wp2_with fail
          refine (HAw.out _ HG'.out).mono ?_
          rintro e4 w4 ⟨a7, c7, F, rfl, hb7, he7, hg4⟩
          obtain ⟨_, _, ee, hFc, hFm, hit7, _⟩ := hb7.at
          cases ee
          have hFl : F.length = E.length := by
            have := congrArg List.length he7
            rw [its_len, Ox.num_len, its_len] at this
            exact this
          have HFm : Hid (Ox.mayB okN (its F) = true) := by show _ = _; rw [he7]; exact anew7_may HEm.out
          have HMf : Hid (∀ w', Gr w4 w' → Calls Try.prog 13 #[.slice a7 F.length c7] w' fun e w2 => e = .returned (.int .i64 0) ∧ Gr w' w2) := fun w' g => by
            have := may_any F a7 c7 w' (hit7.gr g) hFc (by omega)
            rw [mayE_ok HFm.out] at this
            exact this
          have HFx : Hid (∀ (j : Nat) (h : j < F.length), F[j].q = (j : Int) + 1 ∧ F[j].d = 7 ∧ F[j].s = 0 ∧ Ox.hasB okN (its D) (pk F[j].m.x) = true) := by
            intro j h
            have hjE : j < (its E).length := by rw [its_len]; omega
            have e1 : (its F)[j]'(by rw [its_len]; exact h) = F[j].it := its_get F j h
            have e2 := Ox.num_at 7 (its E) 1 j hjE
            have e3 : F[j].it = ⟨1 + (j : Int), 7, 0, (its E)[j].n⟩ := by
              rw [← e1, ← e2]
              congr 1
            have q1 : F[j].q = 1 + (j : Int) := congrArg Ox.It.q e3
            have q2 : F[j].d = 7 := congrArg Ox.It.d e3
            have q3 : F[j].s = 0 := congrArg Ox.It.s e3
            have q4 : pk F[j].m.x = (its E)[j].n := congrArg Ox.It.n e3
            refine ⟨by rw [q1]; omega, q2, q3, left_has HMd.out ?_⟩
            have hmem : (its E)[j] ∈ (its D).filter fun x => decide (low < x.q) := by rw [← HE.out]; exact List.getElem_mem hjE
            exact ⟨_, (List.mem_filter.1 hmem).1, q4.symm⟩
          have HI7 := Lib.hid hit7
          have HG4 := Lib.hid (HG.out.trans hg4)
          have HG4' := Lib.hid (HG'.out.trans hg4)
          have HFl := Lib.hid hFl
          clear hb7 he7 hit7 hg4 HG HG' HAw hFl HFm
          go_wp2
          go_loopw [9] (fun s9 wr => ∃ i : Nat, s9 = .int .i64 i ∧ i ≤ F.length ∧ Gr w4 wr) (fun s9 _ => F.length - (intOf s9).toNat)
          case atStart => exact ⟨0, rfl, Nat.zero_le _, Gr.refl _⟩
          case round =>
            obtain ⟨i, rfl, hi, hgi⟩ := hrel
            have HGi := Lib.hid hgi
            by_cases hlt2 : i < F.length
            · have hii : (i : Int) < (F.length : Int) := by omega
              have hi0 : (0 : Int) ≤ (i : Int) := by omega
              obtain ⟨b, off, rfl, hbl, d0, d1, d2, d3, d4, d5, d6, d7, d8⟩ := ItsRow.at HI7.out.row i hlt2
              have d0 := hgi.keep d0
              have d1 := hgi.keep d1
              have d2 := hgi.keep d2
              have d3 := hgi.keep d3
              have d4 := hgi.keep d4
              have d5 := hgi.keep d5
              have d6 := hgi.keep d6
              have d7 := hgi.keep d7
              have d8 := hgi.keep d8
              have hbw : b < wr.heap.size := Nat.lt_of_lt_of_le hbl hgi.size
              obtain ⟨f1, f2, f3, f4⟩ := HFx.out i hlt2
              have HX := Lib.hid (fun w' (g : Gr wr w') => HH.out F[i].m w' ((HI7.out.nt _ (List.getElem_mem hlt2)).gr (hgi.trans g)) (HG4.out.trans (hgi.trans g)))
              rw [f4] at HX
              clear hgi f4
              generalize F[i] = x at *
              obtain ⟨q, dd, s, ⟨⟨k0, r, nn, L, dt, y⟩, ax, cx⟩⟩ := x
              dsimp only [Mn.v, Mi.v] at *
              subst f1 f2 f3
              go_wp2_with fail
              refine (HX.out _ ?_).mono ?_
              · exact Gr.refl _
              rintro e5 w5 ⟨rfl, hg5⟩
              have HG5 := Lib.hid (HGi.out.trans hg5)
              clear hg5 d0 d1 d2 d3 d4 d5 d6 d7 d8
              go_wp2
              go_roundw
              case rel => exact ⟨i + 1, by go_num, by omega, HG5.out⟩
              case measure => simp [intOf]; omega
            · have hge2 : ¬ ((i : Int) < (F.length : Int)) := by omega
              have HG5 := Lib.hid (HG4.out.trans hgi)
              have HG5' := Lib.hid (HG4'.out.trans hgi)
              have HFl2 := HFl.out
              clear hgi HFl HG4 HG4' hlt2 hi
              rw [HFl2] at hge2 HMf ⊢
              clear HFl2
              subst hnE
              go_wp2_with fail
              refine (HMe.out _ HG5'.out).mono ?_
              rintro e6 w6 ⟨rfl, hg6⟩
              have HG6 := Lib.hid (HG5.out.trans hg6)
              have HG6' := Lib.hid (HGi.out.trans hg6)
              clear hg6 HG5 HG5' HGi HMe
              go_wp2_with fail
              refine (HMf.out _ HG6'.out).mono ?_
              rintro e7 w7 ⟨rfl, hg7⟩
              have HG7 := Lib.hid (HG6.out.trans hg7)
              clear hg7 HG6 HG6' HMf
              go_wp2_with fail
              refine (HA.out _).mono ?_
              rintro e8 w8 ⟨rfl, hg8⟩
              have HG8 := Lib.hid (HG7.out.trans hg8)
              go_wp2
              go_ret
              exact ⟨rfl, HG8.out⟩

set_option maxRecDepth 100000 in
theorem outboxAnswered_lifted (os : Os) (started : os.Started) (H : Type) (enc : TypeId × Value → H) :
    ReturnsInHanded {} Try.checked os 6 .any (Rows.outboxAnsweredSpec.pre6 enc Try.prog Try.f6 Rows.outboxAnsweredRow.domain false) (Rows.outboxAnsweredSpec.post enc Try.prog Try.f6 false true false false) := by
  refine returnsInHanded_of_change (C := Try.checked) own2 started (by kernel_rfl) Try.func6
    (ChangeSpec.witness6 (enc := enc) (C := Try.checked) false ⟨#[], #[.slice none 0 0, .int .i64 0], []⟩ 8 (by kernel_rfl) (by kernel_rfl) (by kernel_rfl) (by kernel_rfl)) ?_
  intro W base args ds gs before hval0 hW hcnd _
  have hval : ∀ (j : Nat) t v, Try.f6.params[j]? = some t → args[j]? = some v → Value.okWide Try.prog W .any base t v := hval0
  have hW' := hW
  obtain ⟨p, q, hA0, hV, rfl, hfz, hnd⟩ := hW
  have hA : DataW.TrodAll enc Try.prog W 0 (fun _ => true) true Try.f6.params.toList args.toList ds p := hA0
  rw [Try.params6] at hA hval
  obtain ⟨v0, v1, d0, d1, p0, p1, rfl, rfl, rfl, q0, q1⟩ := trodAll_two hA
  obtain ⟨rfl, rfl⟩ := trodVars_none hV
  have k0 := q0
  have lt0 : ∀ x ∈ p0, x.block < W.heap.size := by obtain ⟨m, hm⟩ := k0; exact DataW.trod_lt m _ _ _ hm
  obtain ⟨ad0, cap0, D0, rfl, hD0, hc0, hn0⟩ := open_items (hval 0 22 v0 rfl rfl) q0
  obtain ⟨a1, rfl, rfl, rfl, wa1⟩ := open_int Try.underlying3 (hval 1 3 v1 rfl rfl) q1
  have rg1 := rng_i64 wa1
  clear hA0 hval0
  refine (outboxAnswered_walk D0 ad0 cap0 a1 W hD0 hc0 hn0).mono fun e W' ⟨he, hg⟩ => ?_
  subst he
  exact ⟨_, rfl, _, _, _, [], _, [], hW', trodAll_mk1 (shut_bool Try.underlying4 _), trodAll_mk2 (Below.trod laidOut2 (by kernel_rfl) (of_decide_eq_true (by kernel_rfl)) k0 hg.below lt0) (shut_int Try.underlying3 wa1), rfl, hg.below.frame _, fun h => by cases h⟩

theorem outboxAnswered_holds : Rows.OutboxAnsweredSaid :=
  OpenClaim.holds_of_wide 6 Try.f6 rfl rfl rfl rfl rfl rfl rfl ⟨rfl, rfl, rfl, rfl, rfl⟩ rfl rfl rfl rfl rfl (by kernel_rfl) Try.func6 (by kernel_rfl)
    (of_decide_eq_true (by kernel_rfl)) (by unfold Func.isWrapper; first | (rw [if_pos (by decide +kernel)]; kernel_rfl) | (rw [if_neg (by decide +kernel)]; exact ⟨rfl, rfl⟩))
    (fun os started H enc _ => outboxAnswered_lifted os started H enc)
end Go.Proofs.Ytilkfgpcibdikaa
