/- Parts of these proofs, laid together. -/
import Derived.Test.YthfbpilfdfploaaGreatGI
namespace Go.Proofs.YthfbpilfdfploaaGreat
open Go.RowKit

theorem ends_may {x : Nt} (h : 0 ≤ Nt.ends1 x) : Nt.ntB x = true := by
  unfold Nt.ends1 at h
  by_cases hm : Nt.ntB x = true
  · exact hm
  · rw [if_neg hm] at h; omega

set_option maxHeartbeats 20000000 in
set_option maxRecDepth 100000 in
theorem refNFrame_any (fr tx ep sq ae ac k r n : Int) (L : List (Int × Int)) (d : ByteArray) (y : Int) (ad : Option Addr) (cap : Nat) (w : World) (hL : HopsAt w ad L) (hn : L.length ≤ 9223372036854775807) (hd : d.size ≤ 9223372036854775807) :
    Calls Tryz.prog 32 #[.agg #[.int .i64 fr, .int .i64 tx, .int .i64 ep, .int .i64 sq, .int .i64 ae, .int .i64 ac, .int .i64 k, .int .i64 r, .int .i64 n, .slice ad L.length cap, .string d, .int .i64 y]] w fun e w' => e = .returned (.int .i64 (Nt.frE (⟨fr, tx, ep, sq, ae, ac, ⟨k, r, n, L, d, y⟩⟩ : Fm))) ∧ Gr w w' := by
  have H0 : Hid (∀ w', Gr w w' → Calls Tryz.prog 26 #[.agg #[.int .i64 k, .int .i64 r, .int .i64 n, .slice ad L.length cap, .string d, .int .i64 y]] w' fun e w2 => e = .returned (.tuple #[.int .i64 (Nt.ends1 (⟨k, r, n, L, d, y⟩ : Nt)), .int .i64 (Nt.ends2 (⟨k, r, n, L, d, y⟩ : Nt))]) ∧ Gr w' w2) := fun w' g => refNEnds_any k r n L d y ad cap w' (hL.gr g) hn hd
  have HN : Hid (Nt.frB (⟨fr, tx, ep, sq, ae, ac, ⟨k, r, n, L, d, y⟩⟩ : Fm) = true → (0 ≤ fr ∧ fr ≤ 15) ∧ (0 ≤ tx ∧ tx ≤ 15) ∧ fr ≠ tx ∧ (1 ≤ ep ∧ ep ≤ 1000000000) ∧ (0 ≤ sq ∧ sq ≤ 1000000000) ∧ (0 ≤ ae ∧ ae ≤ 1000000000) ∧ (0 ≤ ac ∧ ac ≤ 1000000000)) := fun h => by
    obtain ⟨a1, a2, a3, a4, a5, a6, a7, _⟩ := Nt.may_frame h
    exact ⟨a1, a2, a3, a4, a5, a6, a7⟩
  have HZ : Hid (sq = 0 → Nt.frB (⟨fr, tx, ep, sq, ae, ac, ⟨k, r, n, L, d, y⟩⟩ : Fm) = true → k = 0 ∧ d = ⟨#[]⟩ ∧ y = 0 ∧ r = 0 ∧ n = 0 ∧ L.length = 0) := fun hz h => by
    obtain ⟨_, _, _, _, _, _, _, a8⟩ := Nt.may_frame h
    unfold Nt.fnB at a8
    rw [if_pos hz] at a8
    have := Nt.em_zero a8
    simp only [Nt.zeroN, Nt.mk.injEq] at this
    obtain ⟨rfl, rfl, rfl, rfl, rfl, rfl⟩ := this
    exact ⟨rfl, rfl, rfl, rfl, rfl, rfl⟩
  have HM : Hid (¬ sq = 0 → Nt.frB (⟨fr, tx, ep, sq, ae, ac, ⟨k, r, n, L, d, y⟩⟩ : Fm) = true → Nt.ends1 (⟨k, r, n, L, d, y⟩ : Nt) = fr ∧ Nt.ends2 (⟨k, r, n, L, d, y⟩ : Nt) = tx) := fun hz h => by
    obtain ⟨_, _, _, _, _, _, _, a8⟩ := Nt.may_frame h
    exact ⟨(Nt.fn_note a8 hz).2.1, (Nt.fn_note a8 hz).2.2⟩
  have HE : Hid (Nt.frE (⟨fr, tx, ep, sq, ae, ac, ⟨k, r, n, L, d, y⟩⟩ : Fm) = if Nt.frB (⟨fr, tx, ep, sq, ae, ac, ⟨k, r, n, L, d, y⟩⟩ : Fm) = true then 0 else 130) := rfl
  have HY : Hid ((0 ≤ fr ∧ fr ≤ 15) → (0 ≤ tx ∧ tx ≤ 15) → fr ≠ tx → (1 ≤ ep ∧ ep ≤ 1000000000) → (0 ≤ sq ∧ sq ≤ 1000000000) → (0 ≤ ae ∧ ae ≤ 1000000000) → (0 ≤ ac ∧ ac ≤ 1000000000) → ((sq = 0 ∧ k = 0 ∧ d = ⟨#[]⟩ ∧ y = 0 ∧ r = 0 ∧ n = 0 ∧ L.length = 0) ∨ (¬ sq = 0 ∧ Nt.ends1 (⟨k, r, n, L, d, y⟩ : Nt) = fr ∧ Nt.ends2 (⟨k, r, n, L, d, y⟩ : Nt) = tx)) → Nt.frB (⟨fr, tx, ep, sq, ae, ac, ⟨k, r, n, L, d, y⟩⟩ : Fm) = true) := by
    intro a1 a2 a3 a4 a5 a6 a7 a8
    unfold Nt.frB Nt.cnB
    simp only [Bool.and_eq_true, decide_eq_true_eq, Nt.inB_iff]
    refine ⟨⟨⟨⟨a1, a2⟩, a3⟩, ⟨⟨a4, a5⟩, a6⟩, a7⟩, ?_⟩
    unfold Nt.fnB
    rcases a8 with ⟨hz, h1, h2, h3, h4, h5, h6⟩ | ⟨hz, h1, h2⟩
    · rw [if_pos hz]
      unfold Nt.emB
      simp only [Bool.and_eq_true, decide_eq_true_eq]
      exact ⟨⟨⟨⟨⟨h1, h4⟩, h5⟩, h6⟩, h2⟩, h3⟩
    · rw [if_neg hz]
      have : Nt.ntB (⟨k, r, n, L, d, y⟩ : Nt) = true := ends_may (by rw [h1]; exact a1.1)
      simp only [Bool.and_eq_true, decide_eq_true_eq]
      exact ⟨⟨this, h1⟩, h2⟩
  generalize Nt.frE (⟨fr, tx, ep, sq, ae, ac, ⟨k, r, n, L, d, y⟩⟩ : Fm) = R at *
  generalize Nt.frB (⟨fr, tx, ep, sq, ae, ac, ⟨k, r, n, L, d, y⟩⟩ : Fm) = FB at *
  generalize Nt.ends1 (⟨k, r, n, L, d, y⟩ : Nt) = E1 at *
  generalize Nt.ends2 (⟨k, r, n, L, d, y⟩ : Nt) = E2 at *
  clear hL hn hd
  by_cases t0 : fr < 0
  · have HV : Hid (R = 130) := by
      show _ = _
      rw [HE.out, if_neg]
      intro hFB
      have := HN.out hFB; omega
    clear HE HN HZ HM HY
    go_enter Tryz.func32, Tryz.ntmps32
    go_wp2
    go_ret
    exact ⟨by rw [HV.out]; rfl, (by repeat(first|exact Gr.r _|refine Gr.a ?_|refine Gr.d ?_|refine Gr.t ?_ (by assumption)))⟩
  · by_cases t1 : 15 < fr
    · have HV : Hid (R = 130) := by
        show _ = _
        rw [HE.out, if_neg]
        intro hFB
        have := HN.out hFB; omega
      clear HE HN HZ HM HY
      go_enter Tryz.func32, Tryz.ntmps32
      go_wp2
      go_ret
      exact ⟨by rw [HV.out]; rfl, (by repeat(first|exact Gr.r _|refine Gr.a ?_|refine Gr.d ?_|refine Gr.t ?_ (by assumption)))⟩
    · by_cases t2 : tx < 0
      · have HV : Hid (R = 130) := by
          show _ = _
          rw [HE.out, if_neg]
          intro hFB
          have := HN.out hFB; omega
        clear HE HN HZ HM HY
        go_enter Tryz.func32, Tryz.ntmps32
        go_wp2
        go_ret
        exact ⟨by rw [HV.out]; rfl, (by repeat(first|exact Gr.r _|refine Gr.a ?_|refine Gr.d ?_|refine Gr.t ?_ (by assumption)))⟩
      · by_cases t3 : 15 < tx
        · have HV : Hid (R = 130) := by
            show _ = _
            rw [HE.out, if_neg]
            intro hFB
            have := HN.out hFB; omega
          clear HE HN HZ HM HY
          go_enter Tryz.func32, Tryz.ntmps32
          go_wp2
          go_ret
          exact ⟨by rw [HV.out]; rfl, (by repeat(first|exact Gr.r _|refine Gr.a ?_|refine Gr.d ?_|refine Gr.t ?_ (by assumption)))⟩
        · by_cases t4 : fr = tx
          · have HV : Hid (R = 130) := by
              show _ = _
              rw [HE.out, if_neg]
              intro hFB
              have := HN.out hFB; omega
            clear HE HN HZ HM HY
            subst t4
            go_enter Tryz.func32, Tryz.ntmps32
            go_wp2
            go_ret
            exact ⟨by rw [HV.out]; rfl, (by repeat(first|exact Gr.r _|refine Gr.a ?_|refine Gr.d ?_|refine Gr.t ?_ (by assumption)))⟩
          · have t4' : (fr == tx) = false := by simpa using t4
            by_cases t5 : ep < 1
            · have HV : Hid (R = 130) := by
                show _ = _
                rw [HE.out, if_neg]
                intro hFB
                have := HN.out hFB; omega
              clear HE HN HZ HM HY
              go_enter Tryz.func32, Tryz.ntmps32
              go_wp2
              go_ret
              exact ⟨by rw [HV.out]; rfl, (by repeat(first|exact Gr.r _|refine Gr.a ?_|refine Gr.d ?_|refine Gr.t ?_ (by assumption)))⟩
            · by_cases t6 : 1000000000 < ep
              · have HV : Hid (R = 130) := by
                  show _ = _
                  rw [HE.out, if_neg]
                  intro hFB
                  have := HN.out hFB; omega
                clear HE HN HZ HM HY
                go_enter Tryz.func32, Tryz.ntmps32
                go_wp2
                go_ret
                exact ⟨by rw [HV.out]; rfl, (by repeat(first|exact Gr.r _|refine Gr.a ?_|refine Gr.d ?_|refine Gr.t ?_ (by assumption)))⟩
              · by_cases t7 : sq < 0
                · have HV : Hid (R = 130) := by
                    show _ = _
                    rw [HE.out, if_neg]
                    intro hFB
                    have := HN.out hFB; omega
                  clear HE HN HZ HM HY
                  go_enter Tryz.func32, Tryz.ntmps32
                  go_wp2
                  go_ret
                  exact ⟨by rw [HV.out]; rfl, (by repeat(first|exact Gr.r _|refine Gr.a ?_|refine Gr.d ?_|refine Gr.t ?_ (by assumption)))⟩
                · by_cases t8 : 1000000000 < sq
                  · have HV : Hid (R = 130) := by
                      show _ = _
                      rw [HE.out, if_neg]
                      intro hFB
                      have := HN.out hFB; omega
                    clear HE HN HZ HM HY
                    go_enter Tryz.func32, Tryz.ntmps32
                    go_wp2
                    go_ret
                    exact ⟨by rw [HV.out]; rfl, (by repeat(first|exact Gr.r _|refine Gr.a ?_|refine Gr.d ?_|refine Gr.t ?_ (by assumption)))⟩
                  · by_cases t9 : ae < 0
                    · have HV : Hid (R = 130) := by
                        show _ = _
                        rw [HE.out, if_neg]
                        intro hFB
                        have := HN.out hFB; omega
                      clear HE HN HZ HM HY
                      go_enter Tryz.func32, Tryz.ntmps32
                      go_wp2
                      go_ret
                      exact ⟨by rw [HV.out]; rfl, (by repeat(first|exact Gr.r _|refine Gr.a ?_|refine Gr.d ?_|refine Gr.t ?_ (by assumption)))⟩
                    · by_cases t10 : 1000000000 < ae
                      · have HV : Hid (R = 130) := by
                          show _ = _
                          rw [HE.out, if_neg]
                          intro hFB
                          have := HN.out hFB; omega
                        clear HE HN HZ HM HY
                        go_enter Tryz.func32, Tryz.ntmps32
                        go_wp2
                        go_ret
                        exact ⟨by rw [HV.out]; rfl, (by repeat(first|exact Gr.r _|refine Gr.a ?_|refine Gr.d ?_|refine Gr.t ?_ (by assumption)))⟩
                      · by_cases t11 : ac < 0
                        · have HV : Hid (R = 130) := by
                            show _ = _
                            rw [HE.out, if_neg]
                            intro hFB
                            have := HN.out hFB; omega
                          clear HE HN HZ HM HY
                          go_enter Tryz.func32, Tryz.ntmps32
                          go_wp2
                          go_ret
                          exact ⟨by rw [HV.out]; rfl, (by repeat(first|exact Gr.r _|refine Gr.a ?_|refine Gr.d ?_|refine Gr.t ?_ (by assumption)))⟩
                        · by_cases t12 : 1000000000 < ac
                          · have HV : Hid (R = 130) := by
                              show _ = _
                              rw [HE.out, if_neg]
                              intro hFB
                              have := HN.out hFB; omega
                            clear HE HN HZ HM HY
                            go_enter Tryz.func32, Tryz.ntmps32
                            go_wp2
                            go_ret
                            exact ⟨by rw [HV.out]; rfl, (by repeat(first|exact Gr.r _|refine Gr.a ?_|refine Gr.d ?_|refine Gr.t ?_ (by assumption)))⟩
                          · by_cases hz : sq = 0
                            · have HZ0 := HZ.out hz
                              have HY0 : Hid (k = 0 → d = ⟨#[]⟩ → y = 0 → r = 0 → n = 0 → L.length = 0 → FB = true) := fun h1 h2 h3 h4 h5 h6 => HY.out (by omega) (by omega) t4 (by omega) (by omega) (by omega) (by omega) (Or.inl ⟨hz, h1, h2, h3, h4, h5, h6⟩)
                              have HZ1 : Hid (FB = true → k = 0 ∧ d = ⟨#[]⟩ ∧ y = 0 ∧ r = 0 ∧ n = 0 ∧ L.length = 0) := HZ0
                              subst hz
                              clear HZ0 HY HZ HM HN
                              by_cases z0 : k = 0
                              · subst z0
                                by_cases z1 : d = ⟨#[]⟩
                                · subst z1
                                  by_cases z2 : y = 0
                                  · subst z2
                                    by_cases z3 : r = 0
                                    · subst z3
                                      by_cases z4 : n = 0
                                      · subst z4
                                        by_cases z5 : L.length = 0
                                        · have HV : Hid (R = 0) := by
                                            show _ = _
                                            rw [HE.out, if_pos (HY0.out rfl rfl rfl rfl rfl z5)]
                                          clear HE HY0 HZ1
                                          obtain rfl : L = [] := List.length_eq_zero_iff.1 z5
                                          simp only [List.length_nil]
                                          clear z5 H0
                                          go_enter Tryz.func32, Tryz.ntmps32
                                          go_wp2
                                          go_ret
                                          exact ⟨by rw [HV.out]; rfl, (by repeat(first|exact Gr.r _|refine Gr.a ?_|refine Gr.d ?_|refine Gr.t ?_ (by assumption)))⟩
                                        · have HV : Hid (R = 130) := by
                                            show _ = _
                                            rw [HE.out, if_neg]
                                            intro hFB
                                            exact z5 (HZ1.out hFB).2.2.2.2.2
                                          clear HE HY0 HZ1
                                          have z5' : ((L.length : Int) != 0) = true := by rw [bne_iff_ne]; omega
                                          clear z5 H0
                                          go_enter Tryz.func32, Tryz.ntmps32
                                          go_wp2
                                          go_ret
                                          exact ⟨by rw [HV.out]; rfl, (by repeat(first|exact Gr.r _|refine Gr.a ?_|refine Gr.d ?_|refine Gr.t ?_ (by assumption)))⟩
                                      · have HV : Hid (R = 130) := by
                                          show _ = _
                                          rw [HE.out, if_neg]
                                          intro hFB
                                          exact z4 (HZ1.out hFB).2.2.2.2.1
                                        clear HE HY0 HZ1
                                        have z4' : (n != 0) = true := by simpa using z4
                                        clear z4 H0
                                        go_enter Tryz.func32, Tryz.ntmps32
                                        go_wp2
                                        go_ret
                                        exact ⟨by rw [HV.out]; rfl, (by repeat(first|exact Gr.r _|refine Gr.a ?_|refine Gr.d ?_|refine Gr.t ?_ (by assumption)))⟩
                                    · have HV : Hid (R = 130) := by
                                        show _ = _
                                        rw [HE.out, if_neg]
                                        intro hFB
                                        exact z3 (HZ1.out hFB).2.2.2.1
                                      clear HE HY0 HZ1
                                      have z3' : (r != 0) = true := by simpa using z3
                                      clear z3 H0
                                      go_enter Tryz.func32, Tryz.ntmps32
                                      go_wp2
                                      go_ret
                                      exact ⟨by rw [HV.out]; rfl, (by repeat(first|exact Gr.r _|refine Gr.a ?_|refine Gr.d ?_|refine Gr.t ?_ (by assumption)))⟩
                                  · have HV : Hid (R = 130) := by
                                      show _ = _
                                      rw [HE.out, if_neg]
                                      intro hFB
                                      exact z2 (HZ1.out hFB).2.2.1
                                    clear HE HY0 HZ1
                                    have z2' : (y != 0) = true := by simpa using z2
                                    clear z2 H0
                                    go_enter Tryz.func32, Tryz.ntmps32
                                    go_wp2
                                    go_ret
                                    exact ⟨by rw [HV.out]; rfl, (by repeat(first|exact Gr.r _|refine Gr.a ?_|refine Gr.d ?_|refine Gr.t ?_ (by assumption)))⟩
                                · have HV : Hid (R = 130) := by
                                    show _ = _
                                    rw [HE.out, if_neg]
                                    intro hFB
                                    exact z1 (HZ1.out hFB).2.1
                                  clear HE HY0 HZ1
                                  have z1' : d.toList.isEmpty = false := by rw [eqE, decide_eq_false z1]
                                  clear z1 H0
                                  go_enter Tryz.func32, Tryz.ntmps32
                                  go_wp2
                                  go_ret
                                  exact ⟨by rw [HV.out]; rfl, (by repeat(first|exact Gr.r _|refine Gr.a ?_|refine Gr.d ?_|refine Gr.t ?_ (by assumption)))⟩
                              · have HV : Hid (R = 130) := by
                                  show _ = _
                                  rw [HE.out, if_neg]
                                  intro hFB
                                  exact z0 (HZ1.out hFB).1
                                clear HE HY0 HZ1
                                have z0' : (k != 0) = true := by simpa using z0
                                clear z0 H0
                                go_enter Tryz.func32, Tryz.ntmps32
                                go_wp2
                                go_ret
                                exact ⟨by rw [HV.out]; rfl, (by repeat(first|exact Gr.r _|refine Gr.a ?_|refine Gr.d ?_|refine Gr.t ?_ (by assumption)))⟩
                            · have hz' : (sq == 0) = false := by simpa using hz
                              have HY0 : Hid (E1 = fr → E2 = tx → FB = true) := fun h1 h2 => HY.out (by omega) (by omega) t4 (by omega) (by omega) (by omega) (by omega) (Or.inr ⟨hz, h1, h2⟩)
                              have HM0 : Hid (FB = true → E1 = fr ∧ E2 = tx) := HM.out hz
                              clear HY HZ HM HN
                              by_cases e1 : E1 = fr
                              · by_cases e2 : E2 = tx
                                · have HV : Hid (R = 0) := by show _ = _; rw [HE.out, if_pos (HY0.out e1 e2)]
                                  subst e1 e2
                                  clear HE HY0 HM0
                                  go_enter Tryz.func32, Tryz.ntmps32
                                  go_wp2_with fail
                                  refine (H0.out _ ?_).mono ?_
                                  · exact (by repeat(first|exact Gr.r _|refine Gr.a ?_|refine Gr.d ?_|refine Gr.t ?_ (by assumption)))
                                  rintro e0 w1 ⟨rfl, hg0⟩
                                  have B1 := ((Cs.new w [.int .i64 E1, .int .i64 E2, .int .i64 ep, .int .i64 sq, .int .i64 ae, .int .i64 ac, .int .i64 k, .int .i64 r, .int .i64 n, .slice ad L.length cap, .string d, .int .i64 y] 38 _ rfl).alloc (o := .cells #[.int .i64 k, .int .i64 r, .int .i64 n, .slice ad L.length cap, .string d, .int .i64 y] 36)).gr hg0
                                  have c0 := B1.at_ 0 _ rfl
                                  have c1 := B1.at_ 1 _ rfl
                                  have clt := B1.lt
                                  go_wp2
                                  go_ret
                                  exact ⟨by rw [HV.out]; rfl, (by repeat(first|exact Gr.r _|refine Gr.a ?_|refine Gr.d ?_|refine Gr.t ?_ (by assumption)))⟩
                                · have HV : Hid (R = 130) := by show _ = _; rw [HE.out, if_neg]; exact fun h => e2 (HM0.out h).2
                                  have e2' : (E2 != tx) = true := by simpa using e2
                                  subst e1
                                  clear HE HY0 HM0
                                  go_enter Tryz.func32, Tryz.ntmps32
                                  go_wp2_with fail
                                  refine (H0.out _ ?_).mono ?_
                                  · exact (by repeat(first|exact Gr.r _|refine Gr.a ?_|refine Gr.d ?_|refine Gr.t ?_ (by assumption)))
                                  rintro e0 w1 ⟨rfl, hg0⟩
                                  have B1 := ((Cs.new w [.int .i64 E1, .int .i64 tx, .int .i64 ep, .int .i64 sq, .int .i64 ae, .int .i64 ac, .int .i64 k, .int .i64 r, .int .i64 n, .slice ad L.length cap, .string d, .int .i64 y] 38 _ rfl).alloc (o := .cells #[.int .i64 k, .int .i64 r, .int .i64 n, .slice ad L.length cap, .string d, .int .i64 y] 36)).gr hg0
                                  have c0 := B1.at_ 0 _ rfl
                                  have c1 := B1.at_ 1 _ rfl
                                  have clt := B1.lt
                                  go_wp2
                                  go_ret
                                  exact ⟨by rw [HV.out]; rfl, (by repeat(first|exact Gr.r _|refine Gr.a ?_|refine Gr.d ?_|refine Gr.t ?_ (by assumption)))⟩
                              · have HV : Hid (R = 130) := by show _ = _; rw [HE.out, if_neg]; exact fun h => e1 (HM0.out h).1
                                have e1' : (E1 != fr) = true := by simpa using e1
                                clear HE HY0 HM0
                                go_enter Tryz.func32, Tryz.ntmps32
                                go_wp2_with fail
                                refine (H0.out _ ?_).mono ?_
                                · exact (by repeat(first|exact Gr.r _|refine Gr.a ?_|refine Gr.d ?_|refine Gr.t ?_ (by assumption)))
                                rintro e0 w1 ⟨rfl, hg0⟩
                                have B1 := ((Cs.new w [.int .i64 fr, .int .i64 tx, .int .i64 ep, .int .i64 sq, .int .i64 ae, .int .i64 ac, .int .i64 k, .int .i64 r, .int .i64 n, .slice ad L.length cap, .string d, .int .i64 y] 38 _ rfl).alloc (o := .cells #[.int .i64 k, .int .i64 r, .int .i64 n, .slice ad L.length cap, .string d, .int .i64 y] 36)).gr hg0
                                have c0 := B1.at_ 0 _ rfl
                                have c1 := B1.at_ 1 _ rfl
                                have clt := B1.lt
                                go_wp2
                                go_ret
                                exact ⟨by rw [HV.out]; rfl, (by repeat(first|exact Gr.r _|refine Gr.a ?_|refine Gr.d ?_|refine Gr.t ?_ (by assumption)))⟩
end Go.Proofs.YthfbpilfdfploaaGreat
