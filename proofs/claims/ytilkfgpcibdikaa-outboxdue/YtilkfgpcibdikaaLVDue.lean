
/- For every note and time the law OutboxDue answers true: a note that is pushed is due at once, again after each delay, and not between. -/
import Derived.Test.YtilkfgpcibdikaaOdA
import Derived.Test.YtilkfgpcibdikaaOpenV
namespace Go.Proofs.Ytilkfgpcibdikaa
open Go.ChangeShapes Go.WideShapes Go.ChangeAt Go.RowKit

theorem one_row {p : Nx} {d s : Int} (hp : okN p = true) (hd : 0 ≤ d ∧ d ≤ 1000000016) (hs : 0 ≤ s ∧ s ≤ 1000000) : Ox.mayB okN [⟨1, d, s, p⟩] = true := by
  refine (Ox.mayB_iff _ _).2 ⟨by simp, List.pairwise_singleton _ _, ?_⟩
  intro x hx
  rw [List.mem_singleton] at hx
  subst hx
  exact (Ox.one_iff _ _).2 ⟨by simp, hp, hd, hs⟩
theorem one_has {p : Nx} {d s : Int} (hp : okN p = true) (hd : 0 ≤ d ∧ d ≤ 1000000016) (hs : 0 ≤ s ∧ s ≤ 1000000) : Ox.hasB okN [⟨1, d, s, p⟩] p = true := by
  unfold Ox.hasB
  rw [one_row hp hd hs, (Ox.among_iff _ _).2 ⟨_, List.mem_singleton.2 rfl, rfl⟩]; rfl
theorem one_push {p : Nx} {now : Int} (ht : Ox.tmB now = true) : Ox.push okN (its []) 1 now [p] = if okN p = true then ([⟨1, now, 0, p⟩], 0) else ([], 130) := by
  unfold Ox.push
  rw [if_pos ⟨(by decide : Ox.mayB okN (its []) = true), ht, by decide, by decide⟩]
  rfl
/- one item in memory, as the call got it -/
structure OneAt (w : World) (a : Option Addr) (c : Nat) (x : Ox.It Nx) : Prop where
  c1 : 1 ≤ c
  ex : ∃ E, E.length = 1 ∧ its E = [x] ∧ ItsAt w a E
theorem OneAt.gr {w w' : World} {a : Option Addr} {c : Nat} {x : Ox.It Nx} (h : OneAt w a c x) (g : Gr w w') : OneAt w' a c x := by
  obtain ⟨h1, E, h2, h3, h4⟩ := h
  exact ⟨h1, E, h2, h3, h4.gr g⟩
theorem OneAt.of {w : World} {base : Nat} {a : Option Addr} {c : Nat} {E : List Mi} {x : Ox.It Nx} (h : Bxs w base (.slice a E.length c) E) (he : its E = [x]) : OneAt w a c x ∧ E.length = 1 := by
  obtain ⟨_, _, e, h1, h2, hit, _⟩ := h.at
  cases e
  have hl : E.length = 1 := by
    have := congrArg List.length he
    rw [its_len] at this
    exact this
  exact ⟨⟨by omega, E, hl, he, hit⟩, hl⟩
theorem OneAt.cells {w : World} {a : Option Addr} {c : Nat} {x : Ox.It Nx} (h : OneAt w a c x) : ∃ b off, a = some ⟨b, off, none⟩ ∧ b < w.heap.size ∧ w.cell? ⟨b, off, none⟩ = some (.int .i64 x.q) ∧ w.cell? ⟨b, off + 1, none⟩ = some (.int .i64 x.d) ∧ w.cell? ⟨b, off + 2, none⟩ = some (.int .i64 x.s) := by
  obtain ⟨_, E, hl, he, hit⟩ := h
  match E, hl with
  | [m], _ =>
    simp [its] at he
    obtain ⟨b, off, rfl, hb, c0, c1, c2, _⟩ := ItsRow.at hit.row 0 (by simp)
    simp only [List.getElem_cons_zero, Nat.zero_mul, Nat.add_zero] at c0 c1 c2
    subst he
    exact ⟨b, off, rfl, hb, c0, c1, c2⟩
theorem one_due {p : Nx} {q d s t : Int} (hp : Ox.mayB okN [⟨q, d, s, p⟩] = true) (ht : Ox.tmB t = true) : Ox.dueL okN [⟨q, d, s, p⟩] t = [Ox.tick t ⟨q, d, s, p⟩] ∧ Ox.dueD okN [⟨q, d, s, p⟩] t = if d ≤ t then [Ox.tick t ⟨q, d, s, p⟩] else [] := by
  constructor
  · unfold Ox.dueL; rw [if_pos ⟨hp, ht⟩]; rfl
  · unfold Ox.dueD
    rw [if_pos ⟨hp, ht⟩]
    by_cases h : d ≤ t
    · rw [if_pos h, List.filter_cons, if_pos (by simpa using h)]; rfl
    · rw [if_neg h, List.filter_cons, if_neg (by simpa using h)]; rfl
set_option maxHeartbeats 16000000 in
set_option maxRecDepth 100000 in
theorem outboxDue_walk (m : Mn) (now : Int) (w : World) (hm : MnAt w m) :
    Calls Try.prog 5 #[m.v, .int .i64 now] w fun e w' => e = .returned (.bool true) ∧ Gr w w' := by
  have HA : Hid (∀ w', Calls Try.prog 8 #[] w' fun e w2 => AwR w' e w2) := fun w' => awake_any w'
  have HP0 : Hid (∀ w' gg, gg = w'.heap.size → Gr w w' → Ox.tmB now = true → Calls Try.prog 9 #[.slice none 0 0, .int .i64 1, .int .i64 now, .slice (some ⟨gg, 0, none⟩) 1 1] (w'.alloc (.cells (nC m).toArray 37)) fun e w2 => ∃ a c E, e = .returned (.tuple #[.slice a E.length c, .int .i64 (if okN (pk m.x) = true then 0 else 130)]) ∧ Bxs w2 (w'.alloc (.cells (nC m).toArray 37)).heap.size (.slice a E.length c) E ∧ its E = (if okN (pk m.x) = true then [⟨1, now, 0, pk m.x⟩] else []) ∧ Gr w' w2) := fun w' gg hgg g ht => by
    have := push_any [] 1 now [m] none 0 (some ⟨gg, 0, none⟩) 1 _ ItsAt.nil (by simp) (by simp) (nts1 (t := 37) hgg (hm.gr g)) (by simp)
    refine this.mono ?_
    rintro e w2 ⟨a, c, E, rfl, hb, he, hg⟩
    have hp : Ox.push okN (its []) 1 now (pks [m]) = if okN (pk m.x) = true then ([⟨1, now, 0, pk m.x⟩], 0) else ([], 130) := one_push ht
    rw [hp] at he ⊢
    refine ⟨a, c, E, ?_, hb, ?_, (Gr.refl _).alloc.trans hg⟩
    · cases okN (pk m.x) <;> rfl
    · rw [he]; cases okN (pk m.x) <;> rfl
  have HD : Hid (∀ a c x t w', OneAt w' a c x → Ox.tmB t = true → Ox.mayB okN [x] = true → Calls Try.prog 16 #[.slice a 1 c, .int .i64 t] w' fun e w2 => ∃ a1 c1 a2 c2 E2, e = .returned (.tuple #[.slice a1 1 c1, .slice a2 E2.length c2]) ∧ OneAt w2 a1 c1 (Ox.tick t x) ∧ Bxs w2 w'.heap.size (.slice a2 E2.length c2) E2 ∧ its E2 = (if x.d ≤ t then [Ox.tick t x] else []) ∧ Gr w' w2) := fun a c x t w' h ht hx => by
    obtain ⟨h1, E, h2, h3, h4⟩ := h
    have := due_any E t a c w' h4 (by omega) (by omega)
    obtain ⟨q, d, s, p⟩ := x
    rw [h3, (one_due hx ht).1, (one_due hx ht).2, h2] at this
    refine this.mono ?_
    rintro e w2 ⟨a1, c1, E1, a2, c2, E2, rfl, hb1, hb2, he1, he2, hg⟩
    obtain ⟨ho, hl⟩ := OneAt.of hb1 he1
    rw [hl]
    exact ⟨a1, c1, a2, c2, E2, rfl, ho, hb2, he2, hg⟩
  have HMy : Hid (∀ a c x w', OneAt w' a c x → Ox.mayB okN [x] = true → Calls Try.prog 13 #[.slice a 1 c] w' fun e w2 => e = .returned (.int .i64 0) ∧ Gr w' w2) := fun a c x w' h hx => by
    obtain ⟨h1, E, h2, h3, h4⟩ := h
    have := may_any E a c w' h4 (by omega) (by omega)
    rw [h2, mayE_ok (by rw [h3]; exact hx)] at this
    exact this
  have HH : Hid (∀ a c x w', OneAt w' a c x → Ox.hasB okN [x] (pk m.x) = true → Gr w w' → Calls Try.prog 11 #[.slice a 1 c, m.v] w' fun e w2 => e = .returned (.bool true) ∧ Gr w' w2) := fun a c x w' h hx g => by
    obtain ⟨h1, E, h2, h3, h4⟩ := h
    have := hasO_any E m a c w' h4 (by omega) (by omega) (hm.gr g)
    rw [h2, h3, hx] at this
    exact this
  have HDe : Hid (∀ n w', Calls Try.prog 22 #[.int .i64 n] w' fun e w2 => e = .returned (.int .i64 (Ox.del n)) ∧ w2 = w') := fun n w' => delay_any n w'
  have HDl : Hid (∀ n, 1 ≤ Ox.del n ∧ Ox.del n ≤ 8) := Ox.del_le
  clear hm
  obtain ⟨⟨k0, r, n, L, dt, y⟩, ad, cap⟩ := m
  dsimp only [Mn.v, nC, List.toArray] at *
  generalize L.length = ll at *
  by_cases h100 : (100 : Int) < (ll : Int)
  · have h100' : 100 < ll := by omega
    clear HP0 HH
    go_enter Try.func5, Try.ntmps5
    go_wp2_with fail
    refine (HA.out _).mono ?_
    rintro e2 w2 ⟨rfl, hg2⟩
    go_wp2
    go_ret
    exact ⟨rfl, (Gr.refl w).alloc.trans hg2⟩
  · have h100' : ¬ 100 < ll := by omega
    by_cases hn0 : now < 0
    · clear HP0 HH
      go_enter Try.func5, Try.ntmps5
      go_wp2_with fail
      refine (HA.out _).mono ?_
      rintro e2 w2 ⟨rfl, hg2⟩
      go_wp2
      go_ret
      exact ⟨rfl, (Gr.refl w).alloc.trans hg2⟩
    · by_cases hn1 : 999999000 < now
      · clear HP0 HH
        go_enter Try.func5, Try.ntmps5
        go_wp2_with fail
        refine (HA.out _).mono ?_
        rintro e2 w2 ⟨rfl, hg2⟩
        go_wp2
        go_ret
        exact ⟨rfl, (Gr.refl w).alloc.trans hg2⟩
      · have HP := Lib.hid (fun w' gg hgg g => HP0.out w' gg hgg g (decide_eq_true ⟨by omega, by omega⟩))
        clear HP0
        cases hok : okN (pk ⟨k0, r, n, L, dt, y⟩) with
        | false =>
          rw [hok] at HP
          simp only [Bool.false_eq_true, if_false] at HP
          clear HH hok
          go_enter Try.func5, Try.ntmps5
          go_wp2_with fail
          refine (HP.out (w.alloc (.cells #[.int .i64 k0, .int .i64 r, .int .i64 n, .slice ad ll cap, .string dt, .int .i64 y] 37)) (w.heap.size + 1) (by simp) (Gr.refl w).alloc).mono ?_
          rintro e1 w1 ⟨a, c, E, rfl, _, he, hg1⟩
          have hl : E.length = 0 := by
            have := congrArg List.length he
            rw [its_len] at this
            exact this
          rw [hl]
          have HG1 : Hid (Gr w w1) := (Gr.refl w).alloc.trans hg1
          clear hg1 HP he hl
          go_wp2_with fail
          refine (HA.out _).mono ?_
          rintro e2 w2 ⟨rfl, hg2⟩
          go_wp2
          go_ret
          exact ⟨rfl, HG1.out.trans hg2⟩
        | true =>
          rw [hok] at HP
          simp only [if_true] at HP
          have HOk := Lib.hid hok
          clear hok
          generalize pk ⟨k0, r, n, L, dt, y⟩ = p at *
          have HB0 := Lib.hid (Cs.new w [.int .i64 k0, .int .i64 r, .int .i64 n, .slice ad ll cap, .string dt, .int .i64 y] 37 _ rfl)
          go_enter Try.func5, Try.ntmps5
          go_wp2_with fail
          refine (HP.out (w.alloc (.cells #[.int .i64 k0, .int .i64 r, .int .i64 n, .slice ad ll cap, .string dt, .int .i64 y] 37)) (w.heap.size + 1) (by simp) (Gr.refl w).alloc).mono ?_
          rintro e1 w1 ⟨a, c, E, rfl, hb, he, hg1⟩
          obtain ⟨ho, hl⟩ := OneAt.of hb he
          rw [hl]
          have HO := Lib.hid ho
          have HG1 : Hid (Gr w w1) := (Gr.refl w).alloc.trans hg1
          have HGb := Lib.hid hg1
          have HBx := Lib.hid (HB0.out.gr hg1)
          clear hb he ho hl hg1 HP E HB0
          go_wp2
          go_loopw [5, 7, 8, 9] (fun s5 s7 s8 s9 wr => ∃ (t nx st : Int) (a : Option Addr) (c : Nat), s9 = .int .i64 t ∧ s5 = .slice a 1 c ∧ s7 = .int .i64 nx ∧ s8 = .int .i64 st ∧ OneAt wr a c ⟨1, nx, st, p⟩ ∧ now ≤ t ∧ t ≤ now + 60 ∧ t ≤ nx ∧ nx ≤ t + 8 ∧ 0 ≤ st ∧ st ≤ t - now ∧ Gr w1 wr) (fun _ _ _ s9 _ => (now + 60 - intOf s9).toNat)
          case atStart => exact ⟨now, now, 0, a, c, rfl, rfl, rfl, rfl, HO.out, by omega, by omega, by omega, by omega, by omega, by omega, Gr.refl _⟩
          case round =>
            clear HO
            obtain ⟨t, nx, st, a, c, rfl, rfl, rfl, rfl, ho, t1, t2, t3, t4, t5, t6, hg⟩ := hrel
            have HO := Lib.hid ho
            have HG := Lib.hid hg
            clear ho hg
            by_cases hlt : t < now + 60
            · have HMx : Hid (Ox.mayB okN [⟨1, nx, st, p⟩] = true) := one_row HOk.out ⟨by omega, by omega⟩ ⟨by omega, by omega⟩
              have hdx := HD.out a c ⟨1, nx, st, p⟩ t wr HO.out (decide_eq_true ⟨by omega, by omega⟩) HMx.out
              by_cases hnx : nx = t
              · subst hnx
                obtain ⟨dl1, dl2⟩ := HDl.out (st + 1)
                have HTk : Hid (Ox.tick nx (⟨1, nx, st, p⟩ : Ox.It Nx) = ⟨1, nx + Ox.del (st + 1), st + 1, p⟩) := by
                  show _ = _
                  unfold Ox.tick Ox.more
                  rw [if_pos (Int.le_refl _), if_pos (by show st < 1000000; omega)]
                rw [if_pos (show (Ox.It.mk 1 nx st p : Ox.It Nx).d ≤ nx from Int.le_refl _), HTk.out] at hdx
                have HX := Lib.hid hdx
                have HDn := Lib.hid (HDe.out (st + 1))
                have HMx2 : Hid (Ox.mayB okN [⟨1, nx + Ox.del (st + 1), st + 1, p⟩] = true) := one_row HOk.out ⟨by omega, by omega⟩ ⟨by omega, by omega⟩
                have HHx2 : Hid (Ox.hasB okN [⟨1, nx + Ox.del (st + 1), st + 1, p⟩] p = true) := one_has HOk.out ⟨by omega, by omega⟩ ⟨by omega, by omega⟩
                clear hdx HTk HMx
                generalize Ox.del (st + 1) = dl at *
                go_wp2_with fail
                refine HX.out.mono ?_
                rintro e2 w2 ⟨a1, cc1, a2, cc2, E2, rfl, ho1, hb2, he2, hg2⟩
                obtain ⟨ho2, hl2⟩ := OneAt.of hb2 he2
                rw [hl2]
                obtain ⟨b, off, rfl, hbl, d0, d1, d2⟩ := ho2.cells
                dsimp only at d0 d1 d2
                have HO1 := Lib.hid ho1
                have HG2 := Lib.hid (HG.out.trans hg2)
                clear ho1 hb2 he2 hg2 ho2 hl2 E2 HX HG HO
                go_wp2_with fail
                refine (HDn.out _).mono ?_
                rintro e3 w3 ⟨rfl, hw3⟩; obtain rfl := hw3.symm
                go_wp2_with fail
                refine (HMy.out _ _ _ _ HO1.out HMx2.out).mono ?_
                rintro e4 w4 ⟨rfl, hg4⟩
                have HO4 := Lib.hid (HO1.out.gr hg4)
                have HG4 := Lib.hid (HG2.out.trans hg4)
                have B4 := HBx.out.gr HG4.out
                have z0 := B4.at_ 0 _ rfl
                have z1 := B4.at_ 1 _ rfl
                have z2 := B4.at_ 2 _ rfl
                have z3 := B4.at_ 3 _ rfl
                have z4 := B4.at_ 4 _ rfl
                have z5 := B4.at_ 5 _ rfl
                have zf0 := B4.fz 0 (by simp)
                have zf1 := B4.fz 1 (by simp)
                have zf2 := B4.fz 2 (by simp)
                have zf3 := B4.fz 3 (by simp)
                have zf4 := B4.fz 4 (by simp)
                have zf5 := B4.fz 5 (by simp)
                have zlt := B4.lt
                clear hg4 HO1 HG2 d0 d1 d2 B4 zf0 zf1 zf2 zf3 zf4 zf5
                go_wp2_with fail
                refine (HH.out _ _ _ _ HO4.out HHx2.out (HG1.out.trans HG4.out)).mono ?_
                rintro e5 w5 ⟨rfl, hg5⟩
                have HO5 := Lib.hid (HO4.out.gr hg5)
                have HG5 := Lib.hid (HG4.out.trans hg5)
                clear hg5 HO4 HG4 z0 z1 z2 z3 z4 z5
                go_wp2
                go_roundw
                case rel => exact ⟨nx + 1, nx + dl, st + 1, a1, cc1, by go_num, rfl, by go_num, by go_num, HO5.out, by omega, by omega, by omega, by omega, by omega, by omega, HG5.out⟩
                case measure => simp [intOf]; omega
              · have HTk : Hid (Ox.tick t (⟨1, nx, st, p⟩ : Ox.It Nx) = ⟨1, nx, st, p⟩) := by
                  show _ = _
                  unfold Ox.tick
                  rw [if_neg (by show ¬ nx ≤ t; omega)]
                rw [if_neg (show ¬ (Ox.It.mk 1 nx st p : Ox.It Nx).d ≤ t by show ¬ nx ≤ t; omega), HTk.out] at hdx
                have HX := Lib.hid hdx
                have HHx2 : Hid (Ox.hasB okN [⟨1, nx, st, p⟩] p = true) := one_has HOk.out ⟨by omega, by omega⟩ ⟨by omega, by omega⟩
                have htn : (t == nx) = false := by rw [beq_eq_false_iff_ne]; omega
                clear hdx HTk hnx
                go_wp2_with fail
                refine HX.out.mono ?_
                rintro e2 w2 ⟨a1, cc1, a2, cc2, E2, rfl, ho1, hb2, he2, hg2⟩
                have hl2 : E2.length = 0 := by
                  have := congrArg List.length he2
                  rw [its_len] at this
                  exact this
                rw [hl2]
                have HO1 := Lib.hid ho1
                have HG2 := Lib.hid (HG.out.trans hg2)
                clear ho1 hb2 he2 hg2 hl2 E2 HX HG HO
                go_wp2_with fail
                refine (HMy.out _ _ _ _ HO1.out HMx.out).mono ?_
                rintro e4 w4 ⟨rfl, hg4⟩
                have HO4 := Lib.hid (HO1.out.gr hg4)
                have HG4 := Lib.hid (HG2.out.trans hg4)
                have B4 := HBx.out.gr HG4.out
                have z0 := B4.at_ 0 _ rfl
                have z1 := B4.at_ 1 _ rfl
                have z2 := B4.at_ 2 _ rfl
                have z3 := B4.at_ 3 _ rfl
                have z4 := B4.at_ 4 _ rfl
                have z5 := B4.at_ 5 _ rfl
                have zf0 := B4.fz 0 (by simp)
                have zf1 := B4.fz 1 (by simp)
                have zf2 := B4.fz 2 (by simp)
                have zf3 := B4.fz 3 (by simp)
                have zf4 := B4.fz 4 (by simp)
                have zf5 := B4.fz 5 (by simp)
                have zlt := B4.lt
                clear hg4 HO1 HG2 B4 zf0 zf1 zf2 zf3 zf4 zf5
                go_wp2_with fail
                refine (HH.out _ _ _ _ HO4.out HHx2.out (HG1.out.trans HG4.out)).mono ?_
                rintro e5 w5 ⟨rfl, hg5⟩
                have HO5 := Lib.hid (HO4.out.gr hg5)
                have HG5 := Lib.hid (HG4.out.trans hg5)
                clear hg5 HO4 HG4 z0 z1 z2 z3 z4 z5
                go_wp2
                go_roundw
                case rel => exact ⟨t + 1, nx, st, a1, cc1, by go_num, rfl, rfl, rfl, HO5.out, by omega, by omega, by rw [beq_eq_false_iff_ne] at htn; omega, by omega, by omega, by omega, HG5.out⟩
                case measure => simp [intOf]; omega
            · go_wp2_with fail
              refine (HA.out _).mono ?_
              rintro e2 w2 ⟨rfl, hg2⟩
              go_wp2
              go_ret
              exact ⟨rfl, (HG1.out.trans HG.out).trans hg2⟩

set_option maxRecDepth 100000 in
theorem outboxDue_lifted (os : Os) (started : os.Started) (H : Type) (enc : TypeId × Value → H) :
    ReturnsInHanded {} Try.checked os 5 .any (Rows.outboxDueSpec.pre6 enc Try.prog Try.f5 Rows.outboxDueRow.domain false) (Rows.outboxDueSpec.post enc Try.prog Try.f5 false true false false) := by
  refine returnsInHanded_of_change (C := Try.checked) own2 started (by kernel_rfl) Try.func5
    (ChangeSpec.witness6 (enc := enc) (C := Try.checked) false ⟨#[], #[.agg #[.int .i64 0, .int .i64 0, .int .i64 0, .slice none 0 0, .string ⟨#[]⟩, .int .i64 0], .int .i64 0], []⟩ 8 (by kernel_rfl) (by kernel_rfl) (by kernel_rfl) (by kernel_rfl)) ?_
  intro W base args ds gs before hval0 hW hcnd _
  have hval : ∀ (j : Nat) t v, Try.f5.params[j]? = some t → args[j]? = some v → Value.okWide Try.prog W .any base t v := hval0
  have hW' := hW
  obtain ⟨p, q, hA0, hV, rfl, hfz, hnd⟩ := hW
  have hA : DataW.TrodAll enc Try.prog W 0 (fun _ => true) true Try.f5.params.toList args.toList ds p := hA0
  rw [Try.params5] at hA hval
  obtain ⟨v0, v1, d0, d1, p0, p1, rfl, rfl, rfl, q0, q1⟩ := trodAll_two hA
  obtain ⟨rfl, rfl⟩ := trodVars_none hV
  have k0 := q0
  have lt0 : ∀ x ∈ p0, x.block < W.heap.size := by obtain ⟨m, hm⟩ := k0; exact DataW.trod_lt m _ _ _ hm
  obtain ⟨x0, ad0, cap0, rfl, hp0, hl0, hc0, hd0⟩ := open_note (hval 0 37 v0 rfl rfl) q0
  obtain ⟨a1, rfl, rfl, rfl, wa1⟩ := open_int Try.underlying3 (hval 1 3 v1 rfl rfl) q1
  have rg1 := rng_i64 wa1
  clear hA0 hval0
  refine (outboxDue_walk ⟨x0, ad0, cap0⟩ a1 W ⟨hp0, hl0, hc0, hd0⟩).mono fun e W' ⟨he, hg⟩ => ?_
  subst he
  exact ⟨_, rfl, _, _, _, [], _, [], hW', trodAll_mk1 (shut_bool Try.underlying4 _), trodAll_mk2 (Below.trod laidOut2 (by kernel_rfl) (of_decide_eq_true (by kernel_rfl)) k0 hg.below lt0) (shut_int Try.underlying3 wa1), rfl, hg.below.frame _, fun h => by cases h⟩

theorem outboxDue_holds : Rows.OutboxDueSaid :=
  OpenClaim.holds_of_wide 5 Try.f5 rfl rfl rfl rfl rfl rfl rfl ⟨rfl, rfl, rfl, rfl, rfl⟩ rfl rfl rfl rfl rfl (by kernel_rfl) Try.func5 (by kernel_rfl)
    (of_decide_eq_true (by kernel_rfl)) (by unfold Func.isWrapper; first | (rw [if_pos (by decide +kernel)]; kernel_rfl) | (rw [if_neg (by decide +kernel)]; exact ⟨rfl, rfl⟩))
    (fun os started H enc _ => outboxDue_lifted os started H enc)
end Go.Proofs.Ytilkfgpcibdikaa
