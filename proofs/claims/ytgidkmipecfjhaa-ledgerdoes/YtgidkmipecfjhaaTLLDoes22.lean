/- What the proof is made of, part 22. -/
import Derived.Test.YtgidkmipecfjhaaTLLDoes21
namespace Go.Proofs.Ytgidkmipecfjhaa
open Go.RowKit
open Led (Acc Mk)
theorem xK_any (x : Acc) (k n : Int) (t : ByteArray) (w : World) (hx : inA x) (ht : t.size ≤ 9223372036854775807) :
    Calls Try.prog 62 #[.agg #[.string x.s, .int .i64 x.a, .int .i64 x.b, .int .i64 x.c, .int .i64 x.x, .int .i64 x.y, .int .i64 x.z], .agg #[.int .i64 k, .string t, .int .i64 n]] w fun e w' =>
      e = .returned (.tuple #[.agg #[.string (mvY Act.chKe x k t n).s, .int .i64 (mvY Act.chKe x k t n).a, .int .i64 (mvY Act.chKe x k t n).b, .int .i64 (mvY Act.chKe x k t n).c, .int .i64 (mvY Act.chKe x k t n).x, .int .i64 (mvY Act.chKe x k t n).y, .int .i64 (mvY Act.chKe x k t n).z], .int .i64 (mvX Act.chKe x k t n)]) ∧ Gr w w' :=
  actK_any x.s x.a x.b x.c x.x x.y x.z k n t w hx.1 ht hx.2.1.1.2 hx.2.1.2.2.2 hx.2.2.1.2 hx.2.2.2.2.2
set_option maxHeartbeats 4000000 in
set_option maxRecDepth 100000 in
theorem endK_no (A : List Acc) (M : List Mk) (key : ByteArray) (adA : Option Addr) (capA : Nat) (adM : Option Addr) (capM : Nat) (w : World) (h : LedAt w adA adM A M) (hs : key.size ≤ 9223372036854775807) (he : endE Act.chKe 3 A M key ≠ 0) :
    Calls Try.prog 60 #[.agg #[.slice adA A.length capA, .slice adM M.length capM], .string key, .int .i64 3, .func (.func 62) #[] #[]] w fun e w' => e = .returned (.tuple #[.agg #[.slice none 0 0, .slice none 0 0], .int .i64 (endE Act.chKe 3 A M key)]) ∧ Gr w w' := by
  have HM : Hid (∀ w', Gr w w' → Calls Try.prog 14 #[.agg #[.slice adA A.length capA, .slice adM M.length capM]] w' fun e w2 => e = .returned (.int .i64 (mayL A M)) ∧ Gr w' w2) := fun w' g => (h.gr g).may capA capM
  have HK : Hid (∀ w', Calls Try.prog 55 #[.string key] w' fun e w2 => e = .returned (.bool (Led.keyB key)) ∧ w2 = w') := fun w' => isKey_any key w' hs
  have hmf : ∀ (fn : Fn) (first cap : Array Value) (w : World), (Instr.makeFunc fn first cap).run Try.prog w = .ok (.func fn first cap) w := fun _ _ _ _ => rfl
  cases hm : Led.mayB A M with
  | false =>
    have HE : Hid (endE Act.chKe 3 A M key = 2) := by show _ = _; unfold endE; rw [hm]; rfl
    rw [mayL_no hm] at HM
    clear h hm he HK
    go_enter Try.func60, Try.ntmps60
    go_wp2_with fail
    refine (HM.out _ ((Gr.refl _).alloc.alloc)).mono ?_
    rintro e w1 ⟨rfl, hg1⟩
    have HB1 : Hid (TwoAt w1 w.heap.size (.slice adA A.length capA) (.slice adM M.length capM)) := ((TwoAt.new w _ _ _ _ rfl).gr (Gr.refl _).alloc).gr hg1
    have HR1 : Hid (TwoAt w1 (w.heap.size + 1) (.slice none 0 0) (.slice none 0 0)) := (TwoAt.new _ _ _ _ (w.heap.size + 1) (by simp)).gr hg1
    have g1 : Gr w w1 := (by repeat (first | exact Gr.refl _ | refine Gr.alloc ?_ | refine Gr.drew ?_ | refine Gr.trans ?_ (by assumption)))
    clear hg1
    obtain ⟨r0, r1, f0, f1, rl⟩ := HR1.out
    go_wp2
    exact bodyPost_ret (v := .tuple #[.agg #[.slice none 0 0, .slice none 0 0], .int .i64 2]) (by simp [results, Try.results60, go_sem, *]) rfl ⟨by rw [HE.out], (g1.set _ (by simp) _).set _ (by simp) _⟩
  | true =>
    rw [mayL_yes hm] at HM
    have hM := (Led.may_iff A M).1 hm
    have HF : Hid (∀ w', Gr w w' → Calls Try.prog 47 #[.slice adM M.length capM, .string key] w' fun e w2 => e = .returned (.tuple #[.int .i64 (Led.pos (Led.ky M) key : Nat), .bool (Led.hasB (Led.ky M) key)]) ∧ Gr w' w2) := fun w' g => findM_any M key adM capM w' (h.m.gr g) hM.um (by have := hM.lm; omega)
    cases hkb : Led.keyB key with
    | false =>
      have HE : Hid (endE Act.chKe 3 A M key = 2) := by show _ = _; unfold endE; rw [hm, hkb]; rfl
      rw [hkb] at HK
      clear h hm he hM HF hkb
      go_enter Try.func60, Try.ntmps60
      go_wp2_with fail
      refine (HM.out _ ((Gr.refl _).alloc.alloc)).mono ?_
      rintro e w1 ⟨rfl, hg1⟩
      have HB1 : Hid (TwoAt w1 w.heap.size (.slice adA A.length capA) (.slice adM M.length capM)) := ((TwoAt.new w _ _ _ _ rfl).gr (Gr.refl _).alloc).gr hg1
      have HR1 : Hid (TwoAt w1 (w.heap.size + 1) (.slice none 0 0) (.slice none 0 0)) := (TwoAt.new _ _ _ _ (w.heap.size + 1) (by simp)).gr hg1
      have g1 : Gr w w1 := (by repeat (first | exact Gr.refl _ | refine Gr.alloc ?_ | refine Gr.drew ?_ | refine Gr.trans ?_ (by assumption)))
      clear hg1
      go_wp2_with fail
      refine (HK.out _).mono ?_
      rintro e w2 ⟨rfl, hw2⟩; obtain rfl := hw2.symm
      obtain ⟨r0, r1, f0, f1, rl⟩ := HR1.out
      go_wp2
      exact bodyPost_ret (v := .tuple #[.agg #[.slice none 0 0, .slice none 0 0], .int .i64 2]) (by simp [results, Try.results60, go_sem, *]) rfl ⟨by rw [HE.out], (g1.set _ (by simp) _).set _ (by simp) _⟩
    | true =>
      rw [hkb] at HK
      cases hh : Led.hasB (Led.ky M) key with
      | false =>
        rw [hh] at HF
        have HE : Hid (endE Act.chKe 3 A M key = 70) := by show _ = _; unfold endE; rw [hm, hkb, hh]; rfl
        clear h hm he hM hkb hh
        generalize Led.pos (Led.ky M) key = p at *
        go_enter Try.func60, Try.ntmps60
        go_wp2_with fail
        refine (HM.out _ ((Gr.refl _).alloc.alloc)).mono ?_
        rintro e w1 ⟨rfl, hg1⟩
        have HB1 : Hid (TwoAt w1 w.heap.size (.slice adA A.length capA) (.slice adM M.length capM)) := ((TwoAt.new w _ _ _ _ rfl).gr (Gr.refl _).alloc).gr hg1
        have HR1 : Hid (TwoAt w1 (w.heap.size + 1) (.slice none 0 0) (.slice none 0 0)) := (TwoAt.new _ _ _ _ (w.heap.size + 1) (by simp)).gr hg1
        have g1 : Gr w w1 := (by repeat (first | exact Gr.refl _ | refine Gr.alloc ?_ | refine Gr.drew ?_ | refine Gr.trans ?_ (by assumption)))
        clear hg1
        go_wp2_with fail
        refine (HK.out _).mono ?_
        rintro e w2 ⟨rfl, hw2⟩; obtain rfl := hw2.symm
        obtain ⟨b0, b1, _, _, bl⟩ := HB1.out
        go_wp2_with fail
        refine (HF.out _ g1).mono ?_
        rintro e w3 ⟨rfl, hg3⟩
        have HB3 : Hid (TwoAt w3 w.heap.size (.slice adA A.length capA) (.slice adM M.length capM)) := HB1.out.gr hg3
        have HR3 : Hid (TwoAt w3 (w.heap.size + 1) (.slice none 0 0) (.slice none 0 0)) := HR1.out.gr hg3
        have g3 : Gr w w3 := g1.trans hg3
        clear hg3 g1 b0 b1 bl HB1 HR1
        obtain ⟨r0, r1, f0, f1, rl⟩ := HR3.out
        go_wp2
        exact bodyPost_ret (v := .tuple #[.agg #[.slice none 0 0, .slice none 0 0], .int .i64 70]) (by simp [results, Try.results60, go_sem, *]) rfl ⟨by rw [HE.out], (g3.set _ (by simp) _).set _ (by simp) _⟩
      | true =>
        rw [hh] at HF
        obtain ⟨hp, _⟩ := Led.pos_mem hM.um ((Led.has_iff _ _).1 hh)
        rw [Led.ky_len] at hp
        have hE0 : endE Act.chKe 3 A M key = if (atM M key).st = 3 then 0 else if (atM M key).st = 1 then mvX Act.chKe (atA A (atM M key).t) (atM M key).k (atM M key).t (atM M key).n else 72 := by unfold endE; rw [hm, hkb, hh]; rfl
        have hx : M[Led.pos (Led.ky M) key] = atM M key := by unfold atM; rw [List.getD_eq_getElem?_getD, List.getElem?_eq_getElem hp]; rfl
        obtain ⟨bm, offm, had, hbw, d0, d1, d2, d3, d4⟩ := (MksAt.at h.m (Led.pos (Led.ky M) key) hp)
        rw [hx] at d0 d1 d2 d3 d4
        have hpi : (Led.pos (Led.ky M) key : Int) < (M.length : Int) := by omega
        have hn1 : (atM M key).st ≠ 3 := fun e => he (by rw [hE0, if_pos e])
        have hb1 : ((atM M key).st == 3) = false := by simpa using hn1
        by_cases hn2 : (atM M key).st = 1
        · have hE1 : endE Act.chKe 3 A M key = mvX Act.chKe (atA A (atM M key).t) (atM M key).k (atM M key).t (atM M key).n := by rw [hE0, if_neg hn1, if_pos hn2]
          obtain ⟨h21, h22, h23, h24, h25⟩ := (Led.mk_iff A (atM M key)).1 (hM.om _ (by rw [← hx]; exact List.getElem_mem hp))
          obtain ⟨hpA, hpe⟩ := Led.pos_mem hM.ua h23
          rw [Led.nm_len] at hpA
          obtain ⟨b, off, rfl⟩ : ∃ b off, adA = some ⟨b, off, none⟩ := by obtain ⟨b, off, e, _⟩ := AccsAt.at h.a (Led.pos (Led.nm A) (atM M key).t) hpA; exact ⟨b, off, e⟩
          have hxA : A[Led.pos (Led.nm A) (atM M key).t] = atA A (atM M key).t := by unfold atA; rw [List.getD_eq_getElem?_getD, List.getElem?_eq_getElem hpA]; rfl
          have hxa : inA (atA A (atM M key).t) := by rw [← hxA]; exact h.ra _ (List.getElem_mem hpA)
          have htm : (atM M key).t.size ≤ 9223372036854775807 := by have := (Act.name_pos ((Act.act_iff _ _ _).1 h22).2.1).2; omega
          have HFA : Hid (∀ w', Gr w w' → Calls Try.prog 30 #[.slice (some ⟨b, off, none⟩) A.length capA, .string (atM M key).t] w' fun e w2 => e = .returned (.tuple #[.int .i64 (Led.pos (Led.nm A) (atM M key).t : Nat), .bool true]) ∧ Gr w' w2) := fun w' g => by have := findA_any A (atM M key).t _ capA w' (h.a.gr g) hM.ua (by have := hM.la; omega); rw [(Led.has_iff _ _).2 h23] at this; exact this
          subst had
          have HCH : Hid (∀ w', Gr w w' → Calls Try.prog 82 #[.agg #[.slice (some ⟨b, off, none⟩) A.length capA, .slice (some ⟨bm, offm, none⟩) M.length capM], .func (.func 30) #[.slice (some ⟨b, off, none⟩) A.length capA] #[], .agg #[.int .i64 (atM M key).k, .string (atM M key).t, .int .i64 (atM M key).n], .func (.func 62) #[] #[]] w' fun e w2 => e = .returned (.tuple #[.agg #[.slice none 0 0, .slice none 0 0], .int .i64 (endE Act.chKe 3 A M key)]) ∧ Gr w' w2) := by
            intro w' g
            rw [hE1] at he ⊢
            exact changedK_no A M (atA A (atM M key).t) (mvY Act.chKe (atA A (atM M key).t) (atM M key).k (atM M key).t (atM M key).n) _ _ _ _ _ b off capA _ capM w' hpA hxA (h.a.gr g) he (fun w'' g2 => HFA.out w'' (g.trans g2)) (fun w'' => xK_any _ _ _ _ w'' hxa htm)
          have hne : (endE Act.chKe 3 A M key != 0) = true := by simpa using he
          rw [hn2] at d4
          clear he hm hM hkb hh hE0 hE1 hx h hn1 hn2 hb1 h21 h22 h23 h24 h25 hpA hpe hxA hxa htm HFA d0 hp
          generalize endE Act.chKe 3 A M key = er at *
          generalize (atM M key).k = mk at *
          generalize (atM M key).t = mt at *
          generalize (atM M key).n = mn at *
          generalize Led.pos (Led.ky M) key = p at *
          obtain ⟨adA, hadA⟩ : ∃ x, x = some (⟨b, off, none⟩ : Addr) := ⟨_, rfl⟩
          obtain ⟨adM, hadM⟩ : ∃ x, x = some (⟨bm, offm, none⟩ : Addr) := ⟨_, rfl⟩
          clear hadA hadM adA adM
          go_enter Try.func60, Try.ntmps60
          go_wp2_with fail
          refine (HM.out _ ((Gr.refl _).alloc.alloc)).mono ?_
          rintro e w1 ⟨rfl, hg1⟩
          have HB1 : Hid (TwoAt w1 w.heap.size (.slice (some ⟨b, off, none⟩) A.length capA) (.slice (some ⟨bm, offm, none⟩) M.length capM)) := ((TwoAt.new w _ _ _ _ rfl).gr (Gr.refl _).alloc).gr hg1
          have HR1 : Hid (TwoAt w1 (w.heap.size + 1) (.slice none 0 0) (.slice none 0 0)) := (TwoAt.new _ _ _ _ (w.heap.size + 1) (by simp)).gr hg1
          have g1 : Gr w w1 := (by repeat (first | exact Gr.refl _ | refine Gr.alloc ?_ | refine Gr.drew ?_ | refine Gr.trans ?_ (by assumption)))
          clear hg1
          go_wp2_with fail
          refine (HK.out _).mono ?_
          rintro e w2 ⟨rfl, hw2⟩; obtain rfl := hw2.symm
          obtain ⟨b0, b1, _, _, bl⟩ := HB1.out
          go_wp2_with fail
          refine (HF.out _ g1).mono ?_
          rintro e w3 ⟨rfl, hg3⟩
          have HB3 : Hid (TwoAt w3 w.heap.size (.slice (some ⟨b, off, none⟩) A.length capA) (.slice (some ⟨bm, offm, none⟩) M.length capM)) := HB1.out.gr hg3
          have HR3 : Hid (TwoAt w3 (w.heap.size + 1) (.slice none 0 0) (.slice none 0 0)) := HR1.out.gr hg3
          have g3 : Gr w w3 := g1.trans hg3
          clear hg3 g1 b0 b1 bl HB1 HR1
          obtain ⟨b0, b1, bf0, bf1, bl⟩ := HB3.out
          have d1 := g3.keep d1
          have d2 := g3.keep d2
          have d3 := g3.keep d3
          have d4 := g3.keep d4
          have hbw3 : bm < w3.heap.size := Nat.lt_of_lt_of_le hbw g3.size
          go_upto_region 11 with fail
          have hk : Gr w w3.drew ∧ w3.drew.cell? ⟨w.heap.size, 0, none⟩ = some (.slice (some ⟨b, off, none⟩) A.length capA) ∧ w3.drew.cell? ⟨w.heap.size, 1, none⟩ = some (.slice (some ⟨bm, offm, none⟩) M.length capM) ∧ w3.drew.cell? ⟨bm, offm + p * 5 + 1, none⟩ = some (.int .i64 mk) ∧ w3.drew.cell? ⟨bm, offm + p * 5 + 2, none⟩ = some (.string mt) ∧ w3.drew.cell? ⟨bm, offm + p * 5 + 3, none⟩ = some (.int .i64 mn) := ⟨g3.drew, b0, b1, d1, d2, d3⟩
          clear b0 b1 d1 d2 d3 d4
          refine beginL 15 (fun w' => Gr w w' ∧ w'.cell? ⟨w.heap.size, 0, none⟩ = some (.slice (some ⟨b, off, none⟩) A.length capA) ∧ w'.cell? ⟨w.heap.size, 1, none⟩ = some (.slice (some ⟨bm, offm, none⟩) M.length capM) ∧ w'.cell? ⟨bm, offm + p * 5 + 1, none⟩ = some (.int .i64 mk) ∧ w'.cell? ⟨bm, offm + p * 5 + 2, none⟩ = some (.string mt) ∧ w'.cell? ⟨bm, offm + p * 5 + 3, none⟩ = some (.int .i64 mn)) (by kernel_rfl) (by with_reducible exact hk) (fun hHeld => ?_)
          refine takeS 0 47 (v := ?_) rfl rfl (by decide) (by kernel_rfl) (by kernel_rfl) (by kernel_rfl) (by kernel_rfl) (by kernel_rfl) (fun _ _ _ h => h) (by rfl) ?_ hHeld ?_
          rotate_left
          · (intro w; (try intro hSw); (try dsimp only at hSw); go_simp; try with_reducible rfl)
          simp only [Act.put, List.setIfInBounds_toArray, List.set_cons_zero, List.set_cons_succ]
          refine takeW 1 48 (v := ?_) rfl rfl (by decide) (by kernel_rfl) (by kernel_rfl) (by kernel_rfl) (fun _ _ _ h => h) (by rfl) ?_ (fun _ => hHeld) ?_
          rotate_left
          · (intro w; (try intro hSw); (try dsimp only at hSw); go_simp; try with_reducible rfl)
          simp only [Act.put, List.setIfInBounds_toArray, List.set_cons_zero, List.set_cons_succ]
          refine takeS 2 49 (v := ?_) rfl rfl (by decide) (by kernel_rfl) (by kernel_rfl) (by kernel_rfl) (by kernel_rfl) (by kernel_rfl) (fun _ _ _ h => h) (by rfl) ?_ hHeld ?_
          rotate_left
          · (intro w; (try intro hSw); (try dsimp only at hSw); go_simp; try with_reducible rfl)
          simp only [Act.put, List.setIfInBounds_toArray, List.set_cons_zero, List.set_cons_succ]
          refine takeW 3 50 (v := ?_) rfl rfl (by decide) (by kernel_rfl) (by kernel_rfl) (by kernel_rfl) (fun _ _ _ h => h) (by rfl) ?_ (fun _ => hHeld) ?_
          rotate_left
          · (intro w; (try intro hSw); (try dsimp only at hSw); go_simp; try with_reducible rfl)
          simp only [Act.put, List.setIfInBounds_toArray, List.set_cons_zero, List.set_cons_succ]
          refine takeW 4 51 (v := ?_) rfl rfl (by decide) (by kernel_rfl) (by kernel_rfl) (by kernel_rfl) (fun _ _ _ h => h) (by rfl) ?_ (fun _ => hHeld) ?_
          rotate_left
          · (intro w; (try intro hSw); (try dsimp only at hSw); go_simp; try with_reducible rfl)
          simp only [Act.put, List.setIfInBounds_toArray, List.set_cons_zero, List.set_cons_succ]
          refine takeS 5 52 (v := ?_) rfl rfl (by decide) (by kernel_rfl) (by kernel_rfl) (by kernel_rfl) (by kernel_rfl) (by kernel_rfl) (fun _ _ _ h => h) (by rfl) ?_ hHeld ?_
          rotate_left
          · (intro w; (try intro hSw); (try dsimp only at hSw); go_simp; try with_reducible rfl)
          simp only [Act.put, List.setIfInBounds_toArray, List.set_cons_zero, List.set_cons_succ]
          refine takeW 6 53 (v := ?_) rfl rfl (by decide) (by kernel_rfl) (by kernel_rfl) (by kernel_rfl) (fun _ _ _ h => h) (by rfl) ?_ (fun _ => hHeld) ?_
          rotate_left
          · (intro w; (try intro hSw); (try dsimp only at hSw); go_simp; try with_reducible rfl)
          simp only [Act.put, List.setIfInBounds_toArray, List.set_cons_zero, List.set_cons_succ]
          refine takeW 7 54 (v := ?_) rfl rfl (by decide) (by kernel_rfl) (by kernel_rfl) (by kernel_rfl) (fun _ _ _ h => h) (by rfl) ?_ (fun _ => hHeld) ?_
          rotate_left
          · (intro w; (try intro hSw); (try dsimp only at hSw); go_simp; try with_reducible rfl)
          simp only [Act.put, List.setIfInBounds_toArray, List.set_cons_zero, List.set_cons_succ]
          refine takeW 8 55 (v := ?_) rfl rfl (by decide) (by kernel_rfl) (by kernel_rfl) (by kernel_rfl) (fun _ _ _ h => h) (by rfl) ?_ (fun _ => hHeld) ?_
          rotate_left
          · (intro w; (try intro hSw); (try dsimp only at hSw); go_simp; try with_reducible rfl)
          simp only [Act.put, List.setIfInBounds_toArray, List.set_cons_zero, List.set_cons_succ]
          refine takeS 9 56 (v := ?_) rfl rfl (by decide) (by kernel_rfl) (by kernel_rfl) (by kernel_rfl) (by kernel_rfl) (by kernel_rfl) (fun _ _ _ h => h) (by rfl) ?_ hHeld ?_
          rotate_left
          · (intro w; (try intro hSw); (try dsimp only at hSw); go_simp; try with_reducible rfl)
          simp only [Act.put, List.setIfInBounds_toArray, List.set_cons_zero, List.set_cons_succ]
          refine takeW 10 57 (v := ?_) rfl rfl (by decide) (by kernel_rfl) (by kernel_rfl) (by kernel_rfl) (fun _ _ _ h => h) (by rfl) ?_ (fun _ => hHeld) ?_
          rotate_left
          · (intro w; (try intro hSw); (try dsimp only at hSw); go_simp; try with_reducible rfl)
          simp only [Act.put, List.setIfInBounds_toArray, List.set_cons_zero, List.set_cons_succ]
          refine stepC 11 (by kernel_rfl) rfl (fun K hK => ?_)
          go_simp
          (go_at_call 82; refine (HCH.out _ g3.drew).mono ?_; rintro e w4 ⟨rfl, hg4⟩; replace hk := hk6 hk hg4; obtain ⟨b0, b1, bf0, bf1, bl⟩ := (HB3.out.gr (Gr.refl _).drew).gr hg4)
          (try go_wp2_with fail)
          refine hK.out _ _ (by with_reducible exact hk) (fun hHeldN => ?_)
          clear hHeld hK K
          have hHeld := hHeldN
          clear hHeldN
          refine takeW 12 46 (v := ?_) rfl rfl (by decide) (by kernel_rfl) (by kernel_rfl) (by kernel_rfl) (fun _ _ _ h => h) (by rfl) ?_ (fun _ => hHeld) ?_
          rotate_left
          · (intro w; (try intro hSw); (try dsimp only at hSw); go_simp; try with_reducible rfl)
          simp only [Act.put, List.setIfInBounds_toArray, List.set_cons_zero, List.set_cons_succ]
          refine takeW 13 59 (v := ?_) rfl rfl (by decide) (by kernel_rfl) (by kernel_rfl) (by kernel_rfl) (fun _ _ _ h => h) (by rfl) ?_ (fun _ => hHeld) ?_
          rotate_left
          · (intro w; (try intro hSw); (try dsimp only at hSw); go_simp; try with_reducible rfl)
          simp only [Act.put, List.setIfInBounds_toArray, List.set_cons_zero, List.set_cons_succ]
          refine takeW 14 60 (v := ?_) rfl rfl (by decide) (by kernel_rfl) (by kernel_rfl) (by kernel_rfl) (fun _ _ _ h => h) (by rfl) ?_ (fun _ => hHeld) ?_
          rotate_left
          · (intro w; (try intro hSw); (try dsimp only at hSw); go_simp; try with_reducible rfl)
          simp only [Act.put, List.setIfInBounds_toArray, List.set_cons_zero, List.set_cons_succ]
          refine stepS (by kernel_rfl) rfl (by kernel_rfl) (fun K hK => ?_)
          go_simp
          refine hK.out _ _ ?_
          clear hHeld hK K
          refine takeW 16 12 (v := ?_) rfl rfl (by decide) (by kernel_rfl) (by kernel_rfl) (by kernel_rfl) (fun _ _ _ h => h) (by rfl) ?_ (fun h => listed_done (by kernel_rfl) h) ?_
          rotate_left
          · (intro w; (try intro hSw); (try dsimp only at hSw); go_simp; try with_reducible rfl)
          simp only [Act.put, List.setIfInBounds_toArray, List.set_cons_zero, List.set_cons_succ]
          refine doneL (by kernel_rfl) ?_ _
          have g4 : Gr w w4 := g3.drew.trans hg4
          obtain ⟨r0, r1, f0, f1, rl⟩ := (HR3.out.gr (Gr.refl _).drew).gr hg4
          clear hg4 hk g3
          go_wp2
          exact bodyPost_ret (v := .tuple #[.agg #[.slice none 0 0, .slice none 0 0], .int .i64 er]) (by simp [results, Try.results60, go_sem, *]) rfl ⟨rfl, (((g4.set _ (by simp) _).set _ (by simp) _).set _ (by simp) _).set _ (by simp) _⟩
        · have HE : Hid (endE Act.chKe 3 A M key = 72) := by show _ = _; rw [hE0, if_neg hn1, if_neg hn2]
          have hb2 : ((atM M key).st == 1) = false := by simpa using hn2
          clear he hm hM hkb hh hE0 hx h hn1 hn2 d0 hp
          generalize (atM M key).st = ms at *
          generalize Led.pos (Led.ky M) key = p at *
          subst had
          go_enter Try.func60, Try.ntmps60
          go_wp2_with fail
          refine (HM.out _ ((Gr.refl _).alloc.alloc)).mono ?_
          rintro e w1 ⟨rfl, hg1⟩
          have HB1 : Hid (TwoAt w1 w.heap.size (.slice adA A.length capA) (.slice (some ⟨bm, offm, none⟩) M.length capM)) := ((TwoAt.new w _ _ _ _ rfl).gr (Gr.refl _).alloc).gr hg1
          have HR1 : Hid (TwoAt w1 (w.heap.size + 1) (.slice none 0 0) (.slice none 0 0)) := (TwoAt.new _ _ _ _ (w.heap.size + 1) (by simp)).gr hg1
          have g1 : Gr w w1 := (by repeat (first | exact Gr.refl _ | refine Gr.alloc ?_ | refine Gr.drew ?_ | refine Gr.trans ?_ (by assumption)))
          clear hg1
          go_wp2_with fail
          refine (HK.out _).mono ?_
          rintro e w2 ⟨rfl, hw2⟩; obtain rfl := hw2.symm
          obtain ⟨b0, b1, _, _, bl⟩ := HB1.out
          go_wp2_with fail
          refine (HF.out _ g1).mono ?_
          rintro e w3 ⟨rfl, hg3⟩
          have HB3 : Hid (TwoAt w3 w.heap.size (.slice adA A.length capA) (.slice (some ⟨bm, offm, none⟩) M.length capM)) := HB1.out.gr hg3
          have HR3 : Hid (TwoAt w3 (w.heap.size + 1) (.slice none 0 0) (.slice none 0 0)) := HR1.out.gr hg3
          have g3 : Gr w w3 := g1.trans hg3
          clear hg3 g1 b0 b1 bl HB1 HR1
          obtain ⟨b0, b1, bf0, bf1, bl⟩ := HB3.out
          have d1 := g3.keep d1
          have d2 := g3.keep d2
          have d3 := g3.keep d3
          have d4 := g3.keep d4
          have hbw3 : bm < w3.heap.size := Nat.lt_of_lt_of_le hbw g3.size
          obtain ⟨r0, r1, f0, f1, rl⟩ := HR3.out
          go_wp2
          exact bodyPost_ret (v := .tuple #[.agg #[.slice none 0 0, .slice none 0 0], .int .i64 72]) (by simp [results, Try.results60, go_sem, *]) rfl ⟨by rw [HE.out], (g3.set _ (by simp) _).set _ (by simp) _⟩
set_option maxHeartbeats 8000000 in
set_option maxRecDepth 100000 in
theorem endK_yes (A : List Acc) (M : List Mk) (key : ByteArray) (adA : Option Addr) (capA : Nat) (adM : Option Addr) (capM : Nat) (w : World) (h : LedAt w adA adM A M) (hs : key.size ≤ 9223372036854775807) (he : endE Act.chKe 3 A M key = 0) :
    Calls Try.prog 60 #[.agg #[.slice adA A.length capA, .slice adM M.length capM], .string key, .int .i64 3, .func (.func 62) #[] #[]] w fun e w' => ∃ v1 v2, e = .returned (.tuple #[.agg #[v1, v2], .int .i64 0]) ∧ w'.ownsRow w.heap.size 31 7 v1 A.length ((endA Act.chKe 3 A M key).flatMap accC) ∧ w'.ownsRow w.heap.size 64 5 v2 M.length ((endM 3 M key).flatMap mkC) ∧ Gr w w' := by
  have HM : Hid (∀ w', Gr w w' → Calls Try.prog 14 #[.agg #[.slice adA A.length capA, .slice adM M.length capM]] w' fun e w2 => e = .returned (.int .i64 (mayL A M)) ∧ Gr w' w2) := fun w' g => (h.gr g).may capA capM
  have HK : Hid (∀ w', Calls Try.prog 55 #[.string key] w' fun e w2 => e = .returned (.bool (Led.keyB key)) ∧ w2 = w') := fun w' => isKey_any key w' hs
  have hmf : ∀ (fn : Fn) (first cap : Array Value) (w : World), (Instr.makeFunc fn first cap).run Try.prog w = .ok (.func fn first cap) w := fun _ _ _ _ => rfl
  have hall : Led.mayB A M = true ∧ Led.keyB key = true ∧ Led.hasB (Led.ky M) key = true ∧ ((atM M key).st = 3 ∨ ((atM M key).st ≠ 3 ∧ (atM M key).st = 1 ∧ mvX Act.chKe (atA A (atM M key).t) (atM M key).k (atM M key).t (atM M key).n = 0)) := by
    unfold endE at he
    by_cases h1 : (Led.mayB A M && Led.keyB key) = true
    · rw [if_pos h1] at he
      rw [Bool.and_eq_true] at h1
      cases hh : Led.hasB (Led.ky M) key with
      | false => rw [hh] at he; cases he
      | true =>
        rw [hh, if_pos rfl] at he
        by_cases h2 : (atM M key).st = 3
        · exact ⟨h1.1, h1.2, rfl, Or.inl h2⟩
        · rw [if_neg h2] at he
          by_cases h3 : (atM M key).st = 1
          · rw [if_pos h3] at he; exact ⟨h1.1, h1.2, rfl, Or.inr ⟨h2, h3, he⟩⟩
          · rw [if_neg h3] at he; cases he
    · rw [if_neg h1] at he; cases he
  obtain ⟨hm, hkb, hh, hor⟩ := hall
  have hM := (Led.may_iff A M).1 hm
  rw [mayL_yes hm] at HM
  rw [hkb] at HK
  have HF : Hid (∀ w', Gr w w' → Calls Try.prog 47 #[.slice adM M.length capM, .string key] w' fun e w2 => e = .returned (.tuple #[.int .i64 (Led.pos (Led.ky M) key : Nat), .bool true]) ∧ Gr w' w2) := fun w' g => by have := findM_any M key adM capM w' (h.m.gr g) hM.um (by have := hM.lm; omega); rw [hh] at this; exact this
  obtain ⟨hp, _⟩ := Led.pos_mem hM.um ((Led.has_iff _ _).1 hh)
  rw [Led.ky_len] at hp
  have hx : M[Led.pos (Led.ky M) key] = atM M key := by unfold atM; rw [List.getD_eq_getElem?_getD, List.getElem?_eq_getElem hp]; rfl
  obtain ⟨bm, offm, had, hbw, d0, d1, d2, d3, d4⟩ := (MksAt.at h.m (Led.pos (Led.ky M) key) hp)
  rw [hx] at d0 d1 d2 d3 d4
  have hpi : (Led.pos (Led.ky M) key : Int) < (M.length : Int) := by omega
  rcases hor with hst | ⟨hn1, hn2, hmv⟩
  · have HCP : Hid (∀ w', Gr w w' → Calls Try.prog 51 #[.agg #[.slice adA A.length capA, .slice adM M.length capM]] w' fun e w2 => ∃ a1 c1 a2 c2, e = .returned (.agg #[.slice a1 A.length c1, .slice a2 M.length c2]) ∧ w2.ownsRow w'.heap.size 31 7 (.slice a1 A.length c1) A.length (A.flatMap accC) ∧ w2.ownsRow w'.heap.size 64 5 (.slice a2 M.length c2) M.length (M.flatMap mkC) ∧ Gr w' w2) := fun w' g =>
      (copied_any A M adA capA adM capM w' (h.a.gr g) (h.m.gr g) (by have := hM.la; omega) (by have := hM.lm; omega) (acc_small hm) (mk_small hm)).mono (by
        rintro e w2 ⟨v1, v2, rfl, o1, o2, g2⟩
        obtain ⟨a1, c1, rfl, _⟩ := own_row o1
        obtain ⟨a2, c2, rfl, _⟩ := own_row o2
        exact ⟨a1, c1, a2, c2, rfl, o1, o2, g2⟩)
    have hA : endA Act.chKe 3 A M key = A := by unfold endA; rw [if_pos hst]
    have hMM : endM 3 M key = M := by unfold endM; rw [if_pos hst]
    rw [hA, hMM]
    rw [hst] at d4
    clear he hm hM hkb hh hx h hA hMM hst d0 hp
    generalize (atM M key).k = mk at *
    generalize (atM M key).t = mt at *
    generalize (atM M key).n = mn at *
    generalize Led.pos (Led.ky M) key = p at *
    subst had
    go_enter Try.func60, Try.ntmps60
    go_wp2_with fail
    refine (HM.out _ ((Gr.refl _).alloc.alloc)).mono ?_
    rintro e w1 ⟨rfl, hg1⟩
    have HB1 : Hid (TwoAt w1 w.heap.size (.slice adA A.length capA) (.slice (some ⟨bm, offm, none⟩) M.length capM)) := ((TwoAt.new w _ _ _ _ rfl).gr (Gr.refl _).alloc).gr hg1
    have HR1 : Hid (TwoAt w1 (w.heap.size + 1) (.slice none 0 0) (.slice none 0 0)) := (TwoAt.new _ _ _ _ (w.heap.size + 1) (by simp)).gr hg1
    have g1 : Gr w w1 := (by repeat (first | exact Gr.refl _ | refine Gr.alloc ?_ | refine Gr.drew ?_ | refine Gr.trans ?_ (by assumption)))
    clear hg1
    go_wp2_with fail
    refine (HK.out _).mono ?_
    rintro e w2 ⟨rfl, hw2⟩; obtain rfl := hw2.symm
    obtain ⟨b0, b1, _, _, bl⟩ := HB1.out
    go_wp2_with fail
    refine (HF.out _ g1).mono ?_
    rintro e w3 ⟨rfl, hg3⟩
    have HB3 : Hid (TwoAt w3 w.heap.size (.slice adA A.length capA) (.slice (some ⟨bm, offm, none⟩) M.length capM)) := HB1.out.gr hg3
    have HR3 : Hid (TwoAt w3 (w.heap.size + 1) (.slice none 0 0) (.slice none 0 0)) := HR1.out.gr hg3
    have g3 : Gr w w3 := g1.trans hg3
    clear hg3 g1 b0 b1 bl HB1 HR1
    obtain ⟨b0, b1, bf0, bf1, bl⟩ := HB3.out
    have d1 := g3.keep d1
    have d2 := g3.keep d2
    have d3 := g3.keep d3
    have d4 := g3.keep d4
    have hbw3 : bm < w3.heap.size := Nat.lt_of_lt_of_le hbw g3.size
    go_wp2_with fail
    refine (HCP.out _ g3).mono ?_
    rintro e w4 ⟨x1, y1, x2, y2, rfl, ho1, ho2, hg4⟩
    have HR4 : Hid (TwoAt w4 (w.heap.size + 1) (.slice none 0 0) (.slice none 0 0)) := HR3.out.gr hg4
    have hr3 : w.heap.size + 1 < w3.heap.size := HR3.out.lt
    have g4 : Gr w w4 := g3.trans hg4
    have HFin : Hid (∀ W, W = ((w4.setCell ⟨w.heap.size + 1, 0, none⟩ (.slice x1 A.length y1)).setCell ⟨w.heap.size + 1, 1, none⟩ (.slice x2 M.length y2)) → W.ownsRow w.heap.size 31 7 (.slice x1 A.length y1) A.length (A.flatMap accC) ∧ W.ownsRow w.heap.size 64 5 (.slice x2 M.length y2) M.length (M.flatMap mkC) ∧ Gr w W) := by
      intro W hW
      subst hW
      have m1 : (Value.slice x1 A.length y1).ownBlock ≠ some (w.heap.size + 1) := fun h => by have := (ho1.lt _ h).1; omega
      have m2 : (Value.slice x2 M.length y2).ownBlock ≠ some (w.heap.size + 1) := fun h => by have := (ho2.lt _ h).1; omega
      exact ⟨own_far (own_far (own_low ho1 (by omega)) _ _ m1) _ _ m1, own_far (own_far (own_low ho2 (by omega)) _ _ m2) _ _ m2, (g4.set _ (by simp) _).set _ (by simp) _⟩
    obtain ⟨r0, r1, f0, f1, rl⟩ := HR4.out
    clear ho1 ho2 hg4 d1 d2 d3 d4 b0 b1 bl
    go_wp2
    exact bodyPost_ret (v := .tuple #[.agg #[.slice x1 A.length y1, .slice x2 M.length y2], .int .i64 0]) (by simp [results, Try.results60, go_sem, *]) rfl ⟨_, _, rfl, HFin.out _ rfl⟩
  · have hb1 : ((1 : Int) == 3) = false := by decide
    obtain ⟨h21, h22, h23, h24, h25⟩ := (Led.mk_iff A (atM M key)).1 (hM.om _ (by rw [← hx]; exact List.getElem_mem hp))
    obtain ⟨hpA, hpe⟩ := Led.pos_mem hM.ua h23
    rw [Led.nm_len] at hpA
    obtain ⟨b, off, rfl⟩ : ∃ b off, adA = some ⟨b, off, none⟩ := by obtain ⟨b, off, e, _⟩ := AccsAt.at h.a (Led.pos (Led.nm A) (atM M key).t) hpA; exact ⟨b, off, e⟩
    have hxA : A[Led.pos (Led.nm A) (atM M key).t] = atA A (atM M key).t := by unfold atA; rw [List.getD_eq_getElem?_getD, List.getElem?_eq_getElem hpA]; rfl
    have hxa : inA (atA A (atM M key).t) := by rw [← hxA]; exact h.ra _ (List.getElem_mem hpA)
    have htm : (atM M key).t.size ≤ 9223372036854775807 := by have := (Act.name_pos ((Act.act_iff _ _ _).1 h22).2.1).2; omega
    have HFA : Hid (∀ w', Gr w w' → Calls Try.prog 30 #[.slice (some ⟨b, off, none⟩) A.length capA, .string (atM M key).t] w' fun e w2 => e = .returned (.tuple #[.int .i64 (Led.pos (Led.nm A) (atM M key).t : Nat), .bool true]) ∧ Gr w' w2) := fun w' g => by have := findA_any A (atM M key).t _ capA w' (h.a.gr g) hM.ua (by have := hM.la; omega); rw [(Led.has_iff _ _).2 h23] at this; exact this
    subst had
    have hA : endA Act.chKe 3 A M key = A.set (Led.pos (Led.nm A) (atM M key).t) (mvA Act.chKe (atA A (atM M key).t) (atM M key).k (atM M key).n) := by unfold endA; rw [if_neg hn1]
    have hMM : endM 3 M key = M.set (Led.pos (Led.ky M) key) { M[Led.pos (Led.ky M) key] with st := 3 } := by unfold endM; rw [if_neg hn1, hx]
    have hAl := endA_len Act.chKe 3 A M key
    have HCH : Hid (∀ w', Gr w w' → Calls Try.prog 82 #[.agg #[.slice (some ⟨b, off, none⟩) A.length capA, .slice (some ⟨bm, offm, none⟩) M.length capM], .func (.func 30) #[.slice (some ⟨b, off, none⟩) A.length capA] #[], .agg #[.int .i64 (atM M key).k, .string (atM M key).t, .int .i64 (atM M key).n], .func (.func 62) #[] #[]] w' fun e w2 => ∃ a1 c1 a2 c2, e = .returned (.tuple #[.agg #[.slice a1 A.length c1, .slice a2 M.length c2], .int .i64 0]) ∧ w2.ownsRow w'.heap.size 31 7 (.slice a1 A.length c1) A.length ((endA Act.chKe 3 A M key).flatMap accC) ∧ w2.ownsRow w'.heap.size 64 5 (.slice a2 M.length c2) M.length (M.flatMap mkC) ∧ Gr w' w2) := by
      intro w' g
      have hy := mvY_ok hmv
      refine (changedK_yes A M (atA A (atM M key).t) (mvY Act.chKe (atA A (atM M key).t) (atM M key).k (atM M key).t (atM M key).n) _ _ _ _ b off capA _ capM w' hpA hxA hM.la (h.a.gr g) (fun w'' g2 => HFA.out w'' (g.trans g2)) (fun w'' => by have := xK_any (atA A (atM M key).t) (atM M key).k (atM M key).n (atM M key).t w'' hxa htm; rw [hmv] at this; exact this)
        (fun w'' g2 => copied_any A M _ capA _ capM w'' (h.a.gr (g.trans g2)) (h.m.gr (g.trans g2)) (by have := hM.la; omega) (by have := hM.lm; omega) (acc_small hm) (mk_small hm))).mono ?_
      rintro e w2 ⟨v1, v2, rfl, o1, o2, g2⟩
      rw [hy, ← hA] at o1
      have o1' : w2.ownsRow w'.heap.size 31 7 v1 (endA Act.chKe 3 A M key).length ((endA Act.chKe 3 A M key).flatMap accC) := by rw [hAl]; exact o1
      obtain ⟨a1, c1, rfl, _⟩ := own_row o1'
      obtain ⟨a2, c2, rfl, _⟩ := own_row o2
      rw [hAl] at o1' ⊢
      exact ⟨a1, c1, a2, c2, rfl, o1', o2, g2⟩
    have HPS : Hid (∀ (w' : World) (base g cap : Nat), w'.ownsRow base 64 5 (.slice (some ⟨g, 0, none⟩) M.length cap) M.length (M.flatMap mkC) → (w'.setCell ⟨g, Led.pos (Led.ky M) key * 5 + 4, none⟩ (.int .i64 3)).ownsRow base 64 5 (.slice (some ⟨g, 0, none⟩) M.length cap) M.length ((endM 3 M key).flatMap mkC)) := by
      intro w' base g cap ho
      rw [hMM]
      exact own_putS ho _ hp 3
    rw [hn2] at d4
    clear he hm hM hkb hh hx h hn1 hn2 hmv h21 h22 h23 h24 h25 hpA hpe hxA hxa htm HFA d0 hA hMM hAl
    generalize (endA Act.chKe 3 A M key).flatMap accC = FA at *
    generalize (endM 3 M key).flatMap mkC = FM at *
    generalize (atM M key).k = mk at *
    generalize (atM M key).t = mt at *
    generalize (atM M key).n = mn at *
    generalize Led.pos (Led.ky M) key = p at *
    go_enter Try.func60, Try.ntmps60
    go_wp2_with fail
    refine (HM.out _ ((Gr.refl _).alloc.alloc)).mono ?_
    rintro e w1 ⟨rfl, hg1⟩
    have HB1 : Hid (TwoAt w1 w.heap.size (.slice (some ⟨b, off, none⟩) A.length capA) (.slice (some ⟨bm, offm, none⟩) M.length capM)) := ((TwoAt.new w _ _ _ _ rfl).gr (Gr.refl _).alloc).gr hg1
    have HR1 : Hid (TwoAt w1 (w.heap.size + 1) (.slice none 0 0) (.slice none 0 0)) := (TwoAt.new _ _ _ _ (w.heap.size + 1) (by simp)).gr hg1
    have g1 : Gr w w1 := (by repeat (first | exact Gr.refl _ | refine Gr.alloc ?_ | refine Gr.drew ?_ | refine Gr.trans ?_ (by assumption)))
    clear hg1
    go_wp2_with fail
    refine (HK.out _).mono ?_
    rintro e w2 ⟨rfl, hw2⟩; obtain rfl := hw2.symm
    obtain ⟨b0, b1, _, _, bl⟩ := HB1.out
    go_wp2_with fail
    refine (HF.out _ g1).mono ?_
    rintro e w3 ⟨rfl, hg3⟩
    have HB3 : Hid (TwoAt w3 w.heap.size (.slice (some ⟨b, off, none⟩) A.length capA) (.slice (some ⟨bm, offm, none⟩) M.length capM)) := HB1.out.gr hg3
    have HR3 : Hid (TwoAt w3 (w.heap.size + 1) (.slice none 0 0) (.slice none 0 0)) := HR1.out.gr hg3
    have g3 : Gr w w3 := g1.trans hg3
    clear hg3 g1 b0 b1 bl HB1 HR1
    obtain ⟨b0, b1, bf0, bf1, bl⟩ := HB3.out
    have d1 := g3.keep d1
    have d2 := g3.keep d2
    have d3 := g3.keep d3
    have d4 := g3.keep d4
    have hbw3 : bm < w3.heap.size := Nat.lt_of_lt_of_le hbw g3.size
    go_upto_region 11 with fail
    have hk : Gr w w3.drew ∧ w3.drew.cell? ⟨w.heap.size, 0, none⟩ = some (.slice (some ⟨b, off, none⟩) A.length capA) ∧ w3.drew.cell? ⟨w.heap.size, 1, none⟩ = some (.slice (some ⟨bm, offm, none⟩) M.length capM) ∧ w3.drew.cell? ⟨bm, offm + p * 5 + 1, none⟩ = some (.int .i64 mk) ∧ w3.drew.cell? ⟨bm, offm + p * 5 + 2, none⟩ = some (.string mt) ∧ w3.drew.cell? ⟨bm, offm + p * 5 + 3, none⟩ = some (.int .i64 mn) := ⟨g3.drew, b0, b1, d1, d2, d3⟩
    clear b0 b1 d1 d2 d3 d4
    refine beginL 15 (fun w' => Gr w w' ∧ w'.cell? ⟨w.heap.size, 0, none⟩ = some (.slice (some ⟨b, off, none⟩) A.length capA) ∧ w'.cell? ⟨w.heap.size, 1, none⟩ = some (.slice (some ⟨bm, offm, none⟩) M.length capM) ∧ w'.cell? ⟨bm, offm + p * 5 + 1, none⟩ = some (.int .i64 mk) ∧ w'.cell? ⟨bm, offm + p * 5 + 2, none⟩ = some (.string mt) ∧ w'.cell? ⟨bm, offm + p * 5 + 3, none⟩ = some (.int .i64 mn)) (by kernel_rfl) (by with_reducible exact hk) (fun hHeld => ?_)
    refine takeS 0 47 (v := ?_) rfl rfl (by decide) (by kernel_rfl) (by kernel_rfl) (by kernel_rfl) (by kernel_rfl) (by kernel_rfl) (fun _ _ _ h => h) (by rfl) ?_ hHeld ?_
    rotate_left
    · (intro w; (try intro hSw); (try dsimp only at hSw); go_simp; try with_reducible rfl)
    simp only [Act.put, List.setIfInBounds_toArray, List.set_cons_zero, List.set_cons_succ]
    refine takeW 1 48 (v := ?_) rfl rfl (by decide) (by kernel_rfl) (by kernel_rfl) (by kernel_rfl) (fun _ _ _ h => h) (by rfl) ?_ (fun _ => hHeld) ?_
    rotate_left
    · (intro w; (try intro hSw); (try dsimp only at hSw); go_simp; try with_reducible rfl)
    simp only [Act.put, List.setIfInBounds_toArray, List.set_cons_zero, List.set_cons_succ]
    refine takeS 2 49 (v := ?_) rfl rfl (by decide) (by kernel_rfl) (by kernel_rfl) (by kernel_rfl) (by kernel_rfl) (by kernel_rfl) (fun _ _ _ h => h) (by rfl) ?_ hHeld ?_
    rotate_left
    · (intro w; (try intro hSw); (try dsimp only at hSw); go_simp; try with_reducible rfl)
    simp only [Act.put, List.setIfInBounds_toArray, List.set_cons_zero, List.set_cons_succ]
    refine takeW 3 50 (v := ?_) rfl rfl (by decide) (by kernel_rfl) (by kernel_rfl) (by kernel_rfl) (fun _ _ _ h => h) (by rfl) ?_ (fun _ => hHeld) ?_
    rotate_left
    · (intro w; (try intro hSw); (try dsimp only at hSw); go_simp; try with_reducible rfl)
    simp only [Act.put, List.setIfInBounds_toArray, List.set_cons_zero, List.set_cons_succ]
    refine takeW 4 51 (v := ?_) rfl rfl (by decide) (by kernel_rfl) (by kernel_rfl) (by kernel_rfl) (fun _ _ _ h => h) (by rfl) ?_ (fun _ => hHeld) ?_
    rotate_left
    · (intro w; (try intro hSw); (try dsimp only at hSw); go_simp; try with_reducible rfl)
    simp only [Act.put, List.setIfInBounds_toArray, List.set_cons_zero, List.set_cons_succ]
    refine takeS 5 52 (v := ?_) rfl rfl (by decide) (by kernel_rfl) (by kernel_rfl) (by kernel_rfl) (by kernel_rfl) (by kernel_rfl) (fun _ _ _ h => h) (by rfl) ?_ hHeld ?_
    rotate_left
    · (intro w; (try intro hSw); (try dsimp only at hSw); go_simp; try with_reducible rfl)
    simp only [Act.put, List.setIfInBounds_toArray, List.set_cons_zero, List.set_cons_succ]
    refine takeW 6 53 (v := ?_) rfl rfl (by decide) (by kernel_rfl) (by kernel_rfl) (by kernel_rfl) (fun _ _ _ h => h) (by rfl) ?_ (fun _ => hHeld) ?_
    rotate_left
    · (intro w; (try intro hSw); (try dsimp only at hSw); go_simp; try with_reducible rfl)
    simp only [Act.put, List.setIfInBounds_toArray, List.set_cons_zero, List.set_cons_succ]
    refine takeW 7 54 (v := ?_) rfl rfl (by decide) (by kernel_rfl) (by kernel_rfl) (by kernel_rfl) (fun _ _ _ h => h) (by rfl) ?_ (fun _ => hHeld) ?_
    rotate_left
    · (intro w; (try intro hSw); (try dsimp only at hSw); go_simp; try with_reducible rfl)
    simp only [Act.put, List.setIfInBounds_toArray, List.set_cons_zero, List.set_cons_succ]
    refine takeW 8 55 (v := ?_) rfl rfl (by decide) (by kernel_rfl) (by kernel_rfl) (by kernel_rfl) (fun _ _ _ h => h) (by rfl) ?_ (fun _ => hHeld) ?_
    rotate_left
    · (intro w; (try intro hSw); (try dsimp only at hSw); go_simp; try with_reducible rfl)
    simp only [Act.put, List.setIfInBounds_toArray, List.set_cons_zero, List.set_cons_succ]
    refine takeS 9 56 (v := ?_) rfl rfl (by decide) (by kernel_rfl) (by kernel_rfl) (by kernel_rfl) (by kernel_rfl) (by kernel_rfl) (fun _ _ _ h => h) (by rfl) ?_ hHeld ?_
    rotate_left
    · (intro w; (try intro hSw); (try dsimp only at hSw); go_simp; try with_reducible rfl)
    simp only [Act.put, List.setIfInBounds_toArray, List.set_cons_zero, List.set_cons_succ]
    refine takeW 10 57 (v := ?_) rfl rfl (by decide) (by kernel_rfl) (by kernel_rfl) (by kernel_rfl) (fun _ _ _ h => h) (by rfl) ?_ (fun _ => hHeld) ?_
    rotate_left
    · (intro w; (try intro hSw); (try dsimp only at hSw); go_simp; try with_reducible rfl)
    simp only [Act.put, List.setIfInBounds_toArray, List.set_cons_zero, List.set_cons_succ]
    refine stepC 11 (by kernel_rfl) rfl (fun K hK => ?_)
    go_simp
    (go_at_call 82; refine (HCH.out _ g3.drew).mono ?_; rintro e w4 ⟨x1, y1, x2, y2, rfl, ho1, ho2, hg4⟩; replace hk := hk6 hk hg4; obtain ⟨b0, b1, bf0, bf1, bl⟩ := (HB3.out.gr (Gr.refl _).drew).gr hg4)
    (try go_wp2_with fail)
    refine hK.out _ _ (by with_reducible exact hk) (fun hHeldN => ?_)
    clear hHeld hK K
    have hHeld := hHeldN
    clear hHeldN
    refine takeW 12 46 (v := ?_) rfl rfl (by decide) (by kernel_rfl) (by kernel_rfl) (by kernel_rfl) (fun _ _ _ h => h) (by rfl) ?_ (fun _ => hHeld) ?_
    rotate_left
    · (intro w; (try intro hSw); (try dsimp only at hSw); go_simp; try with_reducible rfl)
    simp only [Act.put, List.setIfInBounds_toArray, List.set_cons_zero, List.set_cons_succ]
    refine takeW 13 59 (v := ?_) rfl rfl (by decide) (by kernel_rfl) (by kernel_rfl) (by kernel_rfl) (fun _ _ _ h => h) (by rfl) ?_ (fun _ => hHeld) ?_
    rotate_left
    · (intro w; (try intro hSw); (try dsimp only at hSw); go_simp; try with_reducible rfl)
    simp only [Act.put, List.setIfInBounds_toArray, List.set_cons_zero, List.set_cons_succ]
    refine takeW 14 60 (v := ?_) rfl rfl (by decide) (by kernel_rfl) (by kernel_rfl) (by kernel_rfl) (fun _ _ _ h => h) (by rfl) ?_ (fun _ => hHeld) ?_
    rotate_left
    · (intro w; (try intro hSw); (try dsimp only at hSw); go_simp; try with_reducible rfl)
    simp only [Act.put, List.setIfInBounds_toArray, List.set_cons_zero, List.set_cons_succ]
    refine stepS (by kernel_rfl) rfl (by kernel_rfl) (fun K hK => ?_)
    go_simp
    refine hK.out _ _ ?_
    clear hHeld hK K
    refine takeW 16 12 (v := ?_) rfl rfl (by decide) (by kernel_rfl) (by kernel_rfl) (by kernel_rfl) (fun _ _ _ h => h) (by rfl) ?_ (fun h => listed_done (by kernel_rfl) h) ?_
    rotate_left
    · (intro w; (try intro hSw); (try dsimp only at hSw); go_simp; try with_reducible rfl)
    simp only [Act.put, List.setIfInBounds_toArray, List.set_cons_zero, List.set_cons_succ]
    refine doneL (by kernel_rfl) ?_ _
    have g4 : Gr w w4 := g3.drew.trans hg4
    have hr3 : w.heap.size + 1 < w3.heap.size := HR3.out.lt
    have hs3 : w3.drew.heap.size = w3.heap.size := rfl
    obtain ⟨r0, r1, f0, f1, rl⟩ := (HR3.out.gr (Gr.refl _).drew).gr hg4
    obtain ⟨g, cap, hv, hgb, hgl, _, _⟩ := own_form ho2 (by omega)
    cases hv
    have hm5 : p * 5 + 5 ≤ M.length * 5 := by have := Nat.mul_le_mul_right 5 (show p + 1 ≤ M.length by omega); omega
    obtain ⟨u4, hu4⟩ : ∃ u, w4.cell? ⟨g, p * 5 + 4, none⟩ = some u := by
      rw [ho2.cellAt (p * 5 + 4) (by omega)]
      exact ⟨_, List.getElem?_eq_getElem (by rw [flat_len mkC_len]; omega)⟩
    have t4 := ho2.frozenAt (p * 5 + 4)
    have n1 : g ≠ w.heap.size := by omega
    have n2 : g ≠ w.heap.size + 1 := by omega
    have HFin : Hid (∀ W, W = (((((w4.setCell ⟨w.heap.size, 0, none⟩ (.slice x1 A.length y1)).setCell ⟨w.heap.size, 1, none⟩ (.slice (some ⟨g, 0, none⟩) M.length y2)).setCell ⟨g, p * 5 + 4, none⟩ (.int .i64 3)).setCell ⟨w.heap.size + 1, 0, none⟩ (.slice x1 A.length y1)).setCell ⟨w.heap.size + 1, 1, none⟩ (.slice (some ⟨g, 0, none⟩) M.length y2)) → W.ownsRow w.heap.size 31 7 (.slice x1 A.length y1) A.length FA ∧ W.ownsRow w.heap.size 64 5 (.slice (some ⟨g, 0, none⟩) M.length y2) M.length FM ∧ Gr w W) := by
      intro W hW
      subst hW
      have m1 : ∀ i, i < w3.heap.size → (Value.slice x1 A.length y1).ownBlock ≠ some i := fun i hi h => by have := (ho1.lt _ h).1; omega
      have mg : (Value.slice x1 A.length y1).ownBlock ≠ some g := own_apart ho2 ho1 (by decide) rfl
      have k2 := HPS.out _ _ _ _ (own_far (own_far (own_low ho2 (by omega : w.heap.size ≤ w3.drew.heap.size)) ⟨w.heap.size, 0, none⟩ (.slice x1 A.length y1) (by simp [Value.ownBlock]; omega)) ⟨w.heap.size, 1, none⟩ (.slice (some ⟨g, 0, none⟩) M.length y2) (by simp [Value.ownBlock]; omega))
      exact ⟨own_far (own_far (own_far (own_far (own_far (own_low ho1 (by omega)) _ _ (m1 _ (by simp; omega))) _ _ (m1 _ (by simp; omega))) _ _ mg) _ _ (m1 _ (by simp; omega))) _ _ (m1 _ (by simp; omega)), own_far (own_far k2 _ _ (by simp [Value.ownBlock]; omega)) _ _ (by simp [Value.ownBlock]; omega), ((((g4.set _ (by simp) _).set _ (by simp) _).set _ (by simp; omega) _).set _ (by simp) _).set _ (by simp) _⟩
    clear ho1 ho2 hg4 hk hm5
    go_wp2
    exact bodyPost_ret (v := .tuple #[.agg #[.slice x1 A.length y1, .slice (some ⟨g, 0, none⟩) M.length y2], .int .i64 0]) (by simp [results, Try.results60, go_sem, *]) rfl ⟨_, _, rfl, HFin.out _ rfl⟩
set_option maxHeartbeats 1000000 in
set_option maxRecDepth 100000 in
theorem ownK_no (A : List Acc) (M : List Mk) (key : ByteArray) (adA : Option Addr) (capA : Nat) (adM : Option Addr) (capM : Nat) (w : World) (h : LedAt w adA adM A M) (hs : key.size ≤ 9223372036854775807) (he : endE Act.chKe 3 A M key ≠ 0) :
    Calls Try.prog 24 #[.agg #[.slice adA A.length capA, .slice adM M.length capM], .string key] w fun e w' => e = .returned (.tuple #[.agg #[.slice none 0 0, .slice none 0 0], .int .i64 (endE Act.chKe 3 A M key)]) ∧ Gr w w' := by
  have HN : Hid (∀ w', Gr w w' → Calls Try.prog 60 #[.agg #[.slice adA A.length capA, .slice adM M.length capM], .string key, .int .i64 3, .func (.func 62) #[] #[]] w' fun e w2 => e = .returned (.tuple #[.agg #[.slice none 0 0, .slice none 0 0], .int .i64 (endE Act.chKe 3 A M key)]) ∧ Gr w' w2) := fun w' g => endK_no A M key adA capA adM capM w' (h.gr g) hs he
  clear h he
  generalize endE Act.chKe 3 A M key = er at *
  go_enter Try.func24, Try.ntmps24
  go_wp2_with fail
  refine (HN.out _ ((Gr.refl _).alloc.alloc)).mono ?_
  rintro e w1 ⟨rfl, hg1⟩
  have g1 : Gr w w1 := (by repeat (first | exact Gr.refl _ | refine Gr.alloc ?_ | refine Gr.drew ?_ | refine Gr.trans ?_ (by assumption)))
  obtain ⟨r0, r1, f0, f1, rl⟩ := (TwoAt.new (w.alloc (.cells #[.slice adA A.length capA, .slice adM M.length capM] 25)) (.slice none 0 0) (.slice none 0 0) 25 (w.heap.size + 1) (by simp)).gr hg1
  clear hg1
  go_wp2
  exact bodyPost_ret (v := .tuple #[.agg #[.slice none 0 0, .slice none 0 0], .int .i64 er]) (by simp [results, Try.results24, go_sem, *]) rfl ⟨rfl, (g1.set _ (by simp) _).set _ (by simp) _⟩
set_option maxHeartbeats 1000000 in
set_option maxRecDepth 100000 in
theorem ownK_yes (A : List Acc) (M : List Mk) (key : ByteArray) (adA : Option Addr) (capA : Nat) (adM : Option Addr) (capM : Nat) (w : World) (h : LedAt w adA adM A M) (hs : key.size ≤ 9223372036854775807) (he : endE Act.chKe 3 A M key = 0) :
    Calls Try.prog 24 #[.agg #[.slice adA A.length capA, .slice adM M.length capM], .string key] w fun e w' => ∃ v1 v2, e = .returned (.tuple #[.agg #[v1, v2], .int .i64 0]) ∧ w'.ownsRow w.heap.size 31 7 v1 (endA Act.chKe 3 A M key).length ((endA Act.chKe 3 A M key).flatMap accC) ∧ w'.ownsRow w.heap.size 64 5 v2 (endM 3 M key).length ((endM 3 M key).flatMap mkC) ∧ Gr w w' := by
  have HN : Hid (∀ w', Gr w w' → Calls Try.prog 60 #[.agg #[.slice adA A.length capA, .slice adM M.length capM], .string key, .int .i64 3, .func (.func 62) #[] #[]] w' fun e w2 => ∃ a1 c1 a2 c2, e = .returned (.tuple #[.agg #[.slice a1 (endA Act.chKe 3 A M key).length c1, .slice a2 (endM 3 M key).length c2], .int .i64 0]) ∧ w2.ownsRow w'.heap.size 31 7 (.slice a1 (endA Act.chKe 3 A M key).length c1) (endA Act.chKe 3 A M key).length ((endA Act.chKe 3 A M key).flatMap accC) ∧ w2.ownsRow w'.heap.size 64 5 (.slice a2 (endM 3 M key).length c2) (endM 3 M key).length ((endM 3 M key).flatMap mkC) ∧ Gr w' w2) := fun w' g =>
    (endK_yes A M key adA capA adM capM w' (h.gr g) hs he).mono (by
      rintro e w2 ⟨v1, v2, rfl, o1, o2, g2⟩
      rw [← endA_len Act.chKe 3 A M key] at o1
      rw [← endM_len 3 M key] at o2
      obtain ⟨a1, c1, rfl, _⟩ := own_row o1
      obtain ⟨a2, c2, rfl, _⟩ := own_row o2
      exact ⟨a1, c1, a2, c2, rfl, o1, o2, g2⟩)
  clear h he
  generalize (endA Act.chKe 3 A M key).flatMap accC = FA at *
  generalize (endM 3 M key).flatMap mkC = FM at *
  generalize (endA Act.chKe 3 A M key).length = LA at *
  generalize (endM 3 M key).length = LM at *
  go_enter Try.func24, Try.ntmps24
  go_wp2_with fail
  refine (HN.out _ ((Gr.refl _).alloc.alloc)).mono ?_
  rintro e w1 ⟨x1, y1, x2, y2, rfl, ho1, ho2, hg1⟩
  have g1 : Gr w w1 := (by repeat (first | exact Gr.refl _ | refine Gr.alloc ?_ | refine Gr.drew ?_ | refine Gr.trans ?_ (by assumption)))
  obtain ⟨r0, r1, f0, f1, rl⟩ := (TwoAt.new (w.alloc (.cells #[.slice adA A.length capA, .slice adM M.length capM] 25)) (.slice none 0 0) (.slice none 0 0) 25 (w.heap.size + 1) (by simp)).gr hg1
  have HFin : Hid (∀ W, W = ((w1.setCell ⟨w.heap.size + 1, 0, none⟩ (.slice x1 LA y1)).setCell ⟨w.heap.size + 1, 1, none⟩ (.slice x2 LM y2)) → W.ownsRow w.heap.size 31 7 (.slice x1 LA y1) LA FA ∧ W.ownsRow w.heap.size 64 5 (.slice x2 LM y2) LM FM ∧ Gr w W) := by
    intro W hW
    subst hW
    have m1 : (Value.slice x1 LA y1).ownBlock ≠ some (w.heap.size + 1) := fun h => by have := (ho1.lt _ h).1; simp at this; omega
    have m2 : (Value.slice x2 LM y2).ownBlock ≠ some (w.heap.size + 1) := fun h => by have := (ho2.lt _ h).1; simp at this; omega
    exact ⟨own_far (own_far (own_low ho1 (by simp; omega)) _ _ m1) _ _ m1, own_far (own_far (own_low ho2 (by simp; omega)) _ _ m2) _ _ m2, (g1.set _ (by simp) _).set _ (by simp) _⟩
  clear ho1 ho2 hg1
  go_wp2
  exact bodyPost_ret (v := .tuple #[.agg #[.slice x1 LA y1, .slice x2 LM y2], .int .i64 0]) (by simp [results, Try.results24, go_sem, *]) rfl ⟨_, _, rfl, HFin.out _ rfl⟩
end Go.Proofs.Ytgidkmipecfjhaa
