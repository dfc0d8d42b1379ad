/- What the proof is made of, part 12. -/
import Derived.Test.YtgidkmipecfjhaaTLLDoes11
namespace Go.Proofs.Ytgidkmipecfjhaa
open Go.RowKit
set_option maxHeartbeats 8000000 in
set_option maxRecDepth 100000 in
theorem move_goD (s : ByteArray) (a b c x y z : Int) (k n : Int) (t : ByteArray) (f g a' b' c' x' y' z' e1 e2 : Int) (w : World)
    (HF : Hid (∀ w', Calls Try.prog 101 #[.agg #[.string s, .int .i64 a, .int .i64 b, .int .i64 c, .int .i64 x, .int .i64 y, .int .i64 z], .agg #[.int .i64 k, .string t, .int .i64 n]] w' fun e w2 => e = .returned (.int .i64 0) ∧ Gr w' w2))
    (HW : Hid (∀ w', Calls Try.prog 63 #[.int .i64 k] w' fun e w2 => e = .returned (.agg #[.int .i64 f, .int .i64 g]) ∧ Gr w' w2))
    (HL : Hid (∀ w', Calls Try.prog 31 #[.string s] w' fun e w2 => e = .returned (.string s) ∧ Gr w' w2))
    (H1 : Hid (∀ w', Calls Try.prog 95 #[.agg #[.int .i64 a, .int .i64 b, .int .i64 c], .bool (decide (f < 0)), .int .i64 n] w' fun e w2 => e = .returned (.tuple #[.agg #[.int .i64 a', .int .i64 b', .int .i64 c'], .int .i64 e1]) ∧ Gr w' w2))
    (H2 : Hid (g ≠ 0 → ∀ w', Calls Try.prog 95 #[.agg #[.int .i64 x, .int .i64 y, .int .i64 z], .bool (decide (g < 0)), .int .i64 n] w' fun e w2 => e = .returned (.tuple #[.agg #[.int .i64 x', .int .i64 y', .int .i64 z'], .int .i64 e2]) ∧ Gr w' w2))
    (HZ : Hid (g = 0 → x' = x ∧ y' = y ∧ z' = z ∧ e2 = 0)) (hf : f ≠ 0) :
    Calls Try.prog 86 #[.agg #[.string s, .int .i64 a, .int .i64 b, .int .i64 c, .int .i64 x, .int .i64 y, .int .i64 z], .agg #[.int .i64 k, .string t, .int .i64 n], .func (.func 95) #[] #[]] w fun e w' =>
      e = .returned (.tuple #[.agg #[.string (Act.pickS (Act.both e1 e2) s), .int .i64 (Pot.pick (Act.both e1 e2) a'), .int .i64 (Pot.pick (Act.both e1 e2) b'), .int .i64 (Pot.pick (Act.both e1 e2) c'), .int .i64 (Pot.pick (Act.both e1 e2) x'), .int .i64 (Pot.pick (Act.both e1 e2) y'), .int .i64 (Pot.pick (Act.both e1 e2) z')], .int .i64 (Act.both e1 e2)]) ∧ Gr w w' := by
  have hf0 : (f == 0) = false := by simpa using hf
  have hix0 : ∀ w : World, (Instr.index 100 (.agg #[.int .i64 f, .int .i64 g]) (.int .i64 0)).run Try.prog w = .ok (.int .i64 f) w := fun _ => by kernel_rfl
  have hix1 : ∀ w : World, (Instr.index 100 (.agg #[.int .i64 f, .int .i64 g]) (.int .i64 1)).run Try.prog w = .ok (.int .i64 g) w := fun _ => by kernel_rfl
  clear hf
  go_enter Try.func86, Try.ntmps86
  go_wp2_with fail
  refine (HF.out _).mono ?_
  rintro e w1 ⟨rfl, hg1⟩
  have R := (AccAt.new _ _ _ _ _ _ _ _ _ (w.heap.size + 1 + 1) (by simp)).gr hg1
  have X := (((AccAt.new w _ _ _ _ _ _ _ _ w.heap.size rfl).gr (Gr.refl _).alloc).gr (Gr.refl _).alloc).gr hg1
  have B := ((BoxAt.new _ _ _ _ _ (w.heap.size + 1) (by simp)).gr (Gr.refl _).alloc).gr hg1
  have g1 : Gr w w1 := (by (with_reducible repeat' (first | exact Gr.refl _ | refine Gr.set ?_ _ ?_ _ | refine Gr.alloc ?_ | refine Gr.drew ?_ | refine Gr.trans ?_ (by assumption))) <;> (first | (simp; done) | (simp; omega) | omega))
  have HR1 : Hid (AccAt w1 (w.heap.size + 1 + 1) (.string ⟨#[]⟩) (.int .i64 0) (.int .i64 0) (.int .i64 0) (.int .i64 0) (.int .i64 0) (.int .i64 0)) := R
  have HX1 : Hid (AccAt w1 w.heap.size (.string s) (.int .i64 a) (.int .i64 b) (.int .i64 c) (.int .i64 x) (.int .i64 y) (.int .i64 z)) := X
  have HB1 : Hid (BoxAt w1 (w.heap.size + 1) (.int .i64 k) (.string t) (.int .i64 n)) := B
  obtain ⟨x0, x1, x2, x3, x4, x5, x6⟩ := X.cells
  obtain ⟨b0, b1, b2, _, _, _, b6⟩ := B
  have hsz1 : w.heap.size + 1 + 1 < w1.heap.size := R.lt
  clear hg1 X R
  go_wp2_with fail
  refine (HW.out _).mono ?_
  rintro e w2 ⟨rfl, hg2⟩
  have HS2 : Hid (SixAt w2 w1.heap.size (.int .i64 a) (.int .i64 b) (.int .i64 c) (.int .i64 x) (.int .i64 y) (.int .i64 z)) := (SixAt.new w1 _ _ _ _ _ _ _ _ rfl).gr hg2
  have HG12 : Hid (Gr w1 w2) := (Gr.refl w1).alloc.trans hg2
  have HG1 : Hid (Gr w w1) := g1
  clear x0 x1 x2 x3 x4 x5 x6 b0 b1 b2 b6 hg2 g1
  go_wp2
  obtain ⟨P, hP⟩ : ∃ P, P = w1.heap.size := ⟨_, rfl⟩
  rw [← hP] at HS2 hsz1 ⊢
  have HI0 : Hid (Gr w w2 ∧ AccAt w2 w.heap.size (.string s) (.int .i64 a) (.int .i64 b) (.int .i64 c) (.int .i64 x) (.int .i64 y) (.int .i64 z) ∧ BoxAt w2 (w.heap.size + 1) (.int .i64 k) (.string t) (.int .i64 n) ∧ AccAt w2 (w.heap.size + 1 + 1) (.string ⟨#[]⟩) (.int .i64 0) (.int .i64 0) (.int .i64 0) (.int .i64 0) (.int .i64 0) (.int .i64 0)) :=
    ⟨HG1.out.trans HG12.out, HX1.out.gr HG12.out, HB1.out.gr HG12.out, HR1.out.gr HG12.out⟩
  clear HG1 HG12 HX1 HB1 HR1 hP
  go_loopw [29] (fun i wr => (Gr w wr ∧ AccAt wr w.heap.size (.string s) (.int .i64 a) (.int .i64 b) (.int .i64 c) (.int .i64 x) (.int .i64 y) (.int .i64 z) ∧ BoxAt wr (w.heap.size + 1) (.int .i64 k) (.string t) (.int .i64 n) ∧ AccAt wr (w.heap.size + 1 + 1) (.string ⟨#[]⟩) (.int .i64 0) (.int .i64 0) (.int .i64 0) (.int .i64 0) (.int .i64 0) (.int .i64 0)) ∧
    ((i = .int .i64 0 ∧ SixAt wr P (.int .i64 a) (.int .i64 b) (.int .i64 c) (.int .i64 x) (.int .i64 y) (.int .i64 z)) ∨ (i = .int .i64 1 ∧ e1 = 0 ∧ SixAt wr P (.int .i64 a') (.int .i64 b') (.int .i64 c') (.int .i64 x) (.int .i64 y) (.int .i64 z)) ∨ (i = .int .i64 2 ∧ e1 = 0 ∧ e2 = 0 ∧ SixAt wr P (.int .i64 a') (.int .i64 b') (.int .i64 c') (.int .i64 x') (.int .i64 y') (.int .i64 z'))))
    (fun i _ => 2 - (intOf i).toNat)
  case atStart => exact ⟨HI0.out, Or.inl ⟨rfl, HS2.out⟩⟩
  case round =>
    clear HI0 HS2
    obtain ⟨⟨hgw, hx, hb, hr⟩, hrel⟩ := hrel
    have HGW : Hid (Gr w wr) := hgw
    have HX : Hid (AccAt wr w.heap.size (.string s) (.int .i64 a) (.int .i64 b) (.int .i64 c) (.int .i64 x) (.int .i64 y) (.int .i64 z)) := hx
    have HB : Hid (BoxAt wr (w.heap.size + 1) (.int .i64 k) (.string t) (.int .i64 n)) := hb
    have HR : Hid (AccAt wr (w.heap.size + 1 + 1) (.string ⟨#[]⟩) (.int .i64 0) (.int .i64 0) (.int .i64 0) (.int .i64 0) (.int .i64 0) (.int .i64 0)) := hr
    have b2 := hb.c2
    have bl := hb.lt
    have rl := hr.lt
    clear hgw hx hb hr
    rcases hrel with ⟨rfl, hs⟩ | ⟨rfl, he1, hs⟩ | ⟨rfl, he1, he2, hs⟩
    · clear H2 HZ
      have HS : Hid (SixAt wr P (.int .i64 a) (.int .i64 b) (.int .i64 c) (.int .i64 x) (.int .i64 y) (.int .i64 z)) := hs
      obtain ⟨p0, p1, p2, p3, p4, p5⟩ := hs.cells
      have pl := hs.lt
      clear hs
      go_upto_region 9 with fail
      go_cut [12, 13] (fun sp se wx => ∃ Q, sp = .pointer (some ⟨Q, 0, none⟩) ∧ se = .int .i64 e1 ∧ wr.heap.size ≤ Q ∧ wx.cell? ⟨Q, 0, none⟩ = some (.int .i64 a') ∧ wx.cell? ⟨Q, 1, none⟩ = some (.int .i64 b') ∧ wx.cell? ⟨Q, 2, none⟩ = some (.int .i64 c') ∧ Gr wr wx)
      case first =>
        go_region_held3 (fun w' => Gr wr w' ∧ w'.cell? ⟨P, 0, none⟩ = some (.int .i64 a) ∧ w'.cell? ⟨P, 1, none⟩ = some (.int .i64 b) ∧ w'.cell? ⟨P, 2, none⟩ = some (.int .i64 c) ∧ w'.cell? ⟨w.heap.size + 1, 2, none⟩ = some (.int .i64 n))
          ((exact hold4 (by (with_reducible repeat' (first | exact Gr.refl _ | refine Gr.set ?_ _ ?_ _ | refine Gr.alloc ?_ | refine Gr.drew ?_ | refine Gr.trans ?_ (by assumption))) <;> (first | (simp; done) | (simp; omega) | omega)) p0 p1 p2 b2))
          ((first
            | (go_at_call 95; refine (H1.out _).mono ?_; rintro e wn ⟨rfl, hgn⟩; have hzn := hgn.size; simp at hzn; have hbz := ((BoxAt.new wr _ _ _ _ _ rfl).gr (Gr.refl _).drew).gr hgn; obtain ⟨z0, z1, z2, zf0, zf1, zf2, z6⟩ := hbz)
            | (go_at_call 95; refine (H1.out _).mono ?_; rintro e wn ⟨rfl, hgn⟩; have hzn := hgn.size; simp at hzn)))
        all_goals (go_wp2_with fail; go_meet; exact ⟨_, rfl, rfl, by omega, by simp [go_sem, *], by simp [go_sem, *], by simp [go_sem, *], (by (with_reducible repeat' (first | exact Gr.refl _ | refine Gr.set ?_ _ ?_ _ | refine Gr.alloc ?_ | refine Gr.drew ?_ | refine Gr.trans ?_ (by assumption))) <;> (first | (simp; done) | (simp; omega) | omega))⟩)
      case rest =>
      obtain ⟨wp, rfl⟩ : ∃ x, x = wc := ⟨_, rfl⟩
      obtain ⟨Q, rfl, rfl, hQ, q0, q1, q2, hgc⟩ := hcut
      have HSP : Hid (SixAt wp P (.int .i64 a) (.int .i64 b) (.int .i64 c) (.int .i64 x) (.int .i64 y) (.int .i64 z)) := HS.out.gr hgc
      have HXP : Hid (AccAt wp w.heap.size (.string s) (.int .i64 a) (.int .i64 b) (.int .i64 c) (.int .i64 x) (.int .i64 y) (.int .i64 z)) := HX.out.gr hgc
      have HBP : Hid (BoxAt wp (w.heap.size + 1) (.int .i64 k) (.string t) (.int .i64 n)) := HB.out.gr hgc
      have HRP : Hid (AccAt wp (w.heap.size + 1 + 1) (.string ⟨#[]⟩) (.int .i64 0) (.int .i64 0) (.int .i64 0) (.int .i64 0) (.int .i64 0) (.int .i64 0)) := HR.out.gr hgc
      have HGP : Hid (Gr w wp) := HGW.out.trans hgc
      clear p0 p1 p2 p3 p4 p5 b2 hgc HS HX HB HR HGW
      by_cases he : e1 = 0
      · have hne : (e1 != 0) = false := by simpa using he
        have HE : Hid (e1 = 0) := he
        obtain ⟨p0, p1, p2, p3, p4, p5⟩ := HSP.out.cells
        obtain ⟨f0, f1, f2, f3, f4, f5⟩ := HSP.out.frozens
        clear he
        go_wp2
        go_roundw
        case rel =>
          refine ⟨⟨((HGP.out.set _ (by simp; omega) _).set _ (by simp; omega) _).set _ (by simp; omega) _, ((HXP.out.far _ _ (by simp; omega)).far _ _ (by simp; omega)).far _ _ (by simp; omega), ((HBP.out.far _ _ (by simp; omega)).far _ _ (by simp; omega)).far _ _ (by simp; omega), ((HRP.out.far _ _ (by simp; omega)).far _ _ (by simp; omega)).far _ _ (by simp; omega)⟩, Or.inr (Or.inl ⟨by go_num, HE.out, HSP.out.low _ _ _⟩)⟩
        case measure => simp [intOf]
      · have hne : (e1 != 0) = true := by simpa using he
        have HE : Hid (Act.both e1 e2 = e1 ∧ Act.pickS e1 s = ⟨#[]⟩ ∧ Pot.pick e1 a' = 0 ∧ Pot.pick e1 b' = 0 ∧ Pot.pick e1 c' = 0 ∧ Pot.pick e1 x' = 0 ∧ Pot.pick e1 y' = 0 ∧ Pot.pick e1 z' = 0) := by show _ ∧ _; unfold Act.both Act.pickS Pot.pick; simp [he]
        obtain ⟨r0, r1, r2, r3, r4, r5, r6⟩ := HRP.out.cells
        obtain ⟨f0, f1, f2, f3, f4, f5, f6⟩ := HRP.out.frozens
        clear he
        go_wp2
        exact bodyPost_ret (v := .tuple #[.agg #[.string ⟨#[]⟩, .int .i64 0, .int .i64 0, .int .i64 0, .int .i64 0, .int .i64 0, .int .i64 0], .int .i64 e1]) (by simp [results, Try.results86, go_sem, *]) rfl ⟨by rw [HE.out.1, HE.out.2.1, HE.out.2.2.1, HE.out.2.2.2.1, HE.out.2.2.2.2.1, HE.out.2.2.2.2.2.1, HE.out.2.2.2.2.2.2.1, HE.out.2.2.2.2.2.2.2], HGP.out.set7 _ (by omega) _ _ _ _ _ _ _⟩
    · have HE1 : Hid (e1 = 0) := he1
      clear he1 H1
      by_cases hg : g = 0
      · obtain ⟨rfl, rfl, rfl, rfl⟩ := HZ.out hg
        subst hg
        have HS : Hid (SixAt wr P (.int .i64 a') (.int .i64 b') (.int .i64 c') (.int .i64 x') (.int .i64 y') (.int .i64 z')) := hs
        clear hs b2 H2
        go_wp2
        go_roundw
        case rel => exact ⟨⟨HGW.out, HX.out, HB.out, HR.out⟩, Or.inr (Or.inr ⟨by go_num, HE1.out, by trivial, HS.out⟩)⟩
        case measure => simp [intOf]
      · have hg0 : (g == 0) = false := by simpa using hg
        have HNG : Hid (g ≠ 0) := hg
        clear hg HZ
        have HS : Hid (SixAt wr P (.int .i64 a') (.int .i64 b') (.int .i64 c') (.int .i64 x) (.int .i64 y) (.int .i64 z)) := hs
        obtain ⟨p0, p1, p2, p3, p4, p5⟩ := hs.cells
        have pl := hs.lt
        clear hs
        go_upto_region 9 with fail
        go_cut [12, 13] (fun sp se wx => ∃ Q, sp = .pointer (some ⟨Q, 0, none⟩) ∧ se = .int .i64 e2 ∧ wr.heap.size ≤ Q ∧ wx.cell? ⟨Q, 0, none⟩ = some (.int .i64 x') ∧ wx.cell? ⟨Q, 1, none⟩ = some (.int .i64 y') ∧ wx.cell? ⟨Q, 2, none⟩ = some (.int .i64 z') ∧ Gr wr wx)
        case first =>
          go_region_held3 (fun w' => Gr wr w' ∧ w'.cell? ⟨P, 3, none⟩ = some (.int .i64 x) ∧ w'.cell? ⟨P, 4, none⟩ = some (.int .i64 y) ∧ w'.cell? ⟨P, 5, none⟩ = some (.int .i64 z) ∧ w'.cell? ⟨w.heap.size + 1, 2, none⟩ = some (.int .i64 n))
            ((exact hold4 (by (with_reducible repeat' (first | exact Gr.refl _ | refine Gr.set ?_ _ ?_ _ | refine Gr.alloc ?_ | refine Gr.drew ?_ | refine Gr.trans ?_ (by assumption))) <;> (first | (simp; done) | (simp; omega) | omega)) p3 p4 p5 b2))
            ((first
              | (go_at_call 95; refine (H2.out HNG.out _).mono ?_; rintro e wn ⟨rfl, hgn⟩; have hzn := hgn.size; simp at hzn; have hbz := ((BoxAt.new wr _ _ _ _ _ rfl).gr (Gr.refl _).drew).gr hgn; obtain ⟨z0, z1, z2, zf0, zf1, zf2, z6⟩ := hbz)
              | (go_at_call 95; refine (H2.out HNG.out _).mono ?_; rintro e wn ⟨rfl, hgn⟩; have hzn := hgn.size; simp at hzn)))
          all_goals (go_wp2_with fail; go_meet; exact ⟨_, rfl, rfl, by omega, by simp [go_sem, *], by simp [go_sem, *], by simp [go_sem, *], (by (with_reducible repeat' (first | exact Gr.refl _ | refine Gr.set ?_ _ ?_ _ | refine Gr.alloc ?_ | refine Gr.drew ?_ | refine Gr.trans ?_ (by assumption))) <;> (first | (simp; done) | (simp; omega) | omega))⟩)
        case rest =>
        obtain ⟨wp, rfl⟩ : ∃ x, x = wc := ⟨_, rfl⟩
        obtain ⟨Q, rfl, rfl, hQ, q0, q1, q2, hgc⟩ := hcut
        have HSP : Hid (SixAt wp P (.int .i64 a') (.int .i64 b') (.int .i64 c') (.int .i64 x) (.int .i64 y) (.int .i64 z)) := HS.out.gr hgc
        have HXP : Hid (AccAt wp w.heap.size (.string s) (.int .i64 a) (.int .i64 b) (.int .i64 c) (.int .i64 x) (.int .i64 y) (.int .i64 z)) := HX.out.gr hgc
        have HBP : Hid (BoxAt wp (w.heap.size + 1) (.int .i64 k) (.string t) (.int .i64 n)) := HB.out.gr hgc
        have HRP : Hid (AccAt wp (w.heap.size + 1 + 1) (.string ⟨#[]⟩) (.int .i64 0) (.int .i64 0) (.int .i64 0) (.int .i64 0) (.int .i64 0) (.int .i64 0)) := HR.out.gr hgc
        have HGP : Hid (Gr w wp) := HGW.out.trans hgc
        clear p0 p1 p2 p3 p4 p5 b2 hgc HS HX HB HR HGW
        by_cases he : e2 = 0
        · have hne : (e2 != 0) = false := by simpa using he
          have HE : Hid (e2 = 0) := he
          obtain ⟨p0, p1, p2, p3, p4, p5⟩ := HSP.out.cells
          obtain ⟨f0, f1, f2, f3, f4, f5⟩ := HSP.out.frozens
          clear he
          go_wp2
          go_roundw
          case rel =>
            refine ⟨⟨((HGP.out.set _ (by simp; omega) _).set _ (by simp; omega) _).set _ (by simp; omega) _, ((HXP.out.far _ _ (by simp; omega)).far _ _ (by simp; omega)).far _ _ (by simp; omega), ((HBP.out.far _ _ (by simp; omega)).far _ _ (by simp; omega)).far _ _ (by simp; omega), ((HRP.out.far _ _ (by simp; omega)).far _ _ (by simp; omega)).far _ _ (by simp; omega)⟩, Or.inr (Or.inr ⟨by go_num, HE1.out, HE.out, HSP.out.high _ _ _⟩)⟩
          case measure => simp [intOf]
        · have hne : (e2 != 0) = true := by simpa using he
          have HE : Hid (Act.both e1 e2 = e2 ∧ Act.pickS e2 s = ⟨#[]⟩ ∧ Pot.pick e2 a' = 0 ∧ Pot.pick e2 b' = 0 ∧ Pot.pick e2 c' = 0 ∧ Pot.pick e2 x' = 0 ∧ Pot.pick e2 y' = 0 ∧ Pot.pick e2 z' = 0) := by show _ ∧ _; rw [HE1.out]; unfold Act.both Act.pickS Pot.pick; simp [he]
          obtain ⟨r0, r1, r2, r3, r4, r5, r6⟩ := HRP.out.cells
          obtain ⟨f0, f1, f2, f3, f4, f5, f6⟩ := HRP.out.frozens
          clear he
          go_wp2
          exact bodyPost_ret (v := .tuple #[.agg #[.string ⟨#[]⟩, .int .i64 0, .int .i64 0, .int .i64 0, .int .i64 0, .int .i64 0, .int .i64 0], .int .i64 e2]) (by simp [results, Try.results86, go_sem, *]) rfl ⟨by rw [HE.out.1, HE.out.2.1, HE.out.2.2.1, HE.out.2.2.2.1, HE.out.2.2.2.2.1, HE.out.2.2.2.2.2.1, HE.out.2.2.2.2.2.2.1, HE.out.2.2.2.2.2.2.2], HGP.out.set7 _ (by omega) _ _ _ _ _ _ _⟩
    · subst he1
      subst he2
      obtain ⟨p0, p1, p2, p3, p4, p5⟩ := hs.cells
      have pl := hs.lt
      have x0 := HX.out.c0
      have xl := HX.out.lt
      have hgw := HGW.out
      have hroom : RoomB wr (w.heap.size + 1 + 1) := ⟨_, _, _, _, _, _, _, HR.out⟩
      have HS0 : Hid (Gr w wr.drew ∧ wr.drew.cell? ⟨P, 0, none⟩ = some (.int .i64 a') ∧ wr.drew.cell? ⟨P, 1, none⟩ = some (.int .i64 b') ∧ wr.drew.cell? ⟨P, 2, none⟩ = some (.int .i64 c') ∧ wr.drew.cell? ⟨P, 3, none⟩ = some (.int .i64 x') ∧ wr.drew.cell? ⟨P, 4, none⟩ = some (.int .i64 y') ∧ wr.drew.cell? ⟨P, 5, none⟩ = some (.int .i64 z') ∧ wr.drew.cell? ⟨w.heap.size, 0, none⟩ = some (.string s) ∧ RoomB wr.drew (w.heap.size + 1 + 1)) := holdM_gr ⟨hgw, p0, p1, p2, p3, p4, p5, x0, hroom⟩ (Gr.refl wr).drew
      clear hs b2 bl HB HR HX HGW H1 H2 HZ hroom
      go_wp2_with fail
      go_region_held3 (fun w' => Gr w w' ∧ w'.cell? ⟨P, 0, none⟩ = some (.int .i64 a') ∧ w'.cell? ⟨P, 1, none⟩ = some (.int .i64 b') ∧ w'.cell? ⟨P, 2, none⟩ = some (.int .i64 c') ∧ w'.cell? ⟨P, 3, none⟩ = some (.int .i64 x') ∧ w'.cell? ⟨P, 4, none⟩ = some (.int .i64 y') ∧ w'.cell? ⟨P, 5, none⟩ = some (.int .i64 z') ∧ w'.cell? ⟨w.heap.size, 0, none⟩ = some (.string s) ∧ RoomB w' (w.heap.size + 1 + 1))
        ((first | with_reducible exact HS0.out | with_reducible exact HSn.out | with_reducible exact holdM_set HSn.out (by omega) (by omega) (by omega) _ _ _ _ _ _ _))
        ((go_at_call 31; refine (HL.out _).mono ?_; rintro e wn ⟨rfl, hgn⟩; go_split_ands; have HSn : Hid (Gr w wn ∧ wn.cell? ⟨P, 0, none⟩ = some (.int .i64 a') ∧ wn.cell? ⟨P, 1, none⟩ = some (.int .i64 b') ∧ wn.cell? ⟨P, 2, none⟩ = some (.int .i64 c') ∧ wn.cell? ⟨P, 3, none⟩ = some (.int .i64 x') ∧ wn.cell? ⟨P, 4, none⟩ = some (.int .i64 y') ∧ wn.cell? ⟨P, 5, none⟩ = some (.int .i64 z') ∧ wn.cell? ⟨w.heap.size, 0, none⟩ = some (.string s) ∧ RoomB wn (w.heap.size + 1 + 1)) := holdM_gr ⟨by assumption, by assumption, by assumption, by assumption, by assumption, by assumption, by assumption, by assumption, by assumption⟩ hgn; have R := (RoomB.gr (by assumption) hgn : RoomB _ (w.heap.size + 1 + 1)); obtain ⟨_, _, _, _, _, _, _, R⟩ := R; obtain ⟨r0, r1, r2, r3, r4, r5, r6⟩ := R.cells; obtain ⟨f0, f1, f2, f3, f4, f5, f6⟩ := R.frozens; have rl2 := R.lt; have c0 := hgn.keep (by assumption : Eq (World.cell? _ ⟨P, 0, none⟩) (some (.int .i64 a'))); have c1 := hgn.keep (by assumption : Eq (World.cell? _ ⟨P, 1, none⟩) (some (.int .i64 b'))); have c2 := hgn.keep (by assumption : Eq (World.cell? _ ⟨P, 2, none⟩) (some (.int .i64 c'))); have c3 := hgn.keep (by assumption : Eq (World.cell? _ ⟨P, 3, none⟩) (some (.int .i64 x'))); have c4 := hgn.keep (by assumption : Eq (World.cell? _ ⟨P, 4, none⟩) (some (.int .i64 y'))); have c5 := hgn.keep (by assumption : Eq (World.cell? _ ⟨P, 5, none⟩) (some (.int .i64 z')));  have c6 := hgn.keep (by assumption : Eq (World.cell? _ ⟨w.heap.size, 0, none⟩) (some (.string s)))))
      all_goals go_wp2
      all_goals
        exact bodyPost_ret (v := .tuple #[.agg #[.string s, .int .i64 a', .int .i64 b', .int .i64 c', .int .i64 x', .int .i64 y', .int .i64 z'], .int .i64 0]) (by simp [results, Try.results86, go_sem, *]) rfl ⟨rfl, HSn.out.1.set7 _ (by omega) _ _ _ _ _ _ _⟩
end Go.Proofs.Ytgidkmipecfjhaa
namespace Go.Proofs.Ytgidkmipecfjhaa
open Go.RowKit
set_option maxHeartbeats 8000000 in
set_option maxRecDepth 100000 in
theorem move_goU (s : ByteArray) (a b c x y z : Int) (k n : Int) (t : ByteArray) (f g a' b' c' x' y' z' e1 e2 : Int) (w : World)
    (HF : Hid (∀ w', Calls Try.prog 101 #[.agg #[.string s, .int .i64 a, .int .i64 b, .int .i64 c, .int .i64 x, .int .i64 y, .int .i64 z], .agg #[.int .i64 k, .string t, .int .i64 n]] w' fun e w2 => e = .returned (.int .i64 0) ∧ Gr w' w2))
    (HW : Hid (∀ w', Calls Try.prog 63 #[.int .i64 k] w' fun e w2 => e = .returned (.agg #[.int .i64 f, .int .i64 g]) ∧ Gr w' w2))
    (HL : Hid (∀ w', Calls Try.prog 31 #[.string s] w' fun e w2 => e = .returned (.string s) ∧ Gr w' w2))
    (H1 : Hid (∀ w', Calls Try.prog 87 #[.agg #[.int .i64 a, .int .i64 b, .int .i64 c], .bool (decide (f < 0)), .int .i64 n] w' fun e w2 => e = .returned (.tuple #[.agg #[.int .i64 a', .int .i64 b', .int .i64 c'], .int .i64 e1]) ∧ Gr w' w2))
    (H2 : Hid (g ≠ 0 → ∀ w', Calls Try.prog 87 #[.agg #[.int .i64 x, .int .i64 y, .int .i64 z], .bool (decide (g < 0)), .int .i64 n] w' fun e w2 => e = .returned (.tuple #[.agg #[.int .i64 x', .int .i64 y', .int .i64 z'], .int .i64 e2]) ∧ Gr w' w2))
    (HZ : Hid (g = 0 → x' = x ∧ y' = y ∧ z' = z ∧ e2 = 0)) (hf : f ≠ 0) :
    Calls Try.prog 86 #[.agg #[.string s, .int .i64 a, .int .i64 b, .int .i64 c, .int .i64 x, .int .i64 y, .int .i64 z], .agg #[.int .i64 k, .string t, .int .i64 n], .func (.func 87) #[] #[]] w fun e w' =>
      e = .returned (.tuple #[.agg #[.string (Act.pickS (Act.both e1 e2) s), .int .i64 (Pot.pick (Act.both e1 e2) a'), .int .i64 (Pot.pick (Act.both e1 e2) b'), .int .i64 (Pot.pick (Act.both e1 e2) c'), .int .i64 (Pot.pick (Act.both e1 e2) x'), .int .i64 (Pot.pick (Act.both e1 e2) y'), .int .i64 (Pot.pick (Act.both e1 e2) z')], .int .i64 (Act.both e1 e2)]) ∧ Gr w w' := by
  have hf0 : (f == 0) = false := by simpa using hf
  have hix0 : ∀ w : World, (Instr.index 100 (.agg #[.int .i64 f, .int .i64 g]) (.int .i64 0)).run Try.prog w = .ok (.int .i64 f) w := fun _ => by kernel_rfl
  have hix1 : ∀ w : World, (Instr.index 100 (.agg #[.int .i64 f, .int .i64 g]) (.int .i64 1)).run Try.prog w = .ok (.int .i64 g) w := fun _ => by kernel_rfl
  clear hf
  go_enter Try.func86, Try.ntmps86
  go_wp2_with fail
  refine (HF.out _).mono ?_
  rintro e w1 ⟨rfl, hg1⟩
  have R := (AccAt.new _ _ _ _ _ _ _ _ _ (w.heap.size + 1 + 1) (by simp)).gr hg1
  have X := (((AccAt.new w _ _ _ _ _ _ _ _ w.heap.size rfl).gr (Gr.refl _).alloc).gr (Gr.refl _).alloc).gr hg1
  have B := ((BoxAt.new _ _ _ _ _ (w.heap.size + 1) (by simp)).gr (Gr.refl _).alloc).gr hg1
  have g1 : Gr w w1 := (by (with_reducible repeat' (first | exact Gr.refl _ | refine Gr.set ?_ _ ?_ _ | refine Gr.alloc ?_ | refine Gr.drew ?_ | refine Gr.trans ?_ (by assumption))) <;> (first | (simp; done) | (simp; omega) | omega))
  have HR1 : Hid (AccAt w1 (w.heap.size + 1 + 1) (.string ⟨#[]⟩) (.int .i64 0) (.int .i64 0) (.int .i64 0) (.int .i64 0) (.int .i64 0) (.int .i64 0)) := R
  have HX1 : Hid (AccAt w1 w.heap.size (.string s) (.int .i64 a) (.int .i64 b) (.int .i64 c) (.int .i64 x) (.int .i64 y) (.int .i64 z)) := X
  have HB1 : Hid (BoxAt w1 (w.heap.size + 1) (.int .i64 k) (.string t) (.int .i64 n)) := B
  obtain ⟨x0, x1, x2, x3, x4, x5, x6⟩ := X.cells
  obtain ⟨b0, b1, b2, _, _, _, b6⟩ := B
  have hsz1 : w.heap.size + 1 + 1 < w1.heap.size := R.lt
  clear hg1 X R
  go_wp2_with fail
  refine (HW.out _).mono ?_
  rintro e w2 ⟨rfl, hg2⟩
  have HS2 : Hid (SixAt w2 w1.heap.size (.int .i64 a) (.int .i64 b) (.int .i64 c) (.int .i64 x) (.int .i64 y) (.int .i64 z)) := (SixAt.new w1 _ _ _ _ _ _ _ _ rfl).gr hg2
  have HG12 : Hid (Gr w1 w2) := (Gr.refl w1).alloc.trans hg2
  have HG1 : Hid (Gr w w1) := g1
  clear x0 x1 x2 x3 x4 x5 x6 b0 b1 b2 b6 hg2 g1
  go_wp2
  obtain ⟨P, hP⟩ : ∃ P, P = w1.heap.size := ⟨_, rfl⟩
  rw [← hP] at HS2 hsz1 ⊢
  have HI0 : Hid (Gr w w2 ∧ AccAt w2 w.heap.size (.string s) (.int .i64 a) (.int .i64 b) (.int .i64 c) (.int .i64 x) (.int .i64 y) (.int .i64 z) ∧ BoxAt w2 (w.heap.size + 1) (.int .i64 k) (.string t) (.int .i64 n) ∧ AccAt w2 (w.heap.size + 1 + 1) (.string ⟨#[]⟩) (.int .i64 0) (.int .i64 0) (.int .i64 0) (.int .i64 0) (.int .i64 0) (.int .i64 0)) :=
    ⟨HG1.out.trans HG12.out, HX1.out.gr HG12.out, HB1.out.gr HG12.out, HR1.out.gr HG12.out⟩
  clear HG1 HG12 HX1 HB1 HR1 hP
  go_loopw [29] (fun i wr => (Gr w wr ∧ AccAt wr w.heap.size (.string s) (.int .i64 a) (.int .i64 b) (.int .i64 c) (.int .i64 x) (.int .i64 y) (.int .i64 z) ∧ BoxAt wr (w.heap.size + 1) (.int .i64 k) (.string t) (.int .i64 n) ∧ AccAt wr (w.heap.size + 1 + 1) (.string ⟨#[]⟩) (.int .i64 0) (.int .i64 0) (.int .i64 0) (.int .i64 0) (.int .i64 0) (.int .i64 0)) ∧
    ((i = .int .i64 0 ∧ SixAt wr P (.int .i64 a) (.int .i64 b) (.int .i64 c) (.int .i64 x) (.int .i64 y) (.int .i64 z)) ∨ (i = .int .i64 1 ∧ e1 = 0 ∧ SixAt wr P (.int .i64 a') (.int .i64 b') (.int .i64 c') (.int .i64 x) (.int .i64 y) (.int .i64 z)) ∨ (i = .int .i64 2 ∧ e1 = 0 ∧ e2 = 0 ∧ SixAt wr P (.int .i64 a') (.int .i64 b') (.int .i64 c') (.int .i64 x') (.int .i64 y') (.int .i64 z'))))
    (fun i _ => 2 - (intOf i).toNat)
  case atStart => exact ⟨HI0.out, Or.inl ⟨rfl, HS2.out⟩⟩
  case round =>
    clear HI0 HS2
    obtain ⟨⟨hgw, hx, hb, hr⟩, hrel⟩ := hrel
    have HGW : Hid (Gr w wr) := hgw
    have HX : Hid (AccAt wr w.heap.size (.string s) (.int .i64 a) (.int .i64 b) (.int .i64 c) (.int .i64 x) (.int .i64 y) (.int .i64 z)) := hx
    have HB : Hid (BoxAt wr (w.heap.size + 1) (.int .i64 k) (.string t) (.int .i64 n)) := hb
    have HR : Hid (AccAt wr (w.heap.size + 1 + 1) (.string ⟨#[]⟩) (.int .i64 0) (.int .i64 0) (.int .i64 0) (.int .i64 0) (.int .i64 0) (.int .i64 0)) := hr
    have b2 := hb.c2
    have bl := hb.lt
    have rl := hr.lt
    clear hgw hx hb hr
    rcases hrel with ⟨rfl, hs⟩ | ⟨rfl, he1, hs⟩ | ⟨rfl, he1, he2, hs⟩
    · clear H2 HZ
      have HS : Hid (SixAt wr P (.int .i64 a) (.int .i64 b) (.int .i64 c) (.int .i64 x) (.int .i64 y) (.int .i64 z)) := hs
      obtain ⟨p0, p1, p2, p3, p4, p5⟩ := hs.cells
      have pl := hs.lt
      clear hs
      go_upto_region 9 with fail
      go_cut [12, 13] (fun sp se wx => ∃ Q, sp = .pointer (some ⟨Q, 0, none⟩) ∧ se = .int .i64 e1 ∧ wr.heap.size ≤ Q ∧ wx.cell? ⟨Q, 0, none⟩ = some (.int .i64 a') ∧ wx.cell? ⟨Q, 1, none⟩ = some (.int .i64 b') ∧ wx.cell? ⟨Q, 2, none⟩ = some (.int .i64 c') ∧ Gr wr wx)
      case first =>
        go_region_held3 (fun w' => Gr wr w' ∧ w'.cell? ⟨P, 0, none⟩ = some (.int .i64 a) ∧ w'.cell? ⟨P, 1, none⟩ = some (.int .i64 b) ∧ w'.cell? ⟨P, 2, none⟩ = some (.int .i64 c) ∧ w'.cell? ⟨w.heap.size + 1, 2, none⟩ = some (.int .i64 n))
          ((exact hold4 (by (with_reducible repeat' (first | exact Gr.refl _ | refine Gr.set ?_ _ ?_ _ | refine Gr.alloc ?_ | refine Gr.drew ?_ | refine Gr.trans ?_ (by assumption))) <;> (first | (simp; done) | (simp; omega) | omega)) p0 p1 p2 b2))
          ((first
            | (go_at_call 87; refine (H1.out _).mono ?_; rintro e wn ⟨rfl, hgn⟩; have hzn := hgn.size; simp at hzn; have hbz := ((BoxAt.new wr _ _ _ _ _ rfl).gr (Gr.refl _).drew).gr hgn; obtain ⟨z0, z1, z2, zf0, zf1, zf2, z6⟩ := hbz)
            | (go_at_call 87; refine (H1.out _).mono ?_; rintro e wn ⟨rfl, hgn⟩; have hzn := hgn.size; simp at hzn)))
        all_goals (go_wp2_with fail; go_meet; exact ⟨_, rfl, rfl, by omega, by simp [go_sem, *], by simp [go_sem, *], by simp [go_sem, *], (by (with_reducible repeat' (first | exact Gr.refl _ | refine Gr.set ?_ _ ?_ _ | refine Gr.alloc ?_ | refine Gr.drew ?_ | refine Gr.trans ?_ (by assumption))) <;> (first | (simp; done) | (simp; omega) | omega))⟩)
      case rest =>
      obtain ⟨wp, rfl⟩ : ∃ x, x = wc := ⟨_, rfl⟩
      obtain ⟨Q, rfl, rfl, hQ, q0, q1, q2, hgc⟩ := hcut
      have HSP : Hid (SixAt wp P (.int .i64 a) (.int .i64 b) (.int .i64 c) (.int .i64 x) (.int .i64 y) (.int .i64 z)) := HS.out.gr hgc
      have HXP : Hid (AccAt wp w.heap.size (.string s) (.int .i64 a) (.int .i64 b) (.int .i64 c) (.int .i64 x) (.int .i64 y) (.int .i64 z)) := HX.out.gr hgc
      have HBP : Hid (BoxAt wp (w.heap.size + 1) (.int .i64 k) (.string t) (.int .i64 n)) := HB.out.gr hgc
      have HRP : Hid (AccAt wp (w.heap.size + 1 + 1) (.string ⟨#[]⟩) (.int .i64 0) (.int .i64 0) (.int .i64 0) (.int .i64 0) (.int .i64 0) (.int .i64 0)) := HR.out.gr hgc
      have HGP : Hid (Gr w wp) := HGW.out.trans hgc
      clear p0 p1 p2 p3 p4 p5 b2 hgc HS HX HB HR HGW
      by_cases he : e1 = 0
      · have hne : (e1 != 0) = false := by simpa using he
        have HE : Hid (e1 = 0) := he
        obtain ⟨p0, p1, p2, p3, p4, p5⟩ := HSP.out.cells
        obtain ⟨f0, f1, f2, f3, f4, f5⟩ := HSP.out.frozens
        clear he
        go_wp2
        go_roundw
        case rel =>
          refine ⟨⟨((HGP.out.set _ (by simp; omega) _).set _ (by simp; omega) _).set _ (by simp; omega) _, ((HXP.out.far _ _ (by simp; omega)).far _ _ (by simp; omega)).far _ _ (by simp; omega), ((HBP.out.far _ _ (by simp; omega)).far _ _ (by simp; omega)).far _ _ (by simp; omega), ((HRP.out.far _ _ (by simp; omega)).far _ _ (by simp; omega)).far _ _ (by simp; omega)⟩, Or.inr (Or.inl ⟨by go_num, HE.out, HSP.out.low _ _ _⟩)⟩
        case measure => simp [intOf]
      · have hne : (e1 != 0) = true := by simpa using he
        have HE : Hid (Act.both e1 e2 = e1 ∧ Act.pickS e1 s = ⟨#[]⟩ ∧ Pot.pick e1 a' = 0 ∧ Pot.pick e1 b' = 0 ∧ Pot.pick e1 c' = 0 ∧ Pot.pick e1 x' = 0 ∧ Pot.pick e1 y' = 0 ∧ Pot.pick e1 z' = 0) := by show _ ∧ _; unfold Act.both Act.pickS Pot.pick; simp [he]
        obtain ⟨r0, r1, r2, r3, r4, r5, r6⟩ := HRP.out.cells
        obtain ⟨f0, f1, f2, f3, f4, f5, f6⟩ := HRP.out.frozens
        clear he
        go_wp2
        exact bodyPost_ret (v := .tuple #[.agg #[.string ⟨#[]⟩, .int .i64 0, .int .i64 0, .int .i64 0, .int .i64 0, .int .i64 0, .int .i64 0], .int .i64 e1]) (by simp [results, Try.results86, go_sem, *]) rfl ⟨by rw [HE.out.1, HE.out.2.1, HE.out.2.2.1, HE.out.2.2.2.1, HE.out.2.2.2.2.1, HE.out.2.2.2.2.2.1, HE.out.2.2.2.2.2.2.1, HE.out.2.2.2.2.2.2.2], HGP.out.set7 _ (by omega) _ _ _ _ _ _ _⟩
    · have HE1 : Hid (e1 = 0) := he1
      clear he1 H1
      by_cases hg : g = 0
      · obtain ⟨rfl, rfl, rfl, rfl⟩ := HZ.out hg
        subst hg
        have HS : Hid (SixAt wr P (.int .i64 a') (.int .i64 b') (.int .i64 c') (.int .i64 x') (.int .i64 y') (.int .i64 z')) := hs
        clear hs b2 H2
        go_wp2
        go_roundw
        case rel => exact ⟨⟨HGW.out, HX.out, HB.out, HR.out⟩, Or.inr (Or.inr ⟨by go_num, HE1.out, by trivial, HS.out⟩)⟩
        case measure => simp [intOf]
      · have hg0 : (g == 0) = false := by simpa using hg
        have HNG : Hid (g ≠ 0) := hg
        clear hg HZ
        have HS : Hid (SixAt wr P (.int .i64 a') (.int .i64 b') (.int .i64 c') (.int .i64 x) (.int .i64 y) (.int .i64 z)) := hs
        obtain ⟨p0, p1, p2, p3, p4, p5⟩ := hs.cells
        have pl := hs.lt
        clear hs
        go_upto_region 9 with fail
        go_cut [12, 13] (fun sp se wx => ∃ Q, sp = .pointer (some ⟨Q, 0, none⟩) ∧ se = .int .i64 e2 ∧ wr.heap.size ≤ Q ∧ wx.cell? ⟨Q, 0, none⟩ = some (.int .i64 x') ∧ wx.cell? ⟨Q, 1, none⟩ = some (.int .i64 y') ∧ wx.cell? ⟨Q, 2, none⟩ = some (.int .i64 z') ∧ Gr wr wx)
        case first =>
          go_region_held3 (fun w' => Gr wr w' ∧ w'.cell? ⟨P, 3, none⟩ = some (.int .i64 x) ∧ w'.cell? ⟨P, 4, none⟩ = some (.int .i64 y) ∧ w'.cell? ⟨P, 5, none⟩ = some (.int .i64 z) ∧ w'.cell? ⟨w.heap.size + 1, 2, none⟩ = some (.int .i64 n))
            ((exact hold4 (by (with_reducible repeat' (first | exact Gr.refl _ | refine Gr.set ?_ _ ?_ _ | refine Gr.alloc ?_ | refine Gr.drew ?_ | refine Gr.trans ?_ (by assumption))) <;> (first | (simp; done) | (simp; omega) | omega)) p3 p4 p5 b2))
            ((first
              | (go_at_call 87; refine (H2.out HNG.out _).mono ?_; rintro e wn ⟨rfl, hgn⟩; have hzn := hgn.size; simp at hzn; have hbz := ((BoxAt.new wr _ _ _ _ _ rfl).gr (Gr.refl _).drew).gr hgn; obtain ⟨z0, z1, z2, zf0, zf1, zf2, z6⟩ := hbz)
              | (go_at_call 87; refine (H2.out HNG.out _).mono ?_; rintro e wn ⟨rfl, hgn⟩; have hzn := hgn.size; simp at hzn)))
          all_goals (go_wp2_with fail; go_meet; exact ⟨_, rfl, rfl, by omega, by simp [go_sem, *], by simp [go_sem, *], by simp [go_sem, *], (by (with_reducible repeat' (first | exact Gr.refl _ | refine Gr.set ?_ _ ?_ _ | refine Gr.alloc ?_ | refine Gr.drew ?_ | refine Gr.trans ?_ (by assumption))) <;> (first | (simp; done) | (simp; omega) | omega))⟩)
        case rest =>
        obtain ⟨wp, rfl⟩ : ∃ x, x = wc := ⟨_, rfl⟩
        obtain ⟨Q, rfl, rfl, hQ, q0, q1, q2, hgc⟩ := hcut
        have HSP : Hid (SixAt wp P (.int .i64 a') (.int .i64 b') (.int .i64 c') (.int .i64 x) (.int .i64 y) (.int .i64 z)) := HS.out.gr hgc
        have HXP : Hid (AccAt wp w.heap.size (.string s) (.int .i64 a) (.int .i64 b) (.int .i64 c) (.int .i64 x) (.int .i64 y) (.int .i64 z)) := HX.out.gr hgc
        have HBP : Hid (BoxAt wp (w.heap.size + 1) (.int .i64 k) (.string t) (.int .i64 n)) := HB.out.gr hgc
        have HRP : Hid (AccAt wp (w.heap.size + 1 + 1) (.string ⟨#[]⟩) (.int .i64 0) (.int .i64 0) (.int .i64 0) (.int .i64 0) (.int .i64 0) (.int .i64 0)) := HR.out.gr hgc
        have HGP : Hid (Gr w wp) := HGW.out.trans hgc
        clear p0 p1 p2 p3 p4 p5 b2 hgc HS HX HB HR HGW
        by_cases he : e2 = 0
        · have hne : (e2 != 0) = false := by simpa using he
          have HE : Hid (e2 = 0) := he
          obtain ⟨p0, p1, p2, p3, p4, p5⟩ := HSP.out.cells
          obtain ⟨f0, f1, f2, f3, f4, f5⟩ := HSP.out.frozens
          clear he
          go_wp2
          go_roundw
          case rel =>
            refine ⟨⟨((HGP.out.set _ (by simp; omega) _).set _ (by simp; omega) _).set _ (by simp; omega) _, ((HXP.out.far _ _ (by simp; omega)).far _ _ (by simp; omega)).far _ _ (by simp; omega), ((HBP.out.far _ _ (by simp; omega)).far _ _ (by simp; omega)).far _ _ (by simp; omega), ((HRP.out.far _ _ (by simp; omega)).far _ _ (by simp; omega)).far _ _ (by simp; omega)⟩, Or.inr (Or.inr ⟨by go_num, HE1.out, HE.out, HSP.out.high _ _ _⟩)⟩
          case measure => simp [intOf]
        · have hne : (e2 != 0) = true := by simpa using he
          have HE : Hid (Act.both e1 e2 = e2 ∧ Act.pickS e2 s = ⟨#[]⟩ ∧ Pot.pick e2 a' = 0 ∧ Pot.pick e2 b' = 0 ∧ Pot.pick e2 c' = 0 ∧ Pot.pick e2 x' = 0 ∧ Pot.pick e2 y' = 0 ∧ Pot.pick e2 z' = 0) := by show _ ∧ _; rw [HE1.out]; unfold Act.both Act.pickS Pot.pick; simp [he]
          obtain ⟨r0, r1, r2, r3, r4, r5, r6⟩ := HRP.out.cells
          obtain ⟨f0, f1, f2, f3, f4, f5, f6⟩ := HRP.out.frozens
          clear he
          go_wp2
          exact bodyPost_ret (v := .tuple #[.agg #[.string ⟨#[]⟩, .int .i64 0, .int .i64 0, .int .i64 0, .int .i64 0, .int .i64 0, .int .i64 0], .int .i64 e2]) (by simp [results, Try.results86, go_sem, *]) rfl ⟨by rw [HE.out.1, HE.out.2.1, HE.out.2.2.1, HE.out.2.2.2.1, HE.out.2.2.2.2.1, HE.out.2.2.2.2.2.1, HE.out.2.2.2.2.2.2.1, HE.out.2.2.2.2.2.2.2], HGP.out.set7 _ (by omega) _ _ _ _ _ _ _⟩
    · subst he1
      subst he2
      obtain ⟨p0, p1, p2, p3, p4, p5⟩ := hs.cells
      have pl := hs.lt
      have x0 := HX.out.c0
      have xl := HX.out.lt
      have hgw := HGW.out
      have hroom : RoomB wr (w.heap.size + 1 + 1) := ⟨_, _, _, _, _, _, _, HR.out⟩
      have HS0 : Hid (Gr w wr.drew ∧ wr.drew.cell? ⟨P, 0, none⟩ = some (.int .i64 a') ∧ wr.drew.cell? ⟨P, 1, none⟩ = some (.int .i64 b') ∧ wr.drew.cell? ⟨P, 2, none⟩ = some (.int .i64 c') ∧ wr.drew.cell? ⟨P, 3, none⟩ = some (.int .i64 x') ∧ wr.drew.cell? ⟨P, 4, none⟩ = some (.int .i64 y') ∧ wr.drew.cell? ⟨P, 5, none⟩ = some (.int .i64 z') ∧ wr.drew.cell? ⟨w.heap.size, 0, none⟩ = some (.string s) ∧ RoomB wr.drew (w.heap.size + 1 + 1)) := holdM_gr ⟨hgw, p0, p1, p2, p3, p4, p5, x0, hroom⟩ (Gr.refl wr).drew
      clear hs b2 bl HB HR HX HGW H1 H2 HZ hroom
      go_wp2_with fail
      go_region_held3 (fun w' => Gr w w' ∧ w'.cell? ⟨P, 0, none⟩ = some (.int .i64 a') ∧ w'.cell? ⟨P, 1, none⟩ = some (.int .i64 b') ∧ w'.cell? ⟨P, 2, none⟩ = some (.int .i64 c') ∧ w'.cell? ⟨P, 3, none⟩ = some (.int .i64 x') ∧ w'.cell? ⟨P, 4, none⟩ = some (.int .i64 y') ∧ w'.cell? ⟨P, 5, none⟩ = some (.int .i64 z') ∧ w'.cell? ⟨w.heap.size, 0, none⟩ = some (.string s) ∧ RoomB w' (w.heap.size + 1 + 1))
        ((first | with_reducible exact HS0.out | with_reducible exact HSn.out | with_reducible exact holdM_set HSn.out (by omega) (by omega) (by omega) _ _ _ _ _ _ _))
        ((go_at_call 31; refine (HL.out _).mono ?_; rintro e wn ⟨rfl, hgn⟩; go_split_ands; have HSn : Hid (Gr w wn ∧ wn.cell? ⟨P, 0, none⟩ = some (.int .i64 a') ∧ wn.cell? ⟨P, 1, none⟩ = some (.int .i64 b') ∧ wn.cell? ⟨P, 2, none⟩ = some (.int .i64 c') ∧ wn.cell? ⟨P, 3, none⟩ = some (.int .i64 x') ∧ wn.cell? ⟨P, 4, none⟩ = some (.int .i64 y') ∧ wn.cell? ⟨P, 5, none⟩ = some (.int .i64 z') ∧ wn.cell? ⟨w.heap.size, 0, none⟩ = some (.string s) ∧ RoomB wn (w.heap.size + 1 + 1)) := holdM_gr ⟨by assumption, by assumption, by assumption, by assumption, by assumption, by assumption, by assumption, by assumption, by assumption⟩ hgn; have R := (RoomB.gr (by assumption) hgn : RoomB _ (w.heap.size + 1 + 1)); obtain ⟨_, _, _, _, _, _, _, R⟩ := R; obtain ⟨r0, r1, r2, r3, r4, r5, r6⟩ := R.cells; obtain ⟨f0, f1, f2, f3, f4, f5, f6⟩ := R.frozens; have rl2 := R.lt; have c0 := hgn.keep (by assumption : Eq (World.cell? _ ⟨P, 0, none⟩) (some (.int .i64 a'))); have c1 := hgn.keep (by assumption : Eq (World.cell? _ ⟨P, 1, none⟩) (some (.int .i64 b'))); have c2 := hgn.keep (by assumption : Eq (World.cell? _ ⟨P, 2, none⟩) (some (.int .i64 c'))); have c3 := hgn.keep (by assumption : Eq (World.cell? _ ⟨P, 3, none⟩) (some (.int .i64 x'))); have c4 := hgn.keep (by assumption : Eq (World.cell? _ ⟨P, 4, none⟩) (some (.int .i64 y'))); have c5 := hgn.keep (by assumption : Eq (World.cell? _ ⟨P, 5, none⟩) (some (.int .i64 z')));  have c6 := hgn.keep (by assumption : Eq (World.cell? _ ⟨w.heap.size, 0, none⟩) (some (.string s)))))
      all_goals go_wp2
      all_goals
        exact bodyPost_ret (v := .tuple #[.agg #[.string s, .int .i64 a', .int .i64 b', .int .i64 c', .int .i64 x', .int .i64 y', .int .i64 z'], .int .i64 0]) (by simp [results, Try.results86, go_sem, *]) rfl ⟨rfl, HSn.out.1.set7 _ (by omega) _ _ _ _ _ _ _⟩
end Go.Proofs.Ytgidkmipecfjhaa
