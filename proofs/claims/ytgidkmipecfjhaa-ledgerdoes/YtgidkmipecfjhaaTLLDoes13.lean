/- What the proof is made of, part 13. -/
import Derived.Test.YtgidkmipecfjhaaTLLDoes12
import Derived.BigRegion
import Derived.Deep.RegionHeld3
namespace Go.Proofs.Ytgidkmipecfjhaa
open Go.RowKit
set_option maxHeartbeats 8000000 in
set_option maxRecDepth 100000 in
theorem move_goK (s : ByteArray) (a b c x y z : Int) (k n : Int) (t : ByteArray) (f g a' b' c' x' y' z' e1 e2 : Int) (w : World)
    (HF : Hid (∀ w', Calls Try.prog 101 #[.agg #[.string s, .int .i64 a, .int .i64 b, .int .i64 c, .int .i64 x, .int .i64 y, .int .i64 z], .agg #[.int .i64 k, .string t, .int .i64 n]] w' fun e w2 => e = .returned (.int .i64 0) ∧ Gr w' w2))
    (HW : Hid (∀ w', Calls Try.prog 63 #[.int .i64 k] w' fun e w2 => e = .returned (.agg #[.int .i64 f, .int .i64 g]) ∧ Gr w' w2))
    (HL : Hid (∀ w', Calls Try.prog 31 #[.string s] w' fun e w2 => e = .returned (.string s) ∧ Gr w' w2))
    (H1 : Hid (∀ w', Calls Try.prog 88 #[.agg #[.int .i64 a, .int .i64 b, .int .i64 c], .bool (decide (f < 0)), .int .i64 n] w' fun e w2 => e = .returned (.tuple #[.agg #[.int .i64 a', .int .i64 b', .int .i64 c'], .int .i64 e1]) ∧ Gr w' w2))
    (H2 : Hid (g ≠ 0 → ∀ w', Calls Try.prog 88 #[.agg #[.int .i64 x, .int .i64 y, .int .i64 z], .bool (decide (g < 0)), .int .i64 n] w' fun e w2 => e = .returned (.tuple #[.agg #[.int .i64 x', .int .i64 y', .int .i64 z'], .int .i64 e2]) ∧ Gr w' w2))
    (HZ : Hid (g = 0 → x' = x ∧ y' = y ∧ z' = z ∧ e2 = 0)) (hf : f ≠ 0) :
    Calls Try.prog 86 #[.agg #[.string s, .int .i64 a, .int .i64 b, .int .i64 c, .int .i64 x, .int .i64 y, .int .i64 z], .agg #[.int .i64 k, .string t, .int .i64 n], .func (.func 88) #[] #[]] w fun e w' =>
      e = .returned (.tuple #[.agg #[.string (Act.pickS (Act.both e1 e2) s), .int .i64 (Pot.pick (Act.both e1 e2) a'), .int .i64 (Pot.pick (Act.both e1 e2) b'), .int .i64 (Pot.pick (Act.both e1 e2) c'), .int .i64 (Pot.pick (Act.both e1 e2) x'), .int .i64 (Pot.pick (Act.both e1 e2) y'), .int .i64 (Pot.pick (Act.both e1 e2) z')], .int .i64 (Act.both e1 e2)]) ∧ Gr w w' := by
  have hf0 : (f == 0) = false := by simpa using hf
  have hix0 : ∀ w : World, (Instr.index 100 (.agg #[.int .i64 f, .int .i64 g]) (.int .i64 0)).run Try.prog w = .ok (.int .i64 f) w := fun _ => by kernel_rfl
  have hix1 : ∀ w : World, (Instr.index 100 (.agg #[.int .i64 f, .int .i64 g]) (.int .i64 1)).run Try.prog w = .ok (.int .i64 g) w := fun _ => by kernel_rfl
  clear hf
  go_enter Try.func86, Try.ntmps86
  go_wp2_with fail
  refine (HF.out _).mono ?_
  rintro e w1 ⟨rfl, hg1⟩
  have R := (AccAt.new _ _ _ _ _ _ _ _ _ (w.heap.size + 1 + 1) (by simp)).gr hg1
  have X := (((AccAt.new w _ _ _ _ _ _ _ _ w.heap.size rfl).gr (Gr.refl _).alloc).gr (Gr.refl _).alloc).gr hg1
  have B := ((BoxAt.new _ _ _ _ _ (w.heap.size + 1) (by simp)).gr (Gr.refl _).alloc).gr hg1
  have g1 : Gr w w1 := (by (with_reducible repeat' (first | exact Gr.refl _ | refine Gr.set ?_ _ ?_ _ | refine Gr.alloc ?_ | refine Gr.drew ?_ | refine Gr.trans ?_ (by assumption))) <;> (first | (simp; done) | (simp; omega) | omega))
  have HR1 : Hid (AccAt w1 (w.heap.size + 1 + 1) (.string ⟨#[]⟩) (.int .i64 0) (.int .i64 0) (.int .i64 0) (.int .i64 0) (.int .i64 0) (.int .i64 0)) := R
  have HX1 : Hid (AccAt w1 w.heap.size (.string s) (.int .i64 a) (.int .i64 b) (.int .i64 c) (.int .i64 x) (.int .i64 y) (.int .i64 z)) := X
  have HB1 : Hid (BoxAt w1 (w.heap.size + 1) (.int .i64 k) (.string t) (.int .i64 n)) := B
  obtain ⟨x0, x1, x2, x3, x4, x5, x6⟩ := X.cells
  obtain ⟨b0, b1, b2, _, _, _, b6⟩ := B
  have hsz1 : w.heap.size + 1 + 1 < w1.heap.size := R.lt
  clear hg1 X R
  go_wp2_with fail
  refine (HW.out _).mono ?_
  rintro e w2 ⟨rfl, hg2⟩
  have HS2 : Hid (SixAt w2 w1.heap.size (.int .i64 a) (.int .i64 b) (.int .i64 c) (.int .i64 x) (.int .i64 y) (.int .i64 z)) := (SixAt.new w1 _ _ _ _ _ _ _ _ rfl).gr hg2
  have HG12 : Hid (Gr w1 w2) := (Gr.refl w1).alloc.trans hg2
  have HG1 : Hid (Gr w w1) := g1
  clear x0 x1 x2 x3 x4 x5 x6 b0 b1 b2 b6 hg2 g1
  go_wp2
  obtain ⟨P, hP⟩ : ∃ P, P = w1.heap.size := ⟨_, rfl⟩
  rw [← hP] at HS2 hsz1 ⊢
  have HI0 : Hid (Gr w w2 ∧ AccAt w2 w.heap.size (.string s) (.int .i64 a) (.int .i64 b) (.int .i64 c) (.int .i64 x) (.int .i64 y) (.int .i64 z) ∧ BoxAt w2 (w.heap.size + 1) (.int .i64 k) (.string t) (.int .i64 n) ∧ AccAt w2 (w.heap.size + 1 + 1) (.string ⟨#[]⟩) (.int .i64 0) (.int .i64 0) (.int .i64 0) (.int .i64 0) (.int .i64 0) (.int .i64 0)) :=
    ⟨HG1.out.trans HG12.out, HX1.out.gr HG12.out, HB1.out.gr HG12.out, HR1.out.gr HG12.out⟩
  clear HG1 HG12 HX1 HB1 HR1 hP
  go_loopw [29] (fun i wr => (Gr w wr ∧ AccAt wr w.heap.size (.string s) (.int .i64 a) (.int .i64 b) (.int .i64 c) (.int .i64 x) (.int .i64 y) (.int .i64 z) ∧ BoxAt wr (w.heap.size + 1) (.int .i64 k) (.string t) (.int .i64 n) ∧ AccAt wr (w.heap.size + 1 + 1) (.string ⟨#[]⟩) (.int .i64 0) (.int .i64 0) (.int .i64 0) (.int .i64 0) (.int .i64 0) (.int .i64 0)) ∧
    ((i = .int .i64 0 ∧ SixAt wr P (.int .i64 a) (.int .i64 b) (.int .i64 c) (.int .i64 x) (.int .i64 y) (.int .i64 z)) ∨ (i = .int .i64 1 ∧ e1 = 0 ∧ SixAt wr P (.int .i64 a') (.int .i64 b') (.int .i64 c') (.int .i64 x) (.int .i64 y) (.int .i64 z)) ∨ (i = .int .i64 2 ∧ e1 = 0 ∧ e2 = 0 ∧ SixAt wr P (.int .i64 a') (.int .i64 b') (.int .i64 c') (.int .i64 x') (.int .i64 y') (.int .i64 z'))))
    (fun i _ => 2 - (intOf i).toNat)
  case atStart => exact ⟨HI0.out, Or.inl ⟨rfl, HS2.out⟩⟩
  case round =>
    clear HI0 HS2
    obtain ⟨⟨hgw, hx, hb, hr⟩, hrel⟩ := hrel
    have HGW : Hid (Gr w wr) := hgw
    have HX : Hid (AccAt wr w.heap.size (.string s) (.int .i64 a) (.int .i64 b) (.int .i64 c) (.int .i64 x) (.int .i64 y) (.int .i64 z)) := hx
    have HB : Hid (BoxAt wr (w.heap.size + 1) (.int .i64 k) (.string t) (.int .i64 n)) := hb
    have HR : Hid (AccAt wr (w.heap.size + 1 + 1) (.string ⟨#[]⟩) (.int .i64 0) (.int .i64 0) (.int .i64 0) (.int .i64 0) (.int .i64 0) (.int .i64 0)) := hr
    have b2 := hb.c2
    have bl := hb.lt
    have rl := hr.lt
    clear hgw hx hb hr
    rcases hrel with ⟨rfl, hs⟩ | ⟨rfl, he1, hs⟩ | ⟨rfl, he1, he2, hs⟩
    · clear H2 HZ
      have HS : Hid (SixAt wr P (.int .i64 a) (.int .i64 b) (.int .i64 c) (.int .i64 x) (.int .i64 y) (.int .i64 z)) := hs
      obtain ⟨p0, p1, p2, p3, p4, p5⟩ := hs.cells
      have pl := hs.lt
      clear hs
      go_upto_region 9 with fail
      go_cut [12, 13] (fun sp se wx => ∃ Q, sp = .pointer (some ⟨Q, 0, none⟩) ∧ se = .int .i64 e1 ∧ wr.heap.size ≤ Q ∧ wx.cell? ⟨Q, 0, none⟩ = some (.int .i64 a') ∧ wx.cell? ⟨Q, 1, none⟩ = some (.int .i64 b') ∧ wx.cell? ⟨Q, 2, none⟩ = some (.int .i64 c') ∧ Gr wr wx)
      case first =>
        go_region_held3 (fun w' => Gr wr w' ∧ w'.cell? ⟨P, 0, none⟩ = some (.int .i64 a) ∧ w'.cell? ⟨P, 1, none⟩ = some (.int .i64 b) ∧ w'.cell? ⟨P, 2, none⟩ = some (.int .i64 c) ∧ w'.cell? ⟨w.heap.size + 1, 2, none⟩ = some (.int .i64 n))
          ((exact hold4 (by (with_reducible repeat' (first | exact Gr.refl _ | refine Gr.set ?_ _ ?_ _ | refine Gr.alloc ?_ | refine Gr.drew ?_ | refine Gr.trans ?_ (by assumption))) <;> (first | (simp; done) | (simp; omega) | omega)) p0 p1 p2 b2))
          ((first
            | (go_at_call 88; refine (H1.out _).mono ?_; rintro e wn ⟨rfl, hgn⟩; have hzn := hgn.size; simp at hzn; have hbz := ((BoxAt.new wr _ _ _ _ _ rfl).gr (Gr.refl _).drew).gr hgn; obtain ⟨z0, z1, z2, zf0, zf1, zf2, z6⟩ := hbz)
            | (go_at_call 88; refine (H1.out _).mono ?_; rintro e wn ⟨rfl, hgn⟩; have hzn := hgn.size; simp at hzn)))
        all_goals (go_wp2_with fail; go_meet; exact ⟨_, rfl, rfl, by omega, by simp [go_sem, *], by simp [go_sem, *], by simp [go_sem, *], (by (with_reducible repeat' (first | exact Gr.refl _ | refine Gr.set ?_ _ ?_ _ | refine Gr.alloc ?_ | refine Gr.drew ?_ | refine Gr.trans ?_ (by assumption))) <;> (first | (simp; done) | (simp; omega) | omega))⟩)
      case rest =>
      obtain ⟨wp, rfl⟩ : ∃ x, x = wc := ⟨_, rfl⟩
      obtain ⟨Q, rfl, rfl, hQ, q0, q1, q2, hgc⟩ := hcut
      have HSP : Hid (SixAt wp P (.int .i64 a) (.int .i64 b) (.int .i64 c) (.int .i64 x) (.int .i64 y) (.int .i64 z)) := HS.out.gr hgc
      have HXP : Hid (AccAt wp w.heap.size (.string s) (.int .i64 a) (.int .i64 b) (.int .i64 c) (.int .i64 x) (.int .i64 y) (.int .i64 z)) := HX.out.gr hgc
      have HBP : Hid (BoxAt wp (w.heap.size + 1) (.int .i64 k) (.string t) (.int .i64 n)) := HB.out.gr hgc
      have HRP : Hid (AccAt wp (w.heap.size + 1 + 1) (.string ⟨#[]⟩) (.int .i64 0) (.int .i64 0) (.int .i64 0) (.int .i64 0) (.int .i64 0) (.int .i64 0)) := HR.out.gr hgc
      have HGP : Hid (Gr w wp) := HGW.out.trans hgc
      clear p0 p1 p2 p3 p4 p5 b2 hgc HS HX HB HR HGW
      by_cases he : e1 = 0
      · have hne : (e1 != 0) = false := by simpa using he
        have HE : Hid (e1 = 0) := he
        obtain ⟨p0, p1, p2, p3, p4, p5⟩ := HSP.out.cells
        obtain ⟨f0, f1, f2, f3, f4, f5⟩ := HSP.out.frozens
        clear he
        go_wp2
        go_roundw
        case rel =>
          refine ⟨⟨((HGP.out.set _ (by simp; omega) _).set _ (by simp; omega) _).set _ (by simp; omega) _, ((HXP.out.far _ _ (by simp; omega)).far _ _ (by simp; omega)).far _ _ (by simp; omega), ((HBP.out.far _ _ (by simp; omega)).far _ _ (by simp; omega)).far _ _ (by simp; omega), ((HRP.out.far _ _ (by simp; omega)).far _ _ (by simp; omega)).far _ _ (by simp; omega)⟩, Or.inr (Or.inl ⟨by go_num, HE.out, HSP.out.low _ _ _⟩)⟩
        case measure => simp [intOf]
      · have hne : (e1 != 0) = true := by simpa using he
        have HE : Hid (Act.both e1 e2 = e1 ∧ Act.pickS e1 s = ⟨#[]⟩ ∧ Pot.pick e1 a' = 0 ∧ Pot.pick e1 b' = 0 ∧ Pot.pick e1 c' = 0 ∧ Pot.pick e1 x' = 0 ∧ Pot.pick e1 y' = 0 ∧ Pot.pick e1 z' = 0) := by show _ ∧ _; unfold Act.both Act.pickS Pot.pick; simp [he]
        obtain ⟨r0, r1, r2, r3, r4, r5, r6⟩ := HRP.out.cells
        obtain ⟨f0, f1, f2, f3, f4, f5, f6⟩ := HRP.out.frozens
        clear he
        go_wp2
        exact bodyPost_ret (v := .tuple #[.agg #[.string ⟨#[]⟩, .int .i64 0, .int .i64 0, .int .i64 0, .int .i64 0, .int .i64 0, .int .i64 0], .int .i64 e1]) (by simp [results, Try.results86, go_sem, *]) rfl ⟨by rw [HE.out.1, HE.out.2.1, HE.out.2.2.1, HE.out.2.2.2.1, HE.out.2.2.2.2.1, HE.out.2.2.2.2.2.1, HE.out.2.2.2.2.2.2.1, HE.out.2.2.2.2.2.2.2], HGP.out.set7 _ (by omega) _ _ _ _ _ _ _⟩
    · have HE1 : Hid (e1 = 0) := he1
      clear he1 H1
      by_cases hg : g = 0
      · obtain ⟨rfl, rfl, rfl, rfl⟩ := HZ.out hg
        subst hg
        have HS : Hid (SixAt wr P (.int .i64 a') (.int .i64 b') (.int .i64 c') (.int .i64 x') (.int .i64 y') (.int .i64 z')) := hs
        clear hs b2 H2
        go_wp2
        go_roundw
        case rel => exact ⟨⟨HGW.out, HX.out, HB.out, HR.out⟩, Or.inr (Or.inr ⟨by go_num, HE1.out, by trivial, HS.out⟩)⟩
        case measure => simp [intOf]
      · have hg0 : (g == 0) = false := by simpa using hg
        have HNG : Hid (g ≠ 0) := hg
        clear hg HZ
        have HS : Hid (SixAt wr P (.int .i64 a') (.int .i64 b') (.int .i64 c') (.int .i64 x) (.int .i64 y) (.int .i64 z)) := hs
        obtain ⟨p0, p1, p2, p3, p4, p5⟩ := hs.cells
        have pl := hs.lt
        clear hs
        go_upto_region 9 with fail
        go_cut [12, 13] (fun sp se wx => ∃ Q, sp = .pointer (some ⟨Q, 0, none⟩) ∧ se = .int .i64 e2 ∧ wr.heap.size ≤ Q ∧ wx.cell? ⟨Q, 0, none⟩ = some (.int .i64 x') ∧ wx.cell? ⟨Q, 1, none⟩ = some (.int .i64 y') ∧ wx.cell? ⟨Q, 2, none⟩ = some (.int .i64 z') ∧ Gr wr wx)
        case first =>
          go_region_held3 (fun w' => Gr wr w' ∧ w'.cell? ⟨P, 3, none⟩ = some (.int .i64 x) ∧ w'.cell? ⟨P, 4, none⟩ = some (.int .i64 y) ∧ w'.cell? ⟨P, 5, none⟩ = some (.int .i64 z) ∧ w'.cell? ⟨w.heap.size + 1, 2, none⟩ = some (.int .i64 n))
            ((exact hold4 (by (with_reducible repeat' (first | exact Gr.refl _ | refine Gr.set ?_ _ ?_ _ | refine Gr.alloc ?_ | refine Gr.drew ?_ | refine Gr.trans ?_ (by assumption))) <;> (first | (simp; done) | (simp; omega) | omega)) p3 p4 p5 b2))
            ((first
              | (go_at_call 88; refine (H2.out HNG.out _).mono ?_; rintro e wn ⟨rfl, hgn⟩; have hzn := hgn.size; simp at hzn; have hbz := ((BoxAt.new wr _ _ _ _ _ rfl).gr (Gr.refl _).drew).gr hgn; obtain ⟨z0, z1, z2, zf0, zf1, zf2, z6⟩ := hbz)
              | (go_at_call 88; refine (H2.out HNG.out _).mono ?_; rintro e wn ⟨rfl, hgn⟩; have hzn := hgn.size; simp at hzn)))
          all_goals (go_wp2_with fail; go_meet; exact ⟨_, rfl, rfl, by omega, by simp [go_sem, *], by simp [go_sem, *], by simp [go_sem, *], (by (with_reducible repeat' (first | exact Gr.refl _ | refine Gr.set ?_ _ ?_ _ | refine Gr.alloc ?_ | refine Gr.drew ?_ | refine Gr.trans ?_ (by assumption))) <;> (first | (simp; done) | (simp; omega) | omega))⟩)
        case rest =>
        obtain ⟨wp, rfl⟩ : ∃ x, x = wc := ⟨_, rfl⟩
        obtain ⟨Q, rfl, rfl, hQ, q0, q1, q2, hgc⟩ := hcut
        have HSP : Hid (SixAt wp P (.int .i64 a') (.int .i64 b') (.int .i64 c') (.int .i64 x) (.int .i64 y) (.int .i64 z)) := HS.out.gr hgc
        have HXP : Hid (AccAt wp w.heap.size (.string s) (.int .i64 a) (.int .i64 b) (.int .i64 c) (.int .i64 x) (.int .i64 y) (.int .i64 z)) := HX.out.gr hgc
        have HBP : Hid (BoxAt wp (w.heap.size + 1) (.int .i64 k) (.string t) (.int .i64 n)) := HB.out.gr hgc
        have HRP : Hid (AccAt wp (w.heap.size + 1 + 1) (.string ⟨#[]⟩) (.int .i64 0) (.int .i64 0) (.int .i64 0) (.int .i64 0) (.int .i64 0) (.int .i64 0)) := HR.out.gr hgc
        have HGP : Hid (Gr w wp) := HGW.out.trans hgc
        clear p0 p1 p2 p3 p4 p5 b2 hgc HS HX HB HR HGW
        by_cases he : e2 = 0
        · have hne : (e2 != 0) = false := by simpa using he
          have HE : Hid (e2 = 0) := he
          obtain ⟨p0, p1, p2, p3, p4, p5⟩ := HSP.out.cells
          obtain ⟨f0, f1, f2, f3, f4, f5⟩ := HSP.out.frozens
          clear he
          go_wp2
          go_roundw
          case rel =>
            refine ⟨⟨((HGP.out.set _ (by simp; omega) _).set _ (by simp; omega) _).set _ (by simp; omega) _, ((HXP.out.far _ _ (by simp; omega)).far _ _ (by simp; omega)).far _ _ (by simp; omega), ((HBP.out.far _ _ (by simp; omega)).far _ _ (by simp; omega)).far _ _ (by simp; omega), ((HRP.out.far _ _ (by simp; omega)).far _ _ (by simp; omega)).far _ _ (by simp; omega)⟩, Or.inr (Or.inr ⟨by go_num, HE1.out, HE.out, HSP.out.high _ _ _⟩)⟩
          case measure => simp [intOf]
        · have hne : (e2 != 0) = true := by simpa using he
          have HE : Hid (Act.both e1 e2 = e2 ∧ Act.pickS e2 s = ⟨#[]⟩ ∧ Pot.pick e2 a' = 0 ∧ Pot.pick e2 b' = 0 ∧ Pot.pick e2 c' = 0 ∧ Pot.pick e2 x' = 0 ∧ Pot.pick e2 y' = 0 ∧ Pot.pick e2 z' = 0) := by show _ ∧ _; rw [HE1.out]; unfold Act.both Act.pickS Pot.pick; simp [he]
          obtain ⟨r0, r1, r2, r3, r4, r5, r6⟩ := HRP.out.cells
          obtain ⟨f0, f1, f2, f3, f4, f5, f6⟩ := HRP.out.frozens
          clear he
          go_wp2
          exact bodyPost_ret (v := .tuple #[.agg #[.string ⟨#[]⟩, .int .i64 0, .int .i64 0, .int .i64 0, .int .i64 0, .int .i64 0, .int .i64 0], .int .i64 e2]) (by simp [results, Try.results86, go_sem, *]) rfl ⟨by rw [HE.out.1, HE.out.2.1, HE.out.2.2.1, HE.out.2.2.2.1, HE.out.2.2.2.2.1, HE.out.2.2.2.2.2.1, HE.out.2.2.2.2.2.2.1, HE.out.2.2.2.2.2.2.2], HGP.out.set7 _ (by omega) _ _ _ _ _ _ _⟩
    · subst he1
      subst he2
      obtain ⟨p0, p1, p2, p3, p4, p5⟩ := hs.cells
      have pl := hs.lt
      have x0 := HX.out.c0
      have xl := HX.out.lt
      have hgw := HGW.out
      have hroom : RoomB wr (w.heap.size + 1 + 1) := ⟨_, _, _, _, _, _, _, HR.out⟩
      have HS0 : Hid (Gr w wr.drew ∧ wr.drew.cell? ⟨P, 0, none⟩ = some (.int .i64 a') ∧ wr.drew.cell? ⟨P, 1, none⟩ = some (.int .i64 b') ∧ wr.drew.cell? ⟨P, 2, none⟩ = some (.int .i64 c') ∧ wr.drew.cell? ⟨P, 3, none⟩ = some (.int .i64 x') ∧ wr.drew.cell? ⟨P, 4, none⟩ = some (.int .i64 y') ∧ wr.drew.cell? ⟨P, 5, none⟩ = some (.int .i64 z') ∧ wr.drew.cell? ⟨w.heap.size, 0, none⟩ = some (.string s) ∧ RoomB wr.drew (w.heap.size + 1 + 1)) := holdM_gr ⟨hgw, p0, p1, p2, p3, p4, p5, x0, hroom⟩ (Gr.refl wr).drew
      clear hs b2 bl HB HR HX HGW H1 H2 HZ hroom
      go_wp2_with fail
      go_region_held3 (fun w' => Gr w w' ∧ w'.cell? ⟨P, 0, none⟩ = some (.int .i64 a') ∧ w'.cell? ⟨P, 1, none⟩ = some (.int .i64 b') ∧ w'.cell? ⟨P, 2, none⟩ = some (.int .i64 c') ∧ w'.cell? ⟨P, 3, none⟩ = some (.int .i64 x') ∧ w'.cell? ⟨P, 4, none⟩ = some (.int .i64 y') ∧ w'.cell? ⟨P, 5, none⟩ = some (.int .i64 z') ∧ w'.cell? ⟨w.heap.size, 0, none⟩ = some (.string s) ∧ RoomB w' (w.heap.size + 1 + 1))
        ((first | with_reducible exact HS0.out | with_reducible exact HSn.out | with_reducible exact holdM_set HSn.out (by omega) (by omega) (by omega) _ _ _ _ _ _ _))
        ((go_at_call 31; refine (HL.out _).mono ?_; rintro e wn ⟨rfl, hgn⟩; go_split_ands; have HSn : Hid (Gr w wn ∧ wn.cell? ⟨P, 0, none⟩ = some (.int .i64 a') ∧ wn.cell? ⟨P, 1, none⟩ = some (.int .i64 b') ∧ wn.cell? ⟨P, 2, none⟩ = some (.int .i64 c') ∧ wn.cell? ⟨P, 3, none⟩ = some (.int .i64 x') ∧ wn.cell? ⟨P, 4, none⟩ = some (.int .i64 y') ∧ wn.cell? ⟨P, 5, none⟩ = some (.int .i64 z') ∧ wn.cell? ⟨w.heap.size, 0, none⟩ = some (.string s) ∧ RoomB wn (w.heap.size + 1 + 1)) := holdM_gr ⟨by assumption, by assumption, by assumption, by assumption, by assumption, by assumption, by assumption, by assumption, by assumption⟩ hgn; have R := (RoomB.gr (by assumption) hgn : RoomB _ (w.heap.size + 1 + 1)); obtain ⟨_, _, _, _, _, _, _, R⟩ := R; obtain ⟨r0, r1, r2, r3, r4, r5, r6⟩ := R.cells; obtain ⟨f0, f1, f2, f3, f4, f5, f6⟩ := R.frozens; have rl2 := R.lt; have c0 := hgn.keep (by assumption : Eq (World.cell? _ ⟨P, 0, none⟩) (some (.int .i64 a'))); have c1 := hgn.keep (by assumption : Eq (World.cell? _ ⟨P, 1, none⟩) (some (.int .i64 b'))); have c2 := hgn.keep (by assumption : Eq (World.cell? _ ⟨P, 2, none⟩) (some (.int .i64 c'))); have c3 := hgn.keep (by assumption : Eq (World.cell? _ ⟨P, 3, none⟩) (some (.int .i64 x'))); have c4 := hgn.keep (by assumption : Eq (World.cell? _ ⟨P, 4, none⟩) (some (.int .i64 y'))); have c5 := hgn.keep (by assumption : Eq (World.cell? _ ⟨P, 5, none⟩) (some (.int .i64 z')));  have c6 := hgn.keep (by assumption : Eq (World.cell? _ ⟨w.heap.size, 0, none⟩) (some (.string s)))))
      all_goals go_wp2
      all_goals
        exact bodyPost_ret (v := .tuple #[.agg #[.string s, .int .i64 a', .int .i64 b', .int .i64 c', .int .i64 x', .int .i64 y', .int .i64 z'], .int .i64 0]) (by simp [results, Try.results86, go_sem, *]) rfl ⟨rfl, HSn.out.1.set7 _ (by omega) _ _ _ _ _ _ _⟩
end Go.Proofs.Ytgidkmipecfjhaa
namespace Go.Proofs.Ytgidkmipecfjhaa
open Go.RowKit
theorem chooseI_any (out : Bool) (x y : Int) (w : World) :
    Calls Try.prog 103 #[.bool out, .int .i64 x, .int .i64 y] w fun e w' => e = .returned (.int .i64 (Pot.sg out x y)) ∧ Gr w w' := by
  cases out
  all_goals
    go_enter Try.func103, Try.ntmps103
    go_wp2
    go_ret
    exact ⟨rfl, (by repeat (first | exact Gr.refl _ | refine Gr.alloc ?_ | refine Gr.drew ?_ | refine Gr.trans ?_ (by assumption)))⟩
theorem chooseP_any (out : Bool) (a b c x y z : Int) (w : World) :
    Calls Try.prog 104 #[.bool out, .agg #[.int .i64 a, .int .i64 b, .int .i64 c], .agg #[.int .i64 x, .int .i64 y, .int .i64 z]] w fun e w' => e = .returned (.agg #[.int .i64 (Pot.sg out a x), .int .i64 (Pot.sg out b y), .int .i64 (Pot.sg out c z)]) ∧ Gr w w' := by
  cases out
  · go_enter Try.func104, Try.ntmps104
    go_wp2
    exact bodyPost_ret (v := .agg #[.int .i64 x, .int .i64 y, .int .i64 z]) (by simp [results, Try.results104, go_sem]) rfl ⟨rfl, (by (with_reducible repeat' (first | exact Gr.refl _ | refine Gr.set ?_ _ ?_ _ | refine Gr.alloc ?_ | refine Gr.drew ?_ | refine Gr.trans ?_ (by assumption))) <;> (first | (simp; done) | (simp; omega) | omega))⟩
  · go_enter Try.func104, Try.ntmps104
    go_wp2
    exact bodyPost_ret (v := .agg #[.int .i64 a, .int .i64 b, .int .i64 c]) (by simp [results, Try.results104, go_sem]) rfl ⟨rfl, (by (with_reducible repeat' (first | exact Gr.refl _ | refine Gr.set ?_ _ ?_ _ | refine Gr.alloc ?_ | refine Gr.drew ?_ | refine Gr.trans ?_ (by assumption))) <;> (first | (simp; done) | (simp; omega) | omega))⟩
set_option maxHeartbeats 2000000 in
theorem move_any (h i o a m dh di d : Int) (w : World) (ho : o ≤ 9223372036854775807) (hh : h ≤ 9223372036854775807) (u1 : Pot.unit dh) (u2 : Pot.unit di) (u3 : Pot.unit d) :
    Calls Try.prog 102 #[.agg #[.int .i64 h, .int .i64 i, .int .i64 o], .int .i64 a, .int .i64 m, .agg #[.int .i64 dh, .int .i64 di, .int .i64 d]] w fun e w' =>
      e = .returned (.tuple #[.agg #[.int .i64 (Pot.pick (Pot.errE h i o a m) (h + dh * a)), .int .i64 (Pot.pick (Pot.errE h i o a m) (i + di * a)), .int .i64 (Pot.pick (Pot.errE h i o a m) (o + d * a))], .int .i64 (Pot.errE h i o a m)]) ∧ Gr w w' := by
  have HM : Hid (∀ w', Calls Try.prog 106 #[.agg #[.int .i64 h, .int .i64 i, .int .i64 o]] w' fun e w2 => e = .returned (.bool (Pot.mayB h i o)) ∧ Gr w' w2) := fun w' => mayBe_any h i o w' ho hh
  have HF : Hid (∀ w', Calls Try.prog 50 #[.int .i64 a] w' fun e w2 => e = .returned (.bool (decide (0 ≤ a) && decide (a ≤ 1000000000000000))) ∧ w2 = w') := fun w' => fits_any a w'
  rcases Pot.err_cases h i o a m with ⟨e1, e2, e3⟩ | ⟨e1, e2, e3⟩ | ⟨e1, e2⟩
  · rw [e1]
    obtain ⟨⟨h1, h2, h3, h4⟩, h5, h6⟩ := (Pot.arg_iff h i o a).1 e2
    rw [(Pot.may_iff h i o).2 ⟨h1, h2, h3, h4⟩] at HM
    rw [show (decide (0 ≤ a) && decide (a ≤ 1000000000000000)) = true by simp; omega] at HF
    obtain ⟨⟨r1, r2⟩, r3, r4⟩ := Pot.unit_rng h dh a u1 (by omega) (by omega) h5 h6
    obtain ⟨⟨r5, r6⟩, r7, r8⟩ := Pot.unit_rng i di a u2 (by omega) (by omega) h5 h6
    obtain ⟨⟨r9, q1⟩, q2, q3⟩ := Pot.unit_rng o d a u3 (by omega) (by omega) h5 h6
    have k1 : ¬ a < 1 := by omega
    have k2 : ¬ m < a := by omega
    rw [Pot.pick0, Pot.pick0, Pot.pick0]
    clear e1 e2 e3 u1 u2 u3
    go_enter Try.func102, Try.ntmps102
    go_wp2_with fail
    refine (HM.out _).mono ?_
    rintro e w1 ⟨rfl, hg1⟩; obtain ⟨b0, b1, b2, b3, b4, b5, b6⟩ := (BoxAt.new _ _ _ _ _ (w.heap.size + 1 + 1) (by simp)).gr hg1
    obtain ⟨hc1, hf1⟩ := hg1.cells
    go_wp2_with fail
    refine (HF.out _).mono ?_
    rintro e w2 ⟨rfl, hw2⟩; obtain rfl := hw2.symm
    go_wp2
    exact bodyPost_ret (v := .tuple #[.agg #[.int .i64 (h + dh * a), .int .i64 (i + di * a), .int .i64 (o + d * a)], .int .i64 0]) (by simp [results, Try.results102, go_sem, b0, b1, b2]) rfl ⟨rfl, (by (with_reducible repeat' (first | exact Gr.refl _ | refine Gr.set ?_ _ ?_ _ | refine Gr.alloc ?_ | refine Gr.drew ?_ | refine Gr.trans ?_ (by assumption))) <;> (first | (simp; done) | (simp; omega) | omega))⟩
  · rw [e1]
    obtain ⟨⟨h1, h2, h3, h4⟩, h5, h6⟩ := (Pot.arg_iff h i o a).1 e2
    rw [(Pot.may_iff h i o).2 ⟨h1, h2, h3, h4⟩] at HM
    rw [show (decide (0 ≤ a) && decide (a ≤ 1000000000000000)) = true by simp; omega] at HF
    have k1 : ¬ a < 1 := by omega
    rw [Pot.pick50, Pot.pick50, Pot.pick50]
    clear e1 e2 u1 u2 u3
    go_enter Try.func102, Try.ntmps102
    go_wp2_with fail
    refine (HM.out _).mono ?_
    rintro e w1 ⟨rfl, hg1⟩; obtain ⟨b0, b1, b2, b3, b4, b5, b6⟩ := (BoxAt.new _ _ _ _ _ (w.heap.size + 1 + 1) (by simp)).gr hg1
    obtain ⟨hc1, hf1⟩ := hg1.cells
    go_wp2_with fail
    refine (HF.out _).mono ?_
    rintro e w2 ⟨rfl, hw2⟩; obtain rfl := hw2.symm
    go_wp2
    exact bodyPost_ret (v := .tuple #[.agg #[.int .i64 0, .int .i64 0, .int .i64 0], .int .i64 50]) (by simp [results, Try.results102, go_sem, b0, b1, b2]) rfl ⟨rfl, (by (with_reducible repeat' (first | exact Gr.refl _ | refine Gr.set ?_ _ ?_ _ | refine Gr.alloc ?_ | refine Gr.drew ?_ | refine Gr.trans ?_ (by assumption))) <;> (first | (simp; done) | (simp; omega) | omega))⟩
  · rw [e1, Pot.pick2, Pot.pick2, Pot.pick2]
    clear u1 u2 u3
    have hn := Pot.arg_no h i o a e2
    clear e1 e2
    cases hb : Pot.mayB h i o with
    | false =>
      rw [hb] at HM
      clear hn hb HF
      go_enter Try.func102, Try.ntmps102
      go_wp2_with fail
      refine (HM.out _).mono ?_
      rintro e w1 ⟨rfl, hg1⟩; obtain ⟨b0, b1, b2, b3, b4, b5, b6⟩ := (BoxAt.new _ _ _ _ _ (w.heap.size + 1 + 1) (by simp)).gr hg1
      go_wp2
      exact bodyPost_ret (v := .tuple #[.agg #[.int .i64 0, .int .i64 0, .int .i64 0], .int .i64 2]) (by simp [results, Try.results102, go_sem, b0, b1, b2]) rfl ⟨rfl, (by (with_reducible repeat' (first | exact Gr.refl _ | refine Gr.set ?_ _ ?_ _ | refine Gr.alloc ?_ | refine Gr.drew ?_ | refine Gr.trans ?_ (by assumption))) <;> (first | (simp; done) | (simp; omega) | omega))⟩
    | true =>
      rw [hb] at HM hn
      clear hb
      have hn' : a < 1 ∨ 1000000000000000 < a := by simpa using hn
      clear hn
      by_cases k1 : a < 1
      · clear HF hn'
        go_enter Try.func102, Try.ntmps102
        go_wp2_with fail
        refine (HM.out _).mono ?_
        rintro e w1 ⟨rfl, hg1⟩; obtain ⟨b0, b1, b2, b3, b4, b5, b6⟩ := (BoxAt.new _ _ _ _ _ (w.heap.size + 1 + 1) (by simp)).gr hg1
        obtain ⟨hc1, hf1⟩ := hg1.cells
        go_wp2
        exact bodyPost_ret (v := .tuple #[.agg #[.int .i64 0, .int .i64 0, .int .i64 0], .int .i64 2]) (by simp [results, Try.results102, go_sem, b0, b1, b2]) rfl ⟨rfl, (by (with_reducible repeat' (first | exact Gr.refl _ | refine Gr.set ?_ _ ?_ _ | refine Gr.alloc ?_ | refine Gr.drew ?_ | refine Gr.trans ?_ (by assumption))) <;> (first | (simp; done) | (simp; omega) | omega))⟩
      · rw [show (decide (0 ≤ a) && decide (a ≤ 1000000000000000)) = false by simp; omega] at HF
        clear hn'
        go_enter Try.func102, Try.ntmps102
        go_wp2_with fail
        refine (HM.out _).mono ?_
        rintro e w1 ⟨rfl, hg1⟩; obtain ⟨b0, b1, b2, b3, b4, b5, b6⟩ := (BoxAt.new _ _ _ _ _ (w.heap.size + 1 + 1) (by simp)).gr hg1
        obtain ⟨hc1, hf1⟩ := hg1.cells
        go_wp2_with fail
        refine (HF.out _).mono ?_
        rintro e w2 ⟨rfl, hw2⟩; obtain rfl := hw2.symm
        go_wp2
        exact bodyPost_ret (v := .tuple #[.agg #[.int .i64 0, .int .i64 0, .int .i64 0], .int .i64 2]) (by simp [results, Try.results102, go_sem, b0, b1, b2]) rfl ⟨rfl, (by (with_reducible repeat' (first | exact Gr.refl _ | refine Gr.set ?_ _ ?_ _ | refine Gr.alloc ?_ | refine Gr.drew ?_ | refine Gr.trans ?_ (by assumption))) <;> (first | (simp; done) | (simp; omega) | omega))⟩
end Go.Proofs.Ytgidkmipecfjhaa
namespace Go.Proofs.Ytgidkmipecfjhaa
open Go.RowKit
set_option maxHeartbeats 2000000 in
theorem undo_any (h i o a : Int) (out : Bool) (w : World) (ho : o ≤ 9223372036854775807) (hh : h ≤ 9223372036854775807) :
    Calls Try.prog 87 #[.agg #[.int .i64 h, .int .i64 i, .int .i64 o], .bool out, .int .i64 a] w fun e w' =>
      e = .returned (.tuple #[.agg #[.int .i64 (Pot.pick (Pot.eUn out h i o a) (h + Pot.sg out 1 (-1) * a)), .int .i64 (Pot.pick (Pot.eUn out h i o a) (i + Pot.sg out 0 (-1) * a)), .int .i64 (Pot.pick (Pot.eUn out h i o a) (o + Pot.sg out (-1) 0 * a))], .int .i64 (Pot.eUn out h i o a)]) ∧ Gr w w' := by
  have HI : Hid (∀ w', Calls Try.prog 103 #[.bool out, .int .i64 o, .int .i64 i] w' fun e w2 => e = .returned (.int .i64 (Pot.mostUn out i o)) ∧ Gr w' w2) := fun w' => chooseI_any out o i w'
  have HP : Hid (∀ w', Calls Try.prog 104 #[.bool out, .agg #[.int .i64 1, .int .i64 0, .int .i64 (-1)], .agg #[.int .i64 (-1), .int .i64 (-1), .int .i64 0]] w' fun e w2 => e = .returned (.agg #[.int .i64 (Pot.sg out 1 (-1)), .int .i64 (Pot.sg out 0 (-1)), .int .i64 (Pot.sg out (-1) 0)]) ∧ Gr w' w2) := fun w' => chooseP_any out 1 0 (-1) (-1) (-1) 0 w'
  have HV : Hid (∀ w', Calls Try.prog 102 #[.agg #[.int .i64 h, .int .i64 i, .int .i64 o], .int .i64 a, .int .i64 (Pot.mostUn out i o), .agg #[.int .i64 (Pot.sg out 1 (-1)), .int .i64 (Pot.sg out 0 (-1)), .int .i64 (Pot.sg out (-1) 0)]] w' fun e w2 => e = .returned (.tuple #[.agg #[.int .i64 (Pot.pick (Pot.eUn out h i o a) (h + Pot.sg out 1 (-1) * a)), .int .i64 (Pot.pick (Pot.eUn out h i o a) (i + Pot.sg out 0 (-1) * a)), .int .i64 (Pot.pick (Pot.eUn out h i o a) (o + Pot.sg out (-1) 0 * a))], .int .i64 (Pot.eUn out h i o a)]) ∧ Gr w' w2) := 
    fun w' => move_any h i o a (Pot.mostUn out i o) _ _ _ w' ho hh (by cases out <;> simp [Pot.sg, Pot.unit]) (by cases out <;> simp [Pot.sg, Pot.unit]) (by cases out <;> simp [Pot.sg, Pot.unit])
  generalize Pot.mostUn out i o = m at *
  generalize Pot.pick (Pot.eUn out h i o a) (h + Pot.sg out 1 (-1) * a) = x at *
  generalize Pot.pick (Pot.eUn out h i o a) (i + Pot.sg out 0 (-1) * a) = y at *
  generalize Pot.pick (Pot.eUn out h i o a) (o + Pot.sg out (-1) 0 * a) = z at *
  generalize Pot.eUn out h i o a = er at *
  generalize Pot.sg out 1 (-1) = s1 at *
  generalize Pot.sg out 0 (-1) = s2 at *
  generalize Pot.sg out (-1) 0 = s3 at *
  clear ho hh
  go_enter Try.func87, Try.ntmps87
  go_wp2_with fail
  go_region_held3 (fun w' => Gr w w' ∧ w'.cell? ⟨w.heap.size, 0, none⟩ = some (.int .i64 h) ∧ w'.cell? ⟨w.heap.size, 1, none⟩ = some (.int .i64 i) ∧ w'.cell? ⟨w.heap.size, 2, none⟩ = some (.int .i64 o) ∧ RoomAt w' (w.heap.size + 1))
    ((go_split_ands; first | exact ⟨Gr.trans (by assumption) hgn, hgn.keep (by assumption), hgn.keep (by assumption), hgn.keep (by assumption), RoomAt.gr (by assumption) hgn⟩ | exact ⟨(by repeat (first | exact Gr.refl _ | refine Gr.alloc ?_ | refine Gr.drew ?_ | refine Gr.trans ?_ (by assumption))), (by simp), (by simp), (by simp), (RoomAt.new _ _ _ _ _ _ (by simp)).drew⟩ | exact ⟨(by (with_reducible repeat' (first | exact Gr.refl _ | refine Gr.set ?_ _ ?_ _ | refine Gr.alloc ?_ | refine Gr.drew ?_ | refine Gr.trans ?_ (by assumption))) <;> (first | (simp; done) | (simp; omega) | omega)), (by simp [go_sem, *]), (by simp [go_sem, *]), (by simp [go_sem, *]), (RoomAt.gr (by assumption) hgn).set3 _ _ _⟩))
    ((first
      | (go_at_call 103; refine (HI.out _).mono ?_; rintro e wn ⟨rfl, hgn⟩)
      | (go_at_call 104; refine (HP.out _).mono ?_; rintro e wn ⟨rfl, hgn⟩)
      | (go_at_call 102; refine (HV.out _).mono ?_; rintro e wn ⟨rfl, hgn⟩; go_split_ands; obtain ⟨_, _, _, b0, b1, b2, b3, b4, b5, b6⟩ := (RoomAt.gr (by assumption) hgn : RoomAt _ (w.heap.size + 1)); have c0 := hgn.keep (by assumption : Eq (World.cell? _ ⟨w.heap.size, 0, none⟩) (some (.int .i64 h))); have c1 := hgn.keep (by assumption : Eq (World.cell? _ ⟨w.heap.size, 1, none⟩) (some (.int .i64 i))); have c2 := hgn.keep (by assumption : Eq (World.cell? _ ⟨w.heap.size, 2, none⟩) (some (.int .i64 o))))))
  all_goals go_wp2
  all_goals
    exact bodyPost_ret (v := .tuple #[.agg #[.int .i64 x, .int .i64 y, .int .i64 z], .int .i64 er]) (by simp [results, Try.results87, go_sem, b0, b1, b2]) rfl ⟨rfl, (by (with_reducible repeat' (first | exact Gr.refl _ | refine Gr.set ?_ _ ?_ _ | refine Gr.alloc ?_ | refine Gr.drew ?_ | refine Gr.trans ?_ (by assumption))) <;> (first | (simp; done) | (simp; omega) | omega))⟩
set_option maxHeartbeats 2000000 in
theorem keep_any (h i o a : Int) (out : Bool) (w : World) (ho : o ≤ 9223372036854775807) (hh : h ≤ 9223372036854775807) :
    Calls Try.prog 88 #[.agg #[.int .i64 h, .int .i64 i, .int .i64 o], .bool out, .int .i64 a] w fun e w' =>
      e = .returned (.tuple #[.agg #[.int .i64 (Pot.pick (Pot.eUn out h i o a) (h + Pot.sg out 0 0 * a)), .int .i64 (Pot.pick (Pot.eUn out h i o a) (i + Pot.sg out 0 (-1) * a)), .int .i64 (Pot.pick (Pot.eUn out h i o a) (o + Pot.sg out (-1) 0 * a))], .int .i64 (Pot.eUn out h i o a)]) ∧ Gr w w' := by
  have HI : Hid (∀ w', Calls Try.prog 103 #[.bool out, .int .i64 o, .int .i64 i] w' fun e w2 => e = .returned (.int .i64 (Pot.mostUn out i o)) ∧ Gr w' w2) := fun w' => chooseI_any out o i w'
  have HP : Hid (∀ w', Calls Try.prog 104 #[.bool out, .agg #[.int .i64 0, .int .i64 0, .int .i64 (-1)], .agg #[.int .i64 0, .int .i64 (-1), .int .i64 0]] w' fun e w2 => e = .returned (.agg #[.int .i64 (Pot.sg out 0 0), .int .i64 (Pot.sg out 0 (-1)), .int .i64 (Pot.sg out (-1) 0)]) ∧ Gr w' w2) := fun w' => chooseP_any out 0 0 (-1) 0 (-1) 0 w'
  have HV : Hid (∀ w', Calls Try.prog 102 #[.agg #[.int .i64 h, .int .i64 i, .int .i64 o], .int .i64 a, .int .i64 (Pot.mostUn out i o), .agg #[.int .i64 (Pot.sg out 0 0), .int .i64 (Pot.sg out 0 (-1)), .int .i64 (Pot.sg out (-1) 0)]] w' fun e w2 => e = .returned (.tuple #[.agg #[.int .i64 (Pot.pick (Pot.eUn out h i o a) (h + Pot.sg out 0 0 * a)), .int .i64 (Pot.pick (Pot.eUn out h i o a) (i + Pot.sg out 0 (-1) * a)), .int .i64 (Pot.pick (Pot.eUn out h i o a) (o + Pot.sg out (-1) 0 * a))], .int .i64 (Pot.eUn out h i o a)]) ∧ Gr w' w2) := 
    fun w' => move_any h i o a (Pot.mostUn out i o) _ _ _ w' ho hh (by cases out <;> simp [Pot.sg, Pot.unit]) (by cases out <;> simp [Pot.sg, Pot.unit]) (by cases out <;> simp [Pot.sg, Pot.unit])
  generalize Pot.mostUn out i o = m at *
  generalize Pot.pick (Pot.eUn out h i o a) (h + Pot.sg out 0 0 * a) = x at *
  generalize Pot.pick (Pot.eUn out h i o a) (i + Pot.sg out 0 (-1) * a) = y at *
  generalize Pot.pick (Pot.eUn out h i o a) (o + Pot.sg out (-1) 0 * a) = z at *
  generalize Pot.eUn out h i o a = er at *
  generalize Pot.sg out 0 0 = s1 at *
  generalize Pot.sg out 0 (-1) = s2 at *
  generalize Pot.sg out (-1) 0 = s3 at *
  clear ho hh
  go_enter Try.func88, Try.ntmps88
  go_wp2_with fail
  go_region_held3 (fun w' => Gr w w' ∧ w'.cell? ⟨w.heap.size, 0, none⟩ = some (.int .i64 h) ∧ w'.cell? ⟨w.heap.size, 1, none⟩ = some (.int .i64 i) ∧ w'.cell? ⟨w.heap.size, 2, none⟩ = some (.int .i64 o) ∧ RoomAt w' (w.heap.size + 1))
    ((go_split_ands; first | exact ⟨Gr.trans (by assumption) hgn, hgn.keep (by assumption), hgn.keep (by assumption), hgn.keep (by assumption), RoomAt.gr (by assumption) hgn⟩ | exact ⟨(by repeat (first | exact Gr.refl _ | refine Gr.alloc ?_ | refine Gr.drew ?_ | refine Gr.trans ?_ (by assumption))), (by simp), (by simp), (by simp), (RoomAt.new _ _ _ _ _ _ (by simp)).drew⟩ | exact ⟨(by (with_reducible repeat' (first | exact Gr.refl _ | refine Gr.set ?_ _ ?_ _ | refine Gr.alloc ?_ | refine Gr.drew ?_ | refine Gr.trans ?_ (by assumption))) <;> (first | (simp; done) | (simp; omega) | omega)), (by simp [go_sem, *]), (by simp [go_sem, *]), (by simp [go_sem, *]), (RoomAt.gr (by assumption) hgn).set3 _ _ _⟩))
    ((first
      | (go_at_call 103; refine (HI.out _).mono ?_; rintro e wn ⟨rfl, hgn⟩)
      | (go_at_call 104; refine (HP.out _).mono ?_; rintro e wn ⟨rfl, hgn⟩)
      | (go_at_call 102; refine (HV.out _).mono ?_; rintro e wn ⟨rfl, hgn⟩; go_split_ands; obtain ⟨_, _, _, b0, b1, b2, b3, b4, b5, b6⟩ := (RoomAt.gr (by assumption) hgn : RoomAt _ (w.heap.size + 1)); have c0 := hgn.keep (by assumption : Eq (World.cell? _ ⟨w.heap.size, 0, none⟩) (some (.int .i64 h))); have c1 := hgn.keep (by assumption : Eq (World.cell? _ ⟨w.heap.size, 1, none⟩) (some (.int .i64 i))); have c2 := hgn.keep (by assumption : Eq (World.cell? _ ⟨w.heap.size, 2, none⟩) (some (.int .i64 o))))))
  all_goals go_wp2
  all_goals
    exact bodyPost_ret (v := .tuple #[.agg #[.int .i64 x, .int .i64 y, .int .i64 z], .int .i64 er]) (by simp [results, Try.results88, go_sem, b0, b1, b2]) rfl ⟨rfl, (by (with_reducible repeat' (first | exact Gr.refl _ | refine Gr.set ?_ _ ?_ _ | refine Gr.alloc ?_ | refine Gr.drew ?_ | refine Gr.trans ?_ (by assumption))) <;> (first | (simp; done) | (simp; omega) | omega))⟩
set_option maxHeartbeats 2000000 in
theorem do_any (h i o a : Int) (out : Bool) (w : World) (ho : o ≤ 9223372036854775807) (hh : h ≤ 9223372036854775807) :
    Calls Try.prog 95 #[.agg #[.int .i64 h, .int .i64 i, .int .i64 o], .bool out, .int .i64 a] w fun e w' =>
      e = .returned (.tuple #[.agg #[.int .i64 (Pot.pick (Pot.eDo out h i o a) (h + Pot.sg out (-1) 1 * a)), .int .i64 (Pot.pick (Pot.eDo out h i o a) (i + Pot.sg out 0 1 * a)), .int .i64 (Pot.pick (Pot.eDo out h i o a) (o + Pot.sg out 1 0 * a))], .int .i64 (Pot.eDo out h i o a)]) ∧ Gr w w' := by
  have HI : Hid (∀ w', Calls Try.prog 103 #[.bool out, .int .i64 (Pot.freeE h i o), .int .i64 (Pot.roomE h i o)] w' fun e w2 => e = .returned (.int .i64 (Pot.mostDo out h i o)) ∧ Gr w' w2) := fun w' => chooseI_any out (Pot.freeE h i o) (Pot.roomE h i o) w'
  have HE : Hid (∀ w', Calls Try.prog 108 #[.agg #[.int .i64 h, .int .i64 i, .int .i64 o]] w' fun e w2 => e = .returned (.int .i64 (Pot.freeE h i o)) ∧ Gr w' w2) := fun w' => free_any h i o w' ho hh
  have HR : Hid (∀ w', Calls Try.prog 109 #[.agg #[.int .i64 h, .int .i64 i, .int .i64 o]] w' fun e w2 => e = .returned (.int .i64 (Pot.roomE h i o)) ∧ Gr w' w2) := fun w' => room_any h i o w' ho hh
  have HP : Hid (∀ w', Calls Try.prog 104 #[.bool out, .agg #[.int .i64 (-1), .int .i64 0, .int .i64 1], .agg #[.int .i64 1, .int .i64 1, .int .i64 0]] w' fun e w2 => e = .returned (.agg #[.int .i64 (Pot.sg out (-1) 1), .int .i64 (Pot.sg out 0 1), .int .i64 (Pot.sg out 1 0)]) ∧ Gr w' w2) := fun w' => chooseP_any out (-1) 0 1 1 1 0 w'
  have HV : Hid (∀ w', Calls Try.prog 102 #[.agg #[.int .i64 h, .int .i64 i, .int .i64 o], .int .i64 a, .int .i64 (Pot.mostDo out h i o), .agg #[.int .i64 (Pot.sg out (-1) 1), .int .i64 (Pot.sg out 0 1), .int .i64 (Pot.sg out 1 0)]] w' fun e w2 => e = .returned (.tuple #[.agg #[.int .i64 (Pot.pick (Pot.eDo out h i o a) (h + Pot.sg out (-1) 1 * a)), .int .i64 (Pot.pick (Pot.eDo out h i o a) (i + Pot.sg out 0 1 * a)), .int .i64 (Pot.pick (Pot.eDo out h i o a) (o + Pot.sg out 1 0 * a))], .int .i64 (Pot.eDo out h i o a)]) ∧ Gr w' w2) := 
    fun w' => move_any h i o a (Pot.mostDo out h i o) _ _ _ w' ho hh (by cases out <;> simp [Pot.sg, Pot.unit]) (by cases out <;> simp [Pot.sg, Pot.unit]) (by cases out <;> simp [Pot.sg, Pot.unit])
  generalize Pot.mostDo out h i o = m at *
  generalize Pot.pick (Pot.eDo out h i o a) (h + Pot.sg out (-1) 1 * a) = x at *
  generalize Pot.pick (Pot.eDo out h i o a) (i + Pot.sg out 0 1 * a) = y at *
  generalize Pot.pick (Pot.eDo out h i o a) (o + Pot.sg out 1 0 * a) = z at *
  generalize Pot.eDo out h i o a = er at *
  generalize Pot.sg out (-1) 1 = s1 at *
  generalize Pot.sg out 0 1 = s2 at *
  generalize Pot.sg out 1 0 = s3 at *
  generalize Pot.freeE h i o = fr at *
  generalize Pot.roomE h i o = ro at *
  clear ho hh
  go_enter Try.func95, Try.ntmps95
  go_wp2_with fail
  go_region_held3 (fun w' => Gr w w' ∧ w'.cell? ⟨w.heap.size, 0, none⟩ = some (.int .i64 h) ∧ w'.cell? ⟨w.heap.size, 1, none⟩ = some (.int .i64 i) ∧ w'.cell? ⟨w.heap.size, 2, none⟩ = some (.int .i64 o) ∧ RoomAt w' (w.heap.size + 1))
    ((go_split_ands; first | exact ⟨Gr.trans (by assumption) hgn, hgn.keep (by assumption), hgn.keep (by assumption), hgn.keep (by assumption), RoomAt.gr (by assumption) hgn⟩ | exact ⟨(by repeat (first | exact Gr.refl _ | refine Gr.alloc ?_ | refine Gr.drew ?_ | refine Gr.trans ?_ (by assumption))), (by simp), (by simp), (by simp), (RoomAt.new _ _ _ _ _ _ (by simp)).drew⟩ | exact ⟨(by (with_reducible repeat' (first | exact Gr.refl _ | refine Gr.set ?_ _ ?_ _ | refine Gr.alloc ?_ | refine Gr.drew ?_ | refine Gr.trans ?_ (by assumption))) <;> (first | (simp; done) | (simp; omega) | omega)), (by simp [go_sem, *]), (by simp [go_sem, *]), (by simp [go_sem, *]), (RoomAt.gr (by assumption) hgn).set3 _ _ _⟩))
    ((first
      | (go_at_call 103; refine (HI.out _).mono ?_; rintro e wn ⟨rfl, hgn⟩)
      | (go_at_call 108; refine (HE.out _).mono ?_; rintro e wn ⟨rfl, hgn⟩)
      | (go_at_call 109; refine (HR.out _).mono ?_; rintro e wn ⟨rfl, hgn⟩)
      | (go_at_call 104; refine (HP.out _).mono ?_; rintro e wn ⟨rfl, hgn⟩)
      | (go_at_call 102; refine (HV.out _).mono ?_; rintro e wn ⟨rfl, hgn⟩; go_split_ands; obtain ⟨_, _, _, b0, b1, b2, b3, b4, b5, b6⟩ := (RoomAt.gr (by assumption) hgn : RoomAt _ (w.heap.size + 1)); have c0 := hgn.keep (by assumption : Eq (World.cell? _ ⟨w.heap.size, 0, none⟩) (some (.int .i64 h))); have c1 := hgn.keep (by assumption : Eq (World.cell? _ ⟨w.heap.size, 1, none⟩) (some (.int .i64 i))); have c2 := hgn.keep (by assumption : Eq (World.cell? _ ⟨w.heap.size, 2, none⟩) (some (.int .i64 o))))))
  all_goals go_wp2
  all_goals
    exact bodyPost_ret (v := .tuple #[.agg #[.int .i64 x, .int .i64 y, .int .i64 z], .int .i64 er]) (by simp [results, Try.results95, go_sem, b0, b1, b2]) rfl ⟨rfl, (by (with_reducible repeat' (first | exact Gr.refl _ | refine Gr.set ?_ _ ?_ _ | refine Gr.alloc ?_ | refine Gr.drew ?_ | refine Gr.trans ?_ (by assumption))) <;> (first | (simp; done) | (simp; omega) | omega))⟩
end Go.Proofs.Ytgidkmipecfjhaa
