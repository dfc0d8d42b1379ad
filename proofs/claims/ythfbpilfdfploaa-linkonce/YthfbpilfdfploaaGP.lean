/- Parts of these proofs, laid together. -/
import Derived.Test.YthfbpilfdfploaaGO
import Derived.Test.YthfbpilfdfploaaGD
namespace Go.Proofs.Ythfbpilfdfploaa
open Go.RowKit
open Lk (St)

variable {Z : Nat → Prop}
def ntH (s : Int) : Nt := ⟨2, 0, 1, [(s, 1)], ⟨#[]⟩, 0⟩
/- what held answers -/
def HdR (Z : Nat → Prop) (s : Int) (w : World) (e : Ending) (w' : World) : Prop :=
  ∃ a, e = .returned (Mn.v ⟨ntH s, a, 1⟩) ∧ MnAt Z w' ⟨ntH s, a, 1⟩ ∧ Gr w w'
set_option maxHeartbeats 2000000 in
set_option maxRecDepth 100000 in
theorem held_any (s : Int) (w : World) (hF : Frs Z w) : Calls Try.prog 31 #[.int .i64 s] w fun e w' => HdR Z s w e w' := by
  have HF := Lib.hid hF
  clear hF
  go_enter Try.func31, Try.ntmps31
  go_wp2
  refine bodyPost_ret (v := .agg #[.int .i64 2, .int .i64 0, .int .i64 1, .slice (some ⟨w.heap.size + 1, 0, none⟩) 1 1, .string ⟨#[]⟩, .int .i64 0]) (by simp [results, Try.results31, go_sem]) rfl ?_
  refine ⟨some ⟨w.heap.size + 1, 0, none⟩, rfl, ⟨?_, by simp [ntH], by simp [ntH], by simp [ntH, ByteArray.size], fun _ a e => HF.out _ (by cases e; simp)⟩, ?_⟩
  · intro j hj
    have : j = 0 := by have : j < 1 := hj; omega
    subst this
    exact ⟨w.heap.size + 1, 0, rfl, by simp, by simp [go_sem, ntH], by simp [go_sem, ntH]⟩
  · exact (by (with_reducible repeat' (first | exact Gr.refl _ | refine Gr.set ?_ _ ?_ _ | refine Gr.alloc ?_ | refine Gr.drew ?_ | refine Gr.trans ?_ (by assumption))) <;> (first | (simp; done) | (simp; omega) | omega))
theorem held2 (s : Int) (w : World) (hF : Frs Z w) : Calls Try.prog 31 #[.int .i64 s] w fun e w' => ∃ p, e = .returned (.agg #[.int .i64 2, .int .i64 0, .int .i64 1, .slice p 1 1, .string ⟨#[]⟩, .int .i64 0]) ∧ MnAt Z w' ⟨ntH s, p, 1⟩ ∧ Gr w w' := held_any s w hF

/- the states of the statements' own answers -/
def n1 : Nx := pk (ntH 1)
def zx : Nx := pk Nt.zeroN
def A0 : St Nx := Lk.new 0 1 5
def B0 : St Nx := Lk.new 1 0 7
def A1 : St Nx := Lk.sendS CX A0 0 [n1]
def A2 : St Nx := Lk.sendS CX A1 0 [zx]
def A3 : St Nx := Lk.tickS CX A2 0
def F1 : Lk.Fr Nx := ⟨0, 1, 5, 1, 0, 0, n1⟩
def B1 : St Nx := (Lk.takeR CX B0 F1 0).2.2
def B2 : St Nx := Lk.tickS CX B1 0
def F2 : Lk.Fr Nx := ⟨1, 0, 7, 0, 5, 0, zx⟩
def A4 : St Nx := (Lk.takeR CX A3 F2 1).2.2
def A5 : St Nx := Lk.tickS CX A4 1
def F3 : Lk.Fr Nx := ⟨0, 1, 5, 1, 7, 0, n1⟩
def B3 : St Nx := (Lk.takeR CX B2 F3 1).2.2
theorem aw_s1 : Lk.sendE CX A0 0 [n1] = 0 := by kernel_rfl
theorem aw_s2 : Lk.sendE CX A1 0 [zx] = 130 := by kernel_rfl
theorem aw_t1 : Lk.tickF CX A2 0 = [F1] := by kernel_rfl
theorem aw_k1 : Lk.takeR CX B0 F1 0 = (200, false, B1) := by kernel_rfl
theorem aw_t2 : Lk.tickF CX B1 0 = [F2] := by kernel_rfl
theorem aw_k2 : Lk.takeR CX A3 F2 1 = (0, false, A4) := by kernel_rfl
theorem aw_t3 : Lk.tickF CX A4 1 = [F3] := by kernel_rfl
theorem aw_k3 : Lk.takeR CX B2 F3 1 = (0, true, B3) := by kernel_rfl
theorem aw_wg : (A5.it.length : Int) = 1 := by kernel_rfl
theorem aw_ws : Ox.hasB okN A5.it n1 = true := by kernel_rfl
theorem aw_kn : B3.kn = 5 := by kernel_rfl
theorem aw_ep : A0.ep = 5 ∧ A1.ep = 5 ∧ A2.ep = 5 ∧ A3.ep = 5 ∧ A4.ep = 5 ∧ A5.ep = 5 ∧ B0.ep = 7 ∧ B1.ep = 7 ∧ B2.ep = 7 ∧ B3.ep = 7 := by
  refine ⟨?_, ?_, ?_, ?_, ?_, ?_, ?_, ?_, ?_, ?_⟩ <;> kernel_rfl
theorem aws1 {w0 w : World} {ga gb : Nat} (h : Pr2 Z w0 w ga gb A0 B0) (p : Option Addr) (hm : MnAt Z w ⟨ntH 1, p, 1⟩) (gq : Nat) (hq : gq = w.heap.size) :
    Calls Try.prog 7 #[.pointer (some ⟨ga, 0, none⟩), .int .i64 0, .slice (some ⟨gq, 0, none⟩) 1 1] (w.alloc (.cells #[.int .i64 2, .int .i64 0, .int .i64 1, .slice p 1 1, .string ⟨#[]⟩, .int .i64 0] 26)) fun e w' => e = .returned (.int .i64 0) ∧ Pr2 Z w0 w' ga gb A1 B0 := by
  refine (p_send h (by rw [aw_ep.1]; decide) ⟨ntH 1, p, 1⟩ hm 0 gq hq).mono ?_
  rintro e w' ⟨rfl, hp⟩
  exact ⟨by rw [show Lk.sendE CX A0 0 [pk (ntH 1)] = 0 from aw_s1], hp⟩
theorem aws2 {w0 w : World} {ga gb : Nat} (h : Pr2 Z w0 w ga gb A1 B0) (gq : Nat) (hq : gq = w.heap.size) :
    Calls Try.prog 7 #[.pointer (some ⟨ga, 0, none⟩), .int .i64 0, .slice (some ⟨gq, 0, none⟩) 1 1] (w.alloc (.cells #[.int .i64 0, .int .i64 0, .int .i64 0, .slice none 0 0, .string ⟨#[]⟩, .int .i64 0] 26)) fun e w' => e = .returned (.int .i64 130) ∧ Pr2 Z w0 w' ga gb A2 B0 := by
  refine (p_send h (by rw [aw_ep.2.1]; decide) ⟨Nt.zeroN, none, 0⟩ (zero_mn _) 0 gq hq).mono ?_
  rintro e w' ⟨rfl, hp⟩
  exact ⟨by rw [show Lk.sendE CX A1 0 [pk Nt.zeroN] = 130 from aw_s2], hp⟩
set_option maxHeartbeats 2000000 in
theorem awt1 {w0 w : World} {ga gb : Nat} (h : Pr2 Z w0 w ga gb A2 B0) : Calls Try.prog 12 #[.pointer (some ⟨ga, 0, none⟩), .int .i64 0] w fun e w' => (∃ b off cp ax cx, e = .returned (.slice (some ⟨b, off, none⟩) 1 cp) ∧ b < w'.heap.size ∧ w'.cell? ⟨b, off, none⟩ = some (.int .i64 0) ∧ w'.cell? ⟨b, off + 1, none⟩ = some (.int .i64 1) ∧ w'.cell? ⟨b, off + 2, none⟩ = some (.int .i64 5) ∧ w'.cell? ⟨b, off + 3, none⟩ = some (.int .i64 1) ∧ w'.cell? ⟨b, off + 4, none⟩ = some (.int .i64 0) ∧ w'.cell? ⟨b, off + 5, none⟩ = some (.int .i64 0) ∧ w'.cell? ⟨b, off + 6, none⟩ = some (.int .i64 2) ∧ w'.cell? ⟨b, off + 7, none⟩ = some (.int .i64 0) ∧ w'.cell? ⟨b, off + 8, none⟩ = some (.int .i64 1) ∧ w'.cell? ⟨b, off + 9, none⟩ = some (.slice ax 1 cx) ∧ w'.cell? ⟨b, off + 10, none⟩ = some (.string ⟨#[]⟩) ∧ w'.cell? ⟨b, off + 11, none⟩ = some (.int .i64 0) ∧ MnAt Z w' ⟨ntH 1, ax, cx⟩) ∧ Pr2 Z w0 w' ga gb A3 B0 := by
  refine (p_tick h (by rw [aw_ep.2.2.1]; decide) 0).mono ?_
  rintro e w' ⟨h1, hp, _⟩
  rw [aw_t1] at h1
  exact ⟨one_frame h1, hp⟩
set_option maxHeartbeats 2000000 in
theorem awk1 {w0 w : World} {ga gb : Nat} {ax : Option Addr} {cx : Nat} (h : Pr2 Z w0 w ga gb A3 B0) (hm : MnAt Z w ⟨ntH 1, ax, cx⟩) : Calls Try.prog 6 #[.pointer (some ⟨gb, 0, none⟩), .agg #[.int .i64 0, .int .i64 1, .int .i64 5, .int .i64 1, .int .i64 0, .int .i64 0, .int .i64 2, .int .i64 0, .int .i64 1, .slice ax 1 cx, .string ⟨#[]⟩, .int .i64 0], .int .i64 0] w fun e w' => (∃ p c, e = .returned (.tuple #[.agg #[.int .i64 0, .int .i64 0, .int .i64 0, .slice p 0 c, .string ⟨#[]⟩, .int .i64 0], .bool false, .int .i64 200])) ∧ Pr2 Z w0 w' ga gb A3 B1 := by
  refine (p_no h.swap (by rw [aw_ep.2.2.2.2.2.2.1]; decide) ⟨0, 1, 5, 1, 0, 0, ⟨ntH 1, ax, cx⟩⟩ hm 0 aw_k1).mono ?_
  rintro e w' ⟨p, c, he, hm2, hp, _⟩
  exact ⟨⟨p, c, he⟩, hp.swap⟩
set_option maxHeartbeats 2000000 in
theorem awt2 {w0 w : World} {ga gb : Nat} (h : Pr2 Z w0 w ga gb A3 B1) : Calls Try.prog 12 #[.pointer (some ⟨gb, 0, none⟩), .int .i64 0] w fun e w' => (∃ b off cp ax cx, e = .returned (.slice (some ⟨b, off, none⟩) 1 cp) ∧ b < w'.heap.size ∧ w'.cell? ⟨b, off, none⟩ = some (.int .i64 1) ∧ w'.cell? ⟨b, off + 1, none⟩ = some (.int .i64 0) ∧ w'.cell? ⟨b, off + 2, none⟩ = some (.int .i64 7) ∧ w'.cell? ⟨b, off + 3, none⟩ = some (.int .i64 0) ∧ w'.cell? ⟨b, off + 4, none⟩ = some (.int .i64 5) ∧ w'.cell? ⟨b, off + 5, none⟩ = some (.int .i64 0) ∧ w'.cell? ⟨b, off + 6, none⟩ = some (.int .i64 0) ∧ w'.cell? ⟨b, off + 7, none⟩ = some (.int .i64 0) ∧ w'.cell? ⟨b, off + 8, none⟩ = some (.int .i64 0) ∧ w'.cell? ⟨b, off + 9, none⟩ = some (.slice ax 0 cx) ∧ w'.cell? ⟨b, off + 10, none⟩ = some (.string ⟨#[]⟩) ∧ w'.cell? ⟨b, off + 11, none⟩ = some (.int .i64 0) ∧ MnAt Z w' ⟨Nt.zeroN, ax, cx⟩) ∧ Pr2 Z w0 w' ga gb A3 B2 := by
  refine (p_tick h.swap (by rw [aw_ep.2.2.2.2.2.2.2.1]; decide) 0).mono ?_
  rintro e w' ⟨h1, hp, _⟩
  rw [aw_t2] at h1
  exact ⟨one_frame h1, hp.swap⟩
set_option maxHeartbeats 2000000 in
theorem awk2 {w0 w : World} {ga gb : Nat} {ax : Option Addr} {cx : Nat} (h : Pr2 Z w0 w ga gb A3 B2) (hm : MnAt Z w ⟨Nt.zeroN, ax, cx⟩) : Calls Try.prog 6 #[.pointer (some ⟨ga, 0, none⟩), .agg #[.int .i64 1, .int .i64 0, .int .i64 7, .int .i64 0, .int .i64 5, .int .i64 0, .int .i64 0, .int .i64 0, .int .i64 0, .slice ax 0 cx, .string ⟨#[]⟩, .int .i64 0], .int .i64 1] w fun e w' => (∃ p c, e = .returned (.tuple #[.agg #[.int .i64 0, .int .i64 0, .int .i64 0, .slice p 0 c, .string ⟨#[]⟩, .int .i64 0], .bool false, .int .i64 0])) ∧ Pr2 Z w0 w' ga gb A4 B2 := by
  refine (p_no h (by rw [aw_ep.2.2.2.1]; decide) ⟨1, 0, 7, 0, 5, 0, ⟨Nt.zeroN, ax, cx⟩⟩ hm 1 aw_k2).mono ?_
  rintro e w' ⟨p, c, he, hm2, hp, _⟩
  exact ⟨⟨p, c, he⟩, hp⟩
set_option maxHeartbeats 2000000 in
theorem awt3 {w0 w : World} {ga gb : Nat} (h : Pr2 Z w0 w ga gb A4 B2) : Calls Try.prog 12 #[.pointer (some ⟨ga, 0, none⟩), .int .i64 1] w fun e w' => (∃ b off cp ax cx, e = .returned (.slice (some ⟨b, off, none⟩) 1 cp) ∧ b < w'.heap.size ∧ w'.cell? ⟨b, off, none⟩ = some (.int .i64 0) ∧ w'.cell? ⟨b, off + 1, none⟩ = some (.int .i64 1) ∧ w'.cell? ⟨b, off + 2, none⟩ = some (.int .i64 5) ∧ w'.cell? ⟨b, off + 3, none⟩ = some (.int .i64 1) ∧ w'.cell? ⟨b, off + 4, none⟩ = some (.int .i64 7) ∧ w'.cell? ⟨b, off + 5, none⟩ = some (.int .i64 0) ∧ w'.cell? ⟨b, off + 6, none⟩ = some (.int .i64 2) ∧ w'.cell? ⟨b, off + 7, none⟩ = some (.int .i64 0) ∧ w'.cell? ⟨b, off + 8, none⟩ = some (.int .i64 1) ∧ w'.cell? ⟨b, off + 9, none⟩ = some (.slice ax 1 cx) ∧ w'.cell? ⟨b, off + 10, none⟩ = some (.string ⟨#[]⟩) ∧ w'.cell? ⟨b, off + 11, none⟩ = some (.int .i64 0) ∧ MnAt Z w' ⟨ntH 1, ax, cx⟩) ∧ Pr2 Z w0 w' ga gb A5 B2 := by
  refine (p_tick h (by rw [aw_ep.2.2.2.2.1]; decide) 1).mono ?_
  rintro e w' ⟨h1, hp, _⟩
  rw [aw_t3] at h1
  exact ⟨one_frame h1, hp⟩
set_option maxHeartbeats 2000000 in
theorem awk3 {w0 w : World} {ga gb : Nat} {ax : Option Addr} {cx : Nat} (h : Pr2 Z w0 w ga gb A5 B2) (hm : MnAt Z w ⟨ntH 1, ax, cx⟩) : Calls Try.prog 6 #[.pointer (some ⟨gb, 0, none⟩), .agg #[.int .i64 0, .int .i64 1, .int .i64 5, .int .i64 1, .int .i64 7, .int .i64 0, .int .i64 2, .int .i64 0, .int .i64 1, .slice ax 1 cx, .string ⟨#[]⟩, .int .i64 0], .int .i64 1] w fun e w' => (∃ p c, e = .returned (.tuple #[.agg #[.int .i64 2, .int .i64 0, .int .i64 1, .slice p 1 c, .string ⟨#[]⟩, .int .i64 0], .bool true, .int .i64 0]) ∧ MnAt Z w' ⟨ntH 1, p, c⟩) ∧ Pr2 Z w0 w' ga gb A5 B3 := by
  refine (p_yes h.swap (by rw [aw_ep.2.2.2.2.2.2.2.2.1]; decide) ⟨0, 1, 5, 1, 7, 0, ⟨ntH 1, ax, cx⟩⟩ hm 1 aw_k3).mono ?_
  rintro e w' ⟨p, c, he, hm2, hp, _⟩
  exact ⟨⟨p, c, he, hm2⟩, hp.swap⟩
/- the statement that some answers are as the document fixes them -/
def AwR (w : World) (e : Ending) (w' : World) : Prop := e = .returned (.bool true) ∧ Gr w w'
theorem awn (me pe ep : Int) (w : World) (h : Lk.newB me pe ep = true) : Calls Try.prog 17 #[.int .i64 me, .int .i64 pe, .int .i64 ep] w fun e w' => ∃ g, e = .returned (.tuple #[.pointer (some ⟨g, 0, none⟩), .int .i64 0]) ∧ (∀ Z, ¬ Z g → PkAt Z w' g (Lk.new me pe ep)) ∧ w.heap.size ≤ g ∧ Gr w w' := by
  have := kNew_any me pe ep w
  unfold NwK at this
  rw [h] at this
  exact this
set_option maxHeartbeats 16000000 in
set_option maxRecDepth 100000 in
theorem awake_any (w : World) : Calls Try.prog 13 #[] w fun e w' => AwR w e w' := by
  have HN1 := Lib.hid (awn 0 1 5 w (by decide))
  have HN2 : Hid (∀ w', Calls Try.prog 17 #[.int .i64 1, .int .i64 0, .int .i64 7] w' fun e w2 => ∃ g, e = .returned (.tuple #[.pointer (some ⟨g, 0, none⟩), .int .i64 0]) ∧ (∀ Z, ¬ Z g → PkAt Z w2 g (Lk.new 1 0 7)) ∧ w'.heap.size ≤ g ∧ Gr w' w2) := fun w' => awn 1 0 7 w' (by decide)
  go_enter Try.func13, Try.ntmps13
  go_wp2_with fail
  refine HN1.out.mono ?_
  rintro e1 w1 ⟨ga, rfl, hA, hla, hg1⟩
  have HA := Lib.hid hA
  have HLa := Lib.hid hla
  have HG1 := Lib.hid hg1
  clear hA hla hg1 HN1
  go_wp2_with fail
  refine (HN2.out _).mono ?_
  rintro e2 w2 ⟨gb, rfl, hB, hlb, hg2⟩
  have HP2 : Hid (Pr2 (Nb ga gb) w w2 ga gb A0 B0) := pr2_new HA.out hB HLa.out hlb HG1.out hg2
  clear hB hlb hg2 HA HLa HG1 HN2
  go_wp2_with fail
  refine (held2 1 _ HP2.out.fr).mono ?_
  rintro e3 w3 ⟨p1, rfl, hm3, hg3⟩
  have HS3 := Lib.hid (aws1 (HP2.out.up hg3) p1 hm3 w3.heap.size rfl)
  clear hm3 hg3 HP2
  go_wp2_with fail
  refine HS3.out.mono ?_
  rintro e4 w4 ⟨rfl, hp4⟩
  have HP4 := Lib.hid hp4
  have HS4 := Lib.hid (aws2 hp4 w4.heap.size rfl)
  clear hp4 HS3
  go_wp2_with fail
  refine HS4.out.mono ?_
  rintro e5 w5 ⟨rfl, hp5⟩
  have HT5 := Lib.hid (awt1 hp5)
  clear hp5 HS4 HP4
  go_wp2_with fail
  refine HT5.out.mono ?_
  rintro e6 w6 ⟨⟨b, off, cp, ax, cx, rfl, xl, x0, x1, x2, x3, x4, x5, x6, x7, x8, x9, x10, x11, hm6⟩, hp6⟩
  have HK6 := Lib.hid (awk1 hp6 hm6)
  clear hp6 hm6 HT5
  go_wp2_with fail
  refine HK6.out.mono ?_
  rintro e7 w7 ⟨⟨p7, c7, rfl⟩, hp7⟩
  have HT7 : Hid (∀ w', Gr w7 w' → Calls Try.prog 12 #[.pointer (some ⟨gb, 0, none⟩), .int .i64 0] w' fun e w2 => ((∃ b off cp ax cx, e = .returned (.slice (some ⟨b, off, none⟩) 1 cp) ∧ b < w2.heap.size ∧ w2.cell? ⟨b, off, none⟩ = some (.int .i64 1) ∧ w2.cell? ⟨b, off + 1, none⟩ = some (.int .i64 0) ∧ w2.cell? ⟨b, off + 2, none⟩ = some (.int .i64 7) ∧ w2.cell? ⟨b, off + 3, none⟩ = some (.int .i64 0) ∧ w2.cell? ⟨b, off + 4, none⟩ = some (.int .i64 5) ∧ w2.cell? ⟨b, off + 5, none⟩ = some (.int .i64 0) ∧ w2.cell? ⟨b, off + 6, none⟩ = some (.int .i64 0) ∧ w2.cell? ⟨b, off + 7, none⟩ = some (.int .i64 0) ∧ w2.cell? ⟨b, off + 8, none⟩ = some (.int .i64 0) ∧ w2.cell? ⟨b, off + 9, none⟩ = some (.slice ax 0 cx) ∧ w2.cell? ⟨b, off + 10, none⟩ = some (.string ⟨#[]⟩) ∧ w2.cell? ⟨b, off + 11, none⟩ = some (.int .i64 0) ∧ MnAt (Nb ga gb) w2 ⟨Nt.zeroN, ax, cx⟩) ∧ Pr2 (Nb ga gb) w w2 ga gb A3 B2)) := fun w' k => awt2 (hp7.up k)
  clear hp7 HK6 x0 x1 x2 x3 x4 x5 x6 x7 x8 x9 x10 x11 xl
  go_wp2_with fail
  refine (HT7.out _ ?_).mono ?_
  · exact (by repeat(first|exact Gr.r _|refine Gr.a ?_|refine Gr.d ?_|refine Gr.t ?_ (by assumption)))
  rintro e8 w8 ⟨⟨b8, off8, cp8, ax8, cx8, rfl, xl, x0, x1, x2, x3, x4, x5, x6, x7, x8, x9, x10, x11, hm8⟩, hp8⟩
  have HK8 := Lib.hid (awk2 hp8 hm8)
  clear hp8 hm8 HT7
  go_wp2_with fail
  refine HK8.out.mono ?_
  rintro e9 w9 ⟨⟨p9, c9, rfl⟩, hp9⟩
  have HT9 : Hid (∀ w', Gr w9 w' → Calls Try.prog 12 #[.pointer (some ⟨ga, 0, none⟩), .int .i64 1] w' fun e w2 => ((∃ b off cp ax cx, e = .returned (.slice (some ⟨b, off, none⟩) 1 cp) ∧ b < w2.heap.size ∧ w2.cell? ⟨b, off, none⟩ = some (.int .i64 0) ∧ w2.cell? ⟨b, off + 1, none⟩ = some (.int .i64 1) ∧ w2.cell? ⟨b, off + 2, none⟩ = some (.int .i64 5) ∧ w2.cell? ⟨b, off + 3, none⟩ = some (.int .i64 1) ∧ w2.cell? ⟨b, off + 4, none⟩ = some (.int .i64 7) ∧ w2.cell? ⟨b, off + 5, none⟩ = some (.int .i64 0) ∧ w2.cell? ⟨b, off + 6, none⟩ = some (.int .i64 2) ∧ w2.cell? ⟨b, off + 7, none⟩ = some (.int .i64 0) ∧ w2.cell? ⟨b, off + 8, none⟩ = some (.int .i64 1) ∧ w2.cell? ⟨b, off + 9, none⟩ = some (.slice ax 1 cx) ∧ w2.cell? ⟨b, off + 10, none⟩ = some (.string ⟨#[]⟩) ∧ w2.cell? ⟨b, off + 11, none⟩ = some (.int .i64 0) ∧ MnAt (Nb ga gb) w2 ⟨ntH 1, ax, cx⟩) ∧ Pr2 (Nb ga gb) w w2 ga gb A5 B2)) := fun w' k => awt3 (hp9.up k)
  clear hp9 HK8 x0 x1 x2 x3 x4 x5 x6 x7 x8 x9 x10 x11 xl
  go_wp2_with fail
  refine (HT9.out _ ?_).mono ?_
  · exact (by repeat(first|exact Gr.r _|refine Gr.a ?_|refine Gr.d ?_|refine Gr.t ?_ (by assumption)))
  rintro e10 w10 ⟨⟨b10, off10, cp10, ax10, cx10, rfl, xl, x0, x1, x2, x3, x4, x5, x6, x7, x8, x9, x10, x11, hm10⟩, hp10⟩
  have HK10 := Lib.hid (awk3 hp10 hm10)
  clear hp10 hm10 HT9
  go_wp2_with fail
  refine HK10.out.mono ?_
  rintro e11 w11 ⟨⟨pn, cn, rfl, hm11⟩, hp11⟩
  have HM := Lib.hid hm11
  have HP := Lib.hid hp11
  clear hp11 hm11 HK10 x0 x1 x2 x3 x4 x5 x6 x7 x8 x9 x10 x11 xl
  have B11 := Cs.new w11 [.int .i64 2, .int .i64 0, .int .i64 1, .slice pn 1 cn, .string ⟨#[]⟩, .int .i64 0] 26 _ rfl
  have z0 := B11.at_ 0 _ rfl
  have z1 := B11.at_ 1 _ rfl
  have z2 := B11.at_ 2 _ rfl
  have z3 := B11.at_ 3 _ rfl
  have z4 := B11.at_ 4 _ rfl
  have z5 := B11.at_ 5 _ rfl
  have zf0 := B11.fz 0 (by simp)
  have zf1 := B11.fz 1 (by simp)
  have zf2 := B11.fz 2 (by simp)
  have zf3 := B11.fz 3 (by simp)
  have zf4 := B11.fz 4 (by simp)
  have zf5 := B11.fz 5 (by simp)
  have zlt := B11.lt
  clear B11 zf0 zf1 zf2 zf3 zf4 zf5
  go_wp2_with fail
  refine wp_region_held_drew (S := (fun w' => Gr w11 w' ∧ w'.cell? ⟨w11.heap.size, 0, none⟩ = some (.int .i64 2) ∧ w'.cell? ⟨w11.heap.size, 1, none⟩ = some (.int .i64 0) ∧ w'.cell? ⟨w11.heap.size, 2, none⟩ = some (.int .i64 1) ∧ w'.cell? ⟨w11.heap.size, 3, none⟩ = some (.slice pn 1 cn) ∧ w'.cell? ⟨w11.heap.size, 4, none⟩ = some (.string ⟨#[]⟩) ∧ w'.cell? ⟨w11.heap.size, 5, none⟩ = some (.int .i64 0))) (by kernel_rfl) (by exact ⟨(by repeat(first|exact Gr.r _|refine Gr.a ?_|refine Gr.d ?_|refine Gr.t ?_ (by assumption))), Gr.keep (by repeat(first|exact Gr.r _|refine Gr.a ?_|refine Gr.d ?_|refine Gr.t ?_ (by assumption))) z0, Gr.keep (by repeat(first|exact Gr.r _|refine Gr.a ?_|refine Gr.d ?_|refine Gr.t ?_ (by assumption))) z1, Gr.keep (by repeat(first|exact Gr.r _|refine Gr.a ?_|refine Gr.d ?_|refine Gr.t ?_ (by assumption))) z2, Gr.keep (by repeat(first|exact Gr.r _|refine Gr.a ?_|refine Gr.d ?_|refine Gr.t ?_ (by assumption))) z3, Gr.keep (by repeat(first|exact Gr.r _|refine Gr.a ?_|refine Gr.d ?_|refine Gr.t ?_ (by assumption))) z4, Gr.keep (by repeat(first|exact Gr.r _|refine Gr.a ?_|refine Gr.d ?_|refine Gr.t ?_ (by assumption))) z5⟩) (fun hHeld => ?_)
  refine ty 0 103 hHeld ?_
  refine ty 1 104 hHeld ?_
  refine ty 2 105 hHeld ?_
  refine ty 3 106 hHeld ?_
  refine ty 4 107 hHeld ?_
  refine ty 5 108 hHeld ?_
  refine ty 6 109 hHeld ?_
  refine wpAnyH_ready (rs := [7]) (by kernel_rfl) (by simp) (AllReadyH.cons rfl (fun K hK => ?_) AllReadyH.nil)
  go_simp
  (go_at_call 31; refine (held2 1 _ (HP.out.up hHeld.1).fr).mono ?_; rintro e wn ⟨ph, rfl, hmh, hgn⟩)
  (try go_wp2_with fail)
  refine hK.out _ _ (by exact ⟨(by repeat(first|exact Gr.r _|refine Gr.a ?_|refine Gr.d ?_|refine Gr.t ?_ (by assumption))), Gr.keep (by repeat(first|exact Gr.r _|refine Gr.a ?_|refine Gr.d ?_|refine Gr.t ?_ (by assumption))) z0, Gr.keep (by repeat(first|exact Gr.r _|refine Gr.a ?_|refine Gr.d ?_|refine Gr.t ?_ (by assumption))) z1, Gr.keep (by repeat(first|exact Gr.r _|refine Gr.a ?_|refine Gr.d ?_|refine Gr.t ?_ (by assumption))) z2, Gr.keep (by repeat(first|exact Gr.r _|refine Gr.a ?_|refine Gr.d ?_|refine Gr.t ?_ (by assumption))) z3, Gr.keep (by repeat(first|exact Gr.r _|refine Gr.a ?_|refine Gr.d ?_|refine Gr.t ?_ (by assumption))) z4, Gr.keep (by repeat(first|exact Gr.r _|refine Gr.a ?_|refine Gr.d ?_|refine Gr.t ?_ (by assumption))) z5⟩) (fun hHeldN => ?_)
  clear hHeld hK K
  have hHeld := hHeldN
  clear hHeldN
  refine wpAnyH_ready (rs := [8]) (by kernel_rfl) (by simp) (AllReadyH.cons rfl (fun K hK => ?_) AllReadyH.nil)
  go_simp
  (go_at_call 8; refine (rSameN2_any ⟨ntH 1, pn, cn⟩ ⟨ntH 1, ph, 1⟩ _ (HM.out.gr hHeld.1) hmh).mono ?_; rintro e wn2 ⟨he, hgn⟩; rw [decide_eq_true rfl] at he; subst he)
  (try go_wp2_with fail)
  refine hK.out _ _ (by exact ⟨(by repeat(first|exact Gr.r _|refine Gr.a ?_|refine Gr.d ?_|refine Gr.t ?_ (by assumption))), Gr.keep (by repeat(first|exact Gr.r _|refine Gr.a ?_|refine Gr.d ?_|refine Gr.t ?_ (by assumption))) z0, Gr.keep (by repeat(first|exact Gr.r _|refine Gr.a ?_|refine Gr.d ?_|refine Gr.t ?_ (by assumption))) z1, Gr.keep (by repeat(first|exact Gr.r _|refine Gr.a ?_|refine Gr.d ?_|refine Gr.t ?_ (by assumption))) z2, Gr.keep (by repeat(first|exact Gr.r _|refine Gr.a ?_|refine Gr.d ?_|refine Gr.t ?_ (by assumption))) z3, Gr.keep (by repeat(first|exact Gr.r _|refine Gr.a ?_|refine Gr.d ?_|refine Gr.t ?_ (by assumption))) z4, Gr.keep (by repeat(first|exact Gr.r _|refine Gr.a ?_|refine Gr.d ?_|refine Gr.t ?_ (by assumption))) z5⟩) (fun hHeldN => ?_)
  clear hHeld hK K
  have hHeld := hHeldN
  clear hHeldN
  refine ty 9 112 hHeld ?_
  refine ty 10 113 hHeld ?_
  refine ty 11 114 hHeld ?_
  refine wpAnyH_ready (rs := [12]) (by kernel_rfl) (by simp) (AllReadyH.cons rfl (fun K hK => ?_) AllReadyH.nil)
  go_simp
  (go_at_call 10; refine (kWaiting_any ga A5 _ (HP.out.up hHeld.1).a (by rw [aw_ep.2.2.2.2.2.1]; decide)).mono ?_; rintro e wn3 ⟨he, hwn⟩; obtain rfl := hwn.symm; rw [aw_wg] at he; subst he)
  (try go_wp2_with fail)
  refine hK.out _ _ (by exact ⟨(by repeat(first|exact Gr.r _|refine Gr.a ?_|refine Gr.d ?_|refine Gr.t ?_ (by assumption))), Gr.keep (by repeat(first|exact Gr.r _|refine Gr.a ?_|refine Gr.d ?_|refine Gr.t ?_ (by assumption))) z0, Gr.keep (by repeat(first|exact Gr.r _|refine Gr.a ?_|refine Gr.d ?_|refine Gr.t ?_ (by assumption))) z1, Gr.keep (by repeat(first|exact Gr.r _|refine Gr.a ?_|refine Gr.d ?_|refine Gr.t ?_ (by assumption))) z2, Gr.keep (by repeat(first|exact Gr.r _|refine Gr.a ?_|refine Gr.d ?_|refine Gr.t ?_ (by assumption))) z3, Gr.keep (by repeat(first|exact Gr.r _|refine Gr.a ?_|refine Gr.d ?_|refine Gr.t ?_ (by assumption))) z4, Gr.keep (by repeat(first|exact Gr.r _|refine Gr.a ?_|refine Gr.d ?_|refine Gr.t ?_ (by assumption))) z5⟩) (fun hHeldN => ?_)
  clear hHeld hK K
  have hHeld := hHeldN
  clear hHeldN
  refine ty 13 116 hHeld ?_
  refine ty 14 117 hHeld ?_
  refine ty 15 118 hHeld ?_
  refine ty 16 119 hHeld ?_
  refine wpAnyH_ready (rs := [17]) (by kernel_rfl) (by simp) (AllReadyH.cons rfl (fun K hK => ?_) AllReadyH.nil)
  go_simp
  (go_at_call 31; refine (held2 1 _ (HP.out.up hHeld.1).fr).mono ?_; rintro e wn4 ⟨ph2, rfl, hmh2, hgn⟩)
  (try go_wp2_with fail)
  refine hK.out _ _ (by exact ⟨(by repeat(first|exact Gr.r _|refine Gr.a ?_|refine Gr.d ?_|refine Gr.t ?_ (by assumption))), Gr.keep (by repeat(first|exact Gr.r _|refine Gr.a ?_|refine Gr.d ?_|refine Gr.t ?_ (by assumption))) z0, Gr.keep (by repeat(first|exact Gr.r _|refine Gr.a ?_|refine Gr.d ?_|refine Gr.t ?_ (by assumption))) z1, Gr.keep (by repeat(first|exact Gr.r _|refine Gr.a ?_|refine Gr.d ?_|refine Gr.t ?_ (by assumption))) z2, Gr.keep (by repeat(first|exact Gr.r _|refine Gr.a ?_|refine Gr.d ?_|refine Gr.t ?_ (by assumption))) z3, Gr.keep (by repeat(first|exact Gr.r _|refine Gr.a ?_|refine Gr.d ?_|refine Gr.t ?_ (by assumption))) z4, Gr.keep (by repeat(first|exact Gr.r _|refine Gr.a ?_|refine Gr.d ?_|refine Gr.t ?_ (by assumption))) z5⟩) (fun hHeldN => ?_)
  clear hHeld hK K
  have hHeld := hHeldN
  clear hHeldN
  refine wpAnyH_ready (rs := [18]) (by kernel_rfl) (by simp) (AllReadyH.cons rfl (fun K hK => ?_) AllReadyH.nil)
  go_simp
  (go_at_call 9; refine (kWaits_any ga A5 ⟨ntH 1, ph2, 1⟩ _ (HP.out.up hHeld.1).a (by rw [aw_ep.2.2.2.2.2.1]; decide) hmh2).mono ?_; rintro e wn5 ⟨he, hgn⟩; rw [show Ox.hasB okN A5.it (pk (ntH 1)) = true from aw_ws] at he; subst he)
  (try go_wp2_with fail)
  refine hK.out _ _ (by exact ⟨(by repeat(first|exact Gr.r _|refine Gr.a ?_|refine Gr.d ?_|refine Gr.t ?_ (by assumption))), Gr.keep (by repeat(first|exact Gr.r _|refine Gr.a ?_|refine Gr.d ?_|refine Gr.t ?_ (by assumption))) z0, Gr.keep (by repeat(first|exact Gr.r _|refine Gr.a ?_|refine Gr.d ?_|refine Gr.t ?_ (by assumption))) z1, Gr.keep (by repeat(first|exact Gr.r _|refine Gr.a ?_|refine Gr.d ?_|refine Gr.t ?_ (by assumption))) z2, Gr.keep (by repeat(first|exact Gr.r _|refine Gr.a ?_|refine Gr.d ?_|refine Gr.t ?_ (by assumption))) z3, Gr.keep (by repeat(first|exact Gr.r _|refine Gr.a ?_|refine Gr.d ?_|refine Gr.t ?_ (by assumption))) z4, Gr.keep (by repeat(first|exact Gr.r _|refine Gr.a ?_|refine Gr.d ?_|refine Gr.t ?_ (by assumption))) z5⟩) (fun hHeldN => ?_)
  clear hHeld hK K
  have hHeld := hHeldN
  clear hHeldN
  refine ty 19 122 hHeld ?_
  refine ty 20 123 hHeld ?_
  refine ty 21 124 hHeld ?_
  refine wpAnyH_ready (rs := [22]) (by kernel_rfl) (by simp) (AllReadyH.cons rfl (fun K hK => ?_) AllReadyH.nil)
  go_simp
  (go_at_call 11; refine (kPeer_any gb B3 _ (HP.out.up hHeld.1).b (by rw [aw_ep.2.2.2.2.2.2.2.2.2]; decide)).mono ?_; rintro e wn6 ⟨he, hwn⟩; obtain rfl := hwn.symm; rw [aw_kn] at he; subst he)
  (try go_wp2_with fail)
  refine hK.out _ _ (by exact ⟨(by repeat(first|exact Gr.r _|refine Gr.a ?_|refine Gr.d ?_|refine Gr.t ?_ (by assumption))), Gr.keep (by repeat(first|exact Gr.r _|refine Gr.a ?_|refine Gr.d ?_|refine Gr.t ?_ (by assumption))) z0, Gr.keep (by repeat(first|exact Gr.r _|refine Gr.a ?_|refine Gr.d ?_|refine Gr.t ?_ (by assumption))) z1, Gr.keep (by repeat(first|exact Gr.r _|refine Gr.a ?_|refine Gr.d ?_|refine Gr.t ?_ (by assumption))) z2, Gr.keep (by repeat(first|exact Gr.r _|refine Gr.a ?_|refine Gr.d ?_|refine Gr.t ?_ (by assumption))) z3, Gr.keep (by repeat(first|exact Gr.r _|refine Gr.a ?_|refine Gr.d ?_|refine Gr.t ?_ (by assumption))) z4, Gr.keep (by repeat(first|exact Gr.r _|refine Gr.a ?_|refine Gr.d ?_|refine Gr.t ?_ (by assumption))) z5⟩) (fun hHeldN => ?_)
  clear hHeld hK K
  have hHeld := hHeldN
  clear hHeldN
  refine ty 23 126 hHeld ?_
  refine ty 24 127 hHeld ?_
  refine take_yes 25 0 (v := ?_) rfl rfl (by kernel_rfl) (by kernel_rfl) (by kernel_rfl) (fun _ _ _ h => h) (by rfl) ?_ hHeld ?_
  rotate_left
  · (intro w hSw; (try dsimp only at hSw); go_simp; try with_reducible rfl)
  simp only [Act.put, List.setIfInBounds_toArray, List.set_cons_zero]
  refine wpAnyH_done (by kernel_rfl) ?_ _
  go_wp2
  go_ret
  exact ⟨rfl, HP.out.gr.trans hHeld.1⟩
end Go.Proofs.Ythfbpilfdfploaa
