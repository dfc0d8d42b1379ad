/- Parts of these proofs, laid together. -/
import Derived.Test.YthfbpilfdfploaaGreatGQ
import Derived.Test.YthfbpilfdfploaaGreatGE
import Derived.Test.YthfbpilfdfploaaGreatGC
import Derived.Test.YthfbpilfdfploaaGreatGH
import Derived.Test.YthfbpilfdfploaaGreatGK
namespace Go.Proofs.YthfbpilfdfploaaGreat
open Go.RowKit
open Lk (St)

variable {Z : Nat → Prop}
def ntH (s : Int) : Nt := ⟨2, 0, 1, [(s, 1)], ⟨#[]⟩, 0⟩
/- what held answers -/
def HdR (Z : Nat → Prop) (s : Int) (w : World) (e : Ending) (w' : World) : Prop :=
  ∃ a, e = .returned (Mn.v ⟨ntH s, a, 1⟩) ∧ MnAt Z w' ⟨ntH s, a, 1⟩ ∧ Gr w w'
set_option maxHeartbeats 2000000 in
set_option maxRecDepth 100000 in
theorem held_any (s : Int) (w : World) (hF : Frs Z w) : Calls Tryz.prog 20 #[.int .i64 s] w fun e w' => HdR Z s w e w' := by
  have HF := Lib.hid hF
  clear hF
  go_enter Tryz.func20, Tryz.ntmps20
  go_wp2
  refine bodyPost_ret (v := .agg #[.int .i64 2, .int .i64 0, .int .i64 1, .slice (some ⟨w.heap.size + 1, 0, none⟩) 1 1, .string ⟨#[]⟩, .int .i64 0]) (by simp [results, Tryz.results20, go_sem]) rfl ?_
  refine ⟨some ⟨w.heap.size + 1, 0, none⟩, rfl, ⟨?_, by simp [ntH], by simp [ntH], by simp [ntH, ByteArray.size], fun _ a e => HF.out _ (by cases e; simp)⟩, ?_⟩
  · intro j hj
    have : j = 0 := by have : j < 1 := hj; omega
    subst this
    exact ⟨w.heap.size + 1, 0, rfl, by simp, by simp [go_sem, ntH], by simp [go_sem, ntH]⟩
  · exact (by (with_reducible repeat' (first | exact Gr.refl _ | refine Gr.set ?_ _ ?_ _ | refine Gr.alloc ?_ | refine Gr.drew ?_ | refine Gr.trans ?_ (by assumption))) <;> (first | (simp; done) | (simp; omega) | omega))
theorem held2 (s : Int) (w : World) (hF : Frs Z w) : Calls Tryz.prog 20 #[.int .i64 s] w fun e w' => ∃ p, e = .returned (.agg #[.int .i64 2, .int .i64 0, .int .i64 1, .slice p 1 1, .string ⟨#[]⟩, .int .i64 0]) ∧ MnAt Z w' ⟨ntH s, p, 1⟩ ∧ Gr w w' := held_any s w hF

/- the states of the statements' own answers -/
def n1 : Nx := pk (ntH 1)
def zx : Nx := pk Nt.zeroN
def A0 : St Nx := Lk.new 0 1 5
def B0 : St Nx := Lk.new 1 0 7
def A1 : St Nx := Lk.sendS CX A0 0 [n1]
def A2 : St Nx := Lk.sendS CX A1 0 [zx]
def A3 : St Nx := Lk.tickS CX A2 0
def F1 : Lk.Fr Nx := ⟨0, 1, 5, 1, 0, 0, n1⟩
def B1 : St Nx := (Lk.takeR CX B0 F1 0).2.2
def B2 : St Nx := Lk.tickS CX B1 0
def F2 : Lk.Fr Nx := ⟨1, 0, 7, 0, 5, 0, zx⟩
def A4 : St Nx := (Lk.takeR CX A3 F2 1).2.2
def A5 : St Nx := Lk.tickS CX A4 1
def F3 : Lk.Fr Nx := ⟨0, 1, 5, 1, 7, 0, n1⟩
def B3 : St Nx := (Lk.takeR CX B2 F3 1).2.2
theorem aw_s1 : Lk.sendE CX A0 0 [n1] = 0 := by kernel_rfl
theorem aw_s2 : Lk.sendE CX A1 0 [zx] = 130 := by kernel_rfl
theorem aw_t1 : Lk.tickF CX A2 0 = [F1] := by kernel_rfl
theorem aw_k1 : Lk.takeR CX B0 F1 0 = (200, false, B1) := by kernel_rfl
theorem aw_t2 : Lk.tickF CX B1 0 = [F2] := by kernel_rfl
theorem aw_k2 : Lk.takeR CX A3 F2 1 = (0, false, A4) := by kernel_rfl
theorem aw_t3 : Lk.tickF CX A4 1 = [F3] := by kernel_rfl
theorem aw_k3 : Lk.takeR CX B2 F3 1 = (0, true, B3) := by kernel_rfl
theorem aw_wg : (A5.it.length : Int) = 1 := by kernel_rfl
theorem aw_ws : Ox.hasB okN A5.it n1 = true := by kernel_rfl
theorem aw_kn : B3.kn = 5 := by kernel_rfl
theorem aw_ep : A0.ep = 5 ∧ A1.ep = 5 ∧ A2.ep = 5 ∧ A3.ep = 5 ∧ A4.ep = 5 ∧ A5.ep = 5 ∧ B0.ep = 7 ∧ B1.ep = 7 ∧ B2.ep = 7 ∧ B3.ep = 7 := by
  refine ⟨?_, ?_, ?_, ?_, ?_, ?_, ?_, ?_, ?_, ?_⟩ <;> kernel_rfl
theorem aws1 {w0 w : World} {ga gb : Nat} (h : Pr2 Z w0 w ga gb A0 B0) (p : Option Addr) (hm : MnAt Z w ⟨ntH 1, p, 1⟩) (gq : Nat) (hq : gq = w.heap.size) :
    Calls Tryz.prog 8 #[.pointer (some ⟨ga, 0, none⟩), .int .i64 0, .slice (some ⟨gq, 0, none⟩) 1 1] (w.alloc (.cells #[.int .i64 2, .int .i64 0, .int .i64 1, .slice p 1 1, .string ⟨#[]⟩, .int .i64 0] 36)) fun e w' => e = .returned (.int .i64 0) ∧ Pr2 Z w0 w' ga gb A1 B0 := by
  refine (p_send h (by rw [aw_ep.1]; decide) ⟨ntH 1, p, 1⟩ hm 0 gq hq).mono ?_
  rintro e w' ⟨rfl, hp⟩
  exact ⟨by rw [show Lk.sendE CX A0 0 [pk (ntH 1)] = 0 from aw_s1], hp⟩
theorem aws2 {w0 w : World} {ga gb : Nat} (h : Pr2 Z w0 w ga gb A1 B0) (gq : Nat) (hq : gq = w.heap.size) :
    Calls Tryz.prog 8 #[.pointer (some ⟨ga, 0, none⟩), .int .i64 0, .slice (some ⟨gq, 0, none⟩) 1 1] (w.alloc (.cells #[.int .i64 0, .int .i64 0, .int .i64 0, .slice none 0 0, .string ⟨#[]⟩, .int .i64 0] 36)) fun e w' => e = .returned (.int .i64 130) ∧ Pr2 Z w0 w' ga gb A2 B0 := by
  refine (p_send h (by rw [aw_ep.2.1]; decide) ⟨Nt.zeroN, none, 0⟩ (zero_mn _) 0 gq hq).mono ?_
  rintro e w' ⟨rfl, hp⟩
  exact ⟨by rw [show Lk.sendE CX A1 0 [pk Nt.zeroN] = 130 from aw_s2], hp⟩
set_option maxHeartbeats 2000000 in
theorem awt1 {w0 w : World} {ga gb : Nat} (h : Pr2 Z w0 w ga gb A2 B0) : Calls Tryz.prog 14 #[.pointer (some ⟨ga, 0, none⟩), .int .i64 0] w fun e w' => (∃ b off cp ax cx, e = .returned (.slice (some ⟨b, off, none⟩) 1 cp) ∧ b < w'.heap.size ∧ w'.cell? ⟨b, off, none⟩ = some (.int .i64 0) ∧ w'.cell? ⟨b, off + 1, none⟩ = some (.int .i64 1) ∧ w'.cell? ⟨b, off + 2, none⟩ = some (.int .i64 5) ∧ w'.cell? ⟨b, off + 3, none⟩ = some (.int .i64 1) ∧ w'.cell? ⟨b, off + 4, none⟩ = some (.int .i64 0) ∧ w'.cell? ⟨b, off + 5, none⟩ = some (.int .i64 0) ∧ w'.cell? ⟨b, off + 6, none⟩ = some (.int .i64 2) ∧ w'.cell? ⟨b, off + 7, none⟩ = some (.int .i64 0) ∧ w'.cell? ⟨b, off + 8, none⟩ = some (.int .i64 1) ∧ w'.cell? ⟨b, off + 9, none⟩ = some (.slice ax 1 cx) ∧ w'.cell? ⟨b, off + 10, none⟩ = some (.string ⟨#[]⟩) ∧ w'.cell? ⟨b, off + 11, none⟩ = some (.int .i64 0) ∧ MnAt Z w' ⟨ntH 1, ax, cx⟩) ∧ Pr2 Z w0 w' ga gb A3 B0 := by
  refine (p_tick h (by rw [aw_ep.2.2.1]; decide) 0).mono ?_
  rintro e w' ⟨h1, hp, _⟩
  rw [aw_t1] at h1
  exact ⟨one_frame h1, hp⟩
set_option maxHeartbeats 2000000 in
theorem awk1 {w0 w : World} {ga gb : Nat} {ax : Option Addr} {cx : Nat} (h : Pr2 Z w0 w ga gb A3 B0) (hm : MnAt Z w ⟨ntH 1, ax, cx⟩) : Calls Tryz.prog 10 #[.pointer (some ⟨gb, 0, none⟩), .agg #[.int .i64 0, .int .i64 1, .int .i64 5, .int .i64 1, .int .i64 0, .int .i64 0, .int .i64 2, .int .i64 0, .int .i64 1, .slice ax 1 cx, .string ⟨#[]⟩, .int .i64 0], .int .i64 0] w fun e w' => (∃ p c, e = .returned (.tuple #[.agg #[.int .i64 0, .int .i64 0, .int .i64 0, .slice p 0 c, .string ⟨#[]⟩, .int .i64 0], .bool false, .int .i64 200])) ∧ Pr2 Z w0 w' ga gb A3 B1 := by
  refine (p_no h.swap (by rw [aw_ep.2.2.2.2.2.2.1]; decide) ⟨0, 1, 5, 1, 0, 0, ⟨ntH 1, ax, cx⟩⟩ hm 0 aw_k1).mono ?_
  rintro e w' ⟨p, c, he, hm2, hp, _⟩
  exact ⟨⟨p, c, he⟩, hp.swap⟩
set_option maxHeartbeats 2000000 in
theorem awt2 {w0 w : World} {ga gb : Nat} (h : Pr2 Z w0 w ga gb A3 B1) : Calls Tryz.prog 14 #[.pointer (some ⟨gb, 0, none⟩), .int .i64 0] w fun e w' => (∃ b off cp ax cx, e = .returned (.slice (some ⟨b, off, none⟩) 1 cp) ∧ b < w'.heap.size ∧ w'.cell? ⟨b, off, none⟩ = some (.int .i64 1) ∧ w'.cell? ⟨b, off + 1, none⟩ = some (.int .i64 0) ∧ w'.cell? ⟨b, off + 2, none⟩ = some (.int .i64 7) ∧ w'.cell? ⟨b, off + 3, none⟩ = some (.int .i64 0) ∧ w'.cell? ⟨b, off + 4, none⟩ = some (.int .i64 5) ∧ w'.cell? ⟨b, off + 5, none⟩ = some (.int .i64 0) ∧ w'.cell? ⟨b, off + 6, none⟩ = some (.int .i64 0) ∧ w'.cell? ⟨b, off + 7, none⟩ = some (.int .i64 0) ∧ w'.cell? ⟨b, off + 8, none⟩ = some (.int .i64 0) ∧ w'.cell? ⟨b, off + 9, none⟩ = some (.slice ax 0 cx) ∧ w'.cell? ⟨b, off + 10, none⟩ = some (.string ⟨#[]⟩) ∧ w'.cell? ⟨b, off + 11, none⟩ = some (.int .i64 0) ∧ MnAt Z w' ⟨Nt.zeroN, ax, cx⟩) ∧ Pr2 Z w0 w' ga gb A3 B2 := by
  refine (p_tick h.swap (by rw [aw_ep.2.2.2.2.2.2.2.1]; decide) 0).mono ?_
  rintro e w' ⟨h1, hp, _⟩
  rw [aw_t2] at h1
  exact ⟨one_frame h1, hp.swap⟩
set_option maxHeartbeats 2000000 in
theorem awk2 {w0 w : World} {ga gb : Nat} {ax : Option Addr} {cx : Nat} (h : Pr2 Z w0 w ga gb A3 B2) (hm : MnAt Z w ⟨Nt.zeroN, ax, cx⟩) : Calls Tryz.prog 10 #[.pointer (some ⟨ga, 0, none⟩), .agg #[.int .i64 1, .int .i64 0, .int .i64 7, .int .i64 0, .int .i64 5, .int .i64 0, .int .i64 0, .int .i64 0, .int .i64 0, .slice ax 0 cx, .string ⟨#[]⟩, .int .i64 0], .int .i64 1] w fun e w' => (∃ p c, e = .returned (.tuple #[.agg #[.int .i64 0, .int .i64 0, .int .i64 0, .slice p 0 c, .string ⟨#[]⟩, .int .i64 0], .bool false, .int .i64 0])) ∧ Pr2 Z w0 w' ga gb A4 B2 := by
  refine (p_no h (by rw [aw_ep.2.2.2.1]; decide) ⟨1, 0, 7, 0, 5, 0, ⟨Nt.zeroN, ax, cx⟩⟩ hm 1 aw_k2).mono ?_
  rintro e w' ⟨p, c, he, hm2, hp, _⟩
  exact ⟨⟨p, c, he⟩, hp⟩
set_option maxHeartbeats 2000000 in
theorem awt3 {w0 w : World} {ga gb : Nat} (h : Pr2 Z w0 w ga gb A4 B2) : Calls Tryz.prog 14 #[.pointer (some ⟨ga, 0, none⟩), .int .i64 1] w fun e w' => (∃ b off cp ax cx, e = .returned (.slice (some ⟨b, off, none⟩) 1 cp) ∧ b < w'.heap.size ∧ w'.cell? ⟨b, off, none⟩ = some (.int .i64 0) ∧ w'.cell? ⟨b, off + 1, none⟩ = some (.int .i64 1) ∧ w'.cell? ⟨b, off + 2, none⟩ = some (.int .i64 5) ∧ w'.cell? ⟨b, off + 3, none⟩ = some (.int .i64 1) ∧ w'.cell? ⟨b, off + 4, none⟩ = some (.int .i64 7) ∧ w'.cell? ⟨b, off + 5, none⟩ = some (.int .i64 0) ∧ w'.cell? ⟨b, off + 6, none⟩ = some (.int .i64 2) ∧ w'.cell? ⟨b, off + 7, none⟩ = some (.int .i64 0) ∧ w'.cell? ⟨b, off + 8, none⟩ = some (.int .i64 1) ∧ w'.cell? ⟨b, off + 9, none⟩ = some (.slice ax 1 cx) ∧ w'.cell? ⟨b, off + 10, none⟩ = some (.string ⟨#[]⟩) ∧ w'.cell? ⟨b, off + 11, none⟩ = some (.int .i64 0) ∧ MnAt Z w' ⟨ntH 1, ax, cx⟩) ∧ Pr2 Z w0 w' ga gb A5 B2 := by
  refine (p_tick h (by rw [aw_ep.2.2.2.2.1]; decide) 1).mono ?_
  rintro e w' ⟨h1, hp, _⟩
  rw [aw_t3] at h1
  exact ⟨one_frame h1, hp⟩
set_option maxHeartbeats 2000000 in
theorem awk3 {w0 w : World} {ga gb : Nat} {ax : Option Addr} {cx : Nat} (h : Pr2 Z w0 w ga gb A5 B2) (hm : MnAt Z w ⟨ntH 1, ax, cx⟩) : Calls Tryz.prog 10 #[.pointer (some ⟨gb, 0, none⟩), .agg #[.int .i64 0, .int .i64 1, .int .i64 5, .int .i64 1, .int .i64 7, .int .i64 0, .int .i64 2, .int .i64 0, .int .i64 1, .slice ax 1 cx, .string ⟨#[]⟩, .int .i64 0], .int .i64 1] w fun e w' => (∃ p c, e = .returned (.tuple #[.agg #[.int .i64 2, .int .i64 0, .int .i64 1, .slice p 1 c, .string ⟨#[]⟩, .int .i64 0], .bool true, .int .i64 0]) ∧ MnAt Z w' ⟨ntH 1, p, c⟩) ∧ Pr2 Z w0 w' ga gb A5 B3 := by
  refine (p_yes h.swap (by rw [aw_ep.2.2.2.2.2.2.2.2.1]; decide) ⟨0, 1, 5, 1, 7, 0, ⟨ntH 1, ax, cx⟩⟩ hm 1 aw_k3).mono ?_
  rintro e w' ⟨p, c, he, hm2, hp, _⟩
  exact ⟨⟨p, c, he, hm2⟩, hp.swap⟩
/- the statement that some answers are as the document fixes them -/
def AwR (w : World) (e : Ending) (w' : World) : Prop := e = .returned (.bool true) ∧ Gr w w'
theorem awn (me pe ep : Int) (w : World) (h : Lk.newB me pe ep = true) : Calls Tryz.prog 6 #[.int .i64 me, .int .i64 pe, .int .i64 ep] w fun e w' => ∃ g, e = .returned (.tuple #[.pointer (some ⟨g, 0, none⟩), .int .i64 0]) ∧ (∀ Z, ¬ Z g → PkAt Z w' g (Lk.new me pe ep)) ∧ w.heap.size ≤ g ∧ Gr w w' := by
  have := kNew_any me pe ep w
  unfold NwK at this
  rw [h] at this
  exact this
set_option maxHeartbeats 16000000 in
set_option maxRecDepth 100000 in
theorem awake_any (w : World) : Calls Tryz.prog 5 #[] w fun e w' => AwR w e w' := by
  have HN1 := Lib.hid (awn 0 1 5 w (by decide))
  have HN2 : Hid (∀ w', Calls Tryz.prog 6 #[.int .i64 1, .int .i64 0, .int .i64 7] w' fun e w2 => ∃ g, e = .returned (.tuple #[.pointer (some ⟨g, 0, none⟩), .int .i64 0]) ∧ (∀ Z, ¬ Z g → PkAt Z w2 g (Lk.new 1 0 7)) ∧ w'.heap.size ≤ g ∧ Gr w' w2) := fun w' => awn 1 0 7 w' (by decide)
  go_enter Tryz.func5, Tryz.ntmps5
  go_wp2_with fail
  refine HN1.out.mono ?_
  rintro e1 w1 ⟨ga, rfl, hA, hla, hg1⟩
  have HA := Lib.hid hA
  have HLa := Lib.hid hla
  have HG1 := Lib.hid hg1
  clear hA hla hg1 HN1
  go_wp2_with fail
  refine (HN2.out _).mono ?_
  rintro e2 w2 ⟨gb, rfl, hB, hlb, hg2⟩
  have HP2 : Hid (Pr2 (Nb ga gb) w w2 ga gb A0 B0) := pr2_new HA.out hB HLa.out hlb HG1.out hg2
  clear hB hlb hg2 HA HLa HG1 HN2
  go_wp2_with fail
  refine (held2 1 _ HP2.out.fr).mono ?_
  rintro e3 w3 ⟨p1, rfl, hm3, hg3⟩
  have HS3 := Lib.hid (aws1 (HP2.out.up hg3) p1 hm3 w3.heap.size rfl)
  clear hm3 hg3 HP2
  go_wp2_with fail
  refine HS3.out.mono ?_
  rintro e4 w4 ⟨rfl, hp4⟩
  have HP4 := Lib.hid hp4
  have HS4 := Lib.hid (aws2 hp4 w4.heap.size rfl)
  clear hp4 HS3
  go_wp2_with fail
  refine HS4.out.mono ?_
  rintro e5 w5 ⟨rfl, hp5⟩
  have HT5 := Lib.hid (awt1 hp5)
  clear hp5 HS4 HP4
  go_wp2_with fail
  refine HT5.out.mono ?_
  rintro e6 w6 ⟨⟨b, off, cp, ax, cx, rfl, xl, x0, x1, x2, x3, x4, x5, x6, x7, x8, x9, x10, x11, hm6⟩, hp6⟩
  have HK6 := Lib.hid (awk1 hp6 hm6)
  clear hp6 hm6 HT5
  go_wp2_with fail
  refine HK6.out.mono ?_
  rintro e7 w7 ⟨⟨p7, c7, rfl⟩, hp7⟩
  have HT7 : Hid (∀ w', Gr w7 w' → Calls Tryz.prog 14 #[.pointer (some ⟨gb, 0, none⟩), .int .i64 0] w' fun e w2 => ((∃ b off cp ax cx, e = .returned (.slice (some ⟨b, off, none⟩) 1 cp) ∧ b < w2.heap.size ∧ w2.cell? ⟨b, off, none⟩ = some (.int .i64 1) ∧ w2.cell? ⟨b, off + 1, none⟩ = some (.int .i64 0) ∧ w2.cell? ⟨b, off + 2, none⟩ = some (.int .i64 7) ∧ w2.cell? ⟨b, off + 3, none⟩ = some (.int .i64 0) ∧ w2.cell? ⟨b, off + 4, none⟩ = some (.int .i64 5) ∧ w2.cell? ⟨b, off + 5, none⟩ = some (.int .i64 0) ∧ w2.cell? ⟨b, off + 6, none⟩ = some (.int .i64 0) ∧ w2.cell? ⟨b, off + 7, none⟩ = some (.int .i64 0) ∧ w2.cell? ⟨b, off + 8, none⟩ = some (.int .i64 0) ∧ w2.cell? ⟨b, off + 9, none⟩ = some (.slice ax 0 cx) ∧ w2.cell? ⟨b, off + 10, none⟩ = some (.string ⟨#[]⟩) ∧ w2.cell? ⟨b, off + 11, none⟩ = some (.int .i64 0) ∧ MnAt (Nb ga gb) w2 ⟨Nt.zeroN, ax, cx⟩) ∧ Pr2 (Nb ga gb) w w2 ga gb A3 B2)) := fun w' k => awt2 (hp7.up k)
  clear hp7 HK6 x0 x1 x2 x3 x4 x5 x6 x7 x8 x9 x10 x11 xl
  go_wp2_with fail
  refine (HT7.out _ ?_).mono ?_
  · exact (by repeat(first|exact Gr.r _|refine Gr.a ?_|refine Gr.d ?_|refine Gr.t ?_ (by assumption)))
  rintro e8 w8 ⟨⟨b8, off8, cp8, ax8, cx8, rfl, xl, x0, x1, x2, x3, x4, x5, x6, x7, x8, x9, x10, x11, hm8⟩, hp8⟩
  have HK8 := Lib.hid (awk2 hp8 hm8)
  clear hp8 hm8 HT7
  go_wp2_with fail
  refine HK8.out.mono ?_
  rintro e9 w9 ⟨⟨p9, c9, rfl⟩, hp9⟩
  have HT9 : Hid (∀ w', Gr w9 w' → Calls Tryz.prog 14 #[.pointer (some ⟨ga, 0, none⟩), .int .i64 1] w' fun e w2 => ((∃ b off cp ax cx, e = .returned (.slice (some ⟨b, off, none⟩) 1 cp) ∧ b < w2.heap.size ∧ w2.cell? ⟨b, off, none⟩ = some (.int .i64 0) ∧ w2.cell? ⟨b, off + 1, none⟩ = some (.int .i64 1) ∧ w2.cell? ⟨b, off + 2, none⟩ = some (.int .i64 5) ∧ w2.cell? ⟨b, off + 3, none⟩ = some (.int .i64 1) ∧ w2.cell? ⟨b, off + 4, none⟩ = some (.int .i64 7) ∧ w2.cell? ⟨b, off + 5, none⟩ = some (.int .i64 0) ∧ w2.cell? ⟨b, off + 6, none⟩ = some (.int .i64 2) ∧ w2.cell? ⟨b, off + 7, none⟩ = some (.int .i64 0) ∧ w2.cell? ⟨b, off + 8, none⟩ = some (.int .i64 1) ∧ w2.cell? ⟨b, off + 9, none⟩ = some (.slice ax 1 cx) ∧ w2.cell? ⟨b, off + 10, none⟩ = some (.string ⟨#[]⟩) ∧ w2.cell? ⟨b, off + 11, none⟩ = some (.int .i64 0) ∧ MnAt (Nb ga gb) w2 ⟨ntH 1, ax, cx⟩) ∧ Pr2 (Nb ga gb) w w2 ga gb A5 B2)) := fun w' k => awt3 (hp9.up k)
  clear hp9 HK8 x0 x1 x2 x3 x4 x5 x6 x7 x8 x9 x10 x11 xl
  go_wp2_with fail
  refine (HT9.out _ ?_).mono ?_
  · exact (by repeat(first|exact Gr.r _|refine Gr.a ?_|refine Gr.d ?_|refine Gr.t ?_ (by assumption)))
  rintro e10 w10 ⟨⟨b10, off10, cp10, ax10, cx10, rfl, xl, x0, x1, x2, x3, x4, x5, x6, x7, x8, x9, x10, x11, hm10⟩, hp10⟩
  have HK10 := Lib.hid (awk3 hp10 hm10)
  clear hp10 hm10 HT9
  go_wp2_with fail
  refine HK10.out.mono ?_
  rintro e11 w11 ⟨⟨pn, cn, rfl, hm11⟩, hp11⟩
  have HM := Lib.hid hm11
  have HP := Lib.hid hp11
  clear hp11 hm11 HK10 x0 x1 x2 x3 x4 x5 x6 x7 x8 x9 x10 x11 xl
  have B11 := Cs.new w11 [.int .i64 2, .int .i64 0, .int .i64 1, .slice pn 1 cn, .string ⟨#[]⟩, .int .i64 0] 36 _ rfl
  have z0 := B11.at_ 0 _ rfl
  have z1 := B11.at_ 1 _ rfl
  have z2 := B11.at_ 2 _ rfl
  have z3 := B11.at_ 3 _ rfl
  have z4 := B11.at_ 4 _ rfl
  have z5 := B11.at_ 5 _ rfl
  have zf0 := B11.fz 0 (by simp)
  have zf1 := B11.fz 1 (by simp)
  have zf2 := B11.fz 2 (by simp)
  have zf3 := B11.fz 3 (by simp)
  have zf4 := B11.fz 4 (by simp)
  have zf5 := B11.fz 5 (by simp)
  have zlt := B11.lt
  clear B11 zf0 zf1 zf2 zf3 zf4 zf5
  go_wp2_with fail
  refine wp_region_held_drew (S := (fun w' => Gr w11 w' ∧ w'.cell? ⟨w11.heap.size, 0, none⟩ = some (.int .i64 2) ∧ w'.cell? ⟨w11.heap.size, 1, none⟩ = some (.int .i64 0) ∧ w'.cell? ⟨w11.heap.size, 2, none⟩ = some (.int .i64 1) ∧ w'.cell? ⟨w11.heap.size, 3, none⟩ = some (.slice pn 1 cn) ∧ w'.cell? ⟨w11.heap.size, 4, none⟩ = some (.string ⟨#[]⟩) ∧ w'.cell? ⟨w11.heap.size, 5, none⟩ = some (.int .i64 0))) (by kernel_rfl) (by exact ⟨(by repeat(first|exact Gr.r _|refine Gr.a ?_|refine Gr.d ?_|refine Gr.t ?_ (by assumption))), Gr.keep (by repeat(first|exact Gr.r _|refine Gr.a ?_|refine Gr.d ?_|refine Gr.t ?_ (by assumption))) z0, Gr.keep (by repeat(first|exact Gr.r _|refine Gr.a ?_|refine Gr.d ?_|refine Gr.t ?_ (by assumption))) z1, Gr.keep (by repeat(first|exact Gr.r _|refine Gr.a ?_|refine Gr.d ?_|refine Gr.t ?_ (by assumption))) z2, Gr.keep (by repeat(first|exact Gr.r _|refine Gr.a ?_|refine Gr.d ?_|refine Gr.t ?_ (by assumption))) z3, Gr.keep (by repeat(first|exact Gr.r _|refine Gr.a ?_|refine Gr.d ?_|refine Gr.t ?_ (by assumption))) z4, Gr.keep (by repeat(first|exact Gr.r _|refine Gr.a ?_|refine Gr.d ?_|refine Gr.t ?_ (by assumption))) z5⟩) (fun hHeld => ?_)
  refine ty 0 103 hHeld ?_
  refine ty 1 104 hHeld ?_
  refine ty 2 105 hHeld ?_
  refine ty 3 106 hHeld ?_
  refine ty 4 107 hHeld ?_
  refine ty 5 108 hHeld ?_
  refine ty 6 109 hHeld ?_
  refine wpAnyH_ready (rs := [7]) (by kernel_rfl) (by simp) (AllReadyH.cons rfl (fun K hK => ?_) AllReadyH.nil)
  go_simp
  (go_at_call 20; refine (held2 1 _ (HP.out.up hHeld.1).fr).mono ?_; rintro e wn ⟨ph, rfl, hmh, hgn⟩)
  (try go_wp2_with fail)
  refine hK.out _ _ (by exact ⟨(by repeat(first|exact Gr.r _|refine Gr.a ?_|refine Gr.d ?_|refine Gr.t ?_ (by assumption))), Gr.keep (by repeat(first|exact Gr.r _|refine Gr.a ?_|refine Gr.d ?_|refine Gr.t ?_ (by assumption))) z0, Gr.keep (by repeat(first|exact Gr.r _|refine Gr.a ?_|refine Gr.d ?_|refine Gr.t ?_ (by assumption))) z1, Gr.keep (by repeat(first|exact Gr.r _|refine Gr.a ?_|refine Gr.d ?_|refine Gr.t ?_ (by assumption))) z2, Gr.keep (by repeat(first|exact Gr.r _|refine Gr.a ?_|refine Gr.d ?_|refine Gr.t ?_ (by assumption))) z3, Gr.keep (by repeat(first|exact Gr.r _|refine Gr.a ?_|refine Gr.d ?_|refine Gr.t ?_ (by assumption))) z4, Gr.keep (by repeat(first|exact Gr.r _|refine Gr.a ?_|refine Gr.d ?_|refine Gr.t ?_ (by assumption))) z5⟩) (fun hHeldN => ?_)
  clear hHeld hK K
  have hHeld := hHeldN
  clear hHeldN
  refine wpAnyH_ready (rs := [8]) (by kernel_rfl) (by simp) (AllReadyH.cons rfl (fun K hK => ?_) AllReadyH.nil)
  go_simp
  (go_at_call 12; refine (rSameN2_any ⟨ntH 1, pn, cn⟩ ⟨ntH 1, ph, 1⟩ _ (HM.out.gr hHeld.1) hmh).mono ?_; rintro e wn2 ⟨he, hgn⟩; rw [decide_eq_true rfl] at he; subst he)
  (try go_wp2_with fail)
  refine hK.out _ _ (by exact ⟨(by repeat(first|exact Gr.r _|refine Gr.a ?_|refine Gr.d ?_|refine Gr.t ?_ (by assumption))), Gr.keep (by repeat(first|exact Gr.r _|refine Gr.a ?_|refine Gr.d ?_|refine Gr.t ?_ (by assumption))) z0, Gr.keep (by repeat(first|exact Gr.r _|refine Gr.a ?_|refine Gr.d ?_|refine Gr.t ?_ (by assumption))) z1, Gr.keep (by repeat(first|exact Gr.r _|refine Gr.a ?_|refine Gr.d ?_|refine Gr.t ?_ (by assumption))) z2, Gr.keep (by repeat(first|exact Gr.r _|refine Gr.a ?_|refine Gr.d ?_|refine Gr.t ?_ (by assumption))) z3, Gr.keep (by repeat(first|exact Gr.r _|refine Gr.a ?_|refine Gr.d ?_|refine Gr.t ?_ (by assumption))) z4, Gr.keep (by repeat(first|exact Gr.r _|refine Gr.a ?_|refine Gr.d ?_|refine Gr.t ?_ (by assumption))) z5⟩) (fun hHeldN => ?_)
  clear hHeld hK K
  have hHeld := hHeldN
  clear hHeldN
  refine ty 9 112 hHeld ?_
  refine ty 10 113 hHeld ?_
  refine ty 11 114 hHeld ?_
  refine wpAnyH_ready (rs := [12]) (by kernel_rfl) (by simp) (AllReadyH.cons rfl (fun K hK => ?_) AllReadyH.nil)
  go_simp
  (go_at_call 16; refine (kWaiting_any ga A5 _ (HP.out.up hHeld.1).a (by rw [aw_ep.2.2.2.2.2.1]; decide)).mono ?_; rintro e wn3 ⟨he, hwn⟩; obtain rfl := hwn.symm; rw [aw_wg] at he; subst he)
  (try go_wp2_with fail)
  refine hK.out _ _ (by exact ⟨(by repeat(first|exact Gr.r _|refine Gr.a ?_|refine Gr.d ?_|refine Gr.t ?_ (by assumption))), Gr.keep (by repeat(first|exact Gr.r _|refine Gr.a ?_|refine Gr.d ?_|refine Gr.t ?_ (by assumption))) z0, Gr.keep (by repeat(first|exact Gr.r _|refine Gr.a ?_|refine Gr.d ?_|refine Gr.t ?_ (by assumption))) z1, Gr.keep (by repeat(first|exact Gr.r _|refine Gr.a ?_|refine Gr.d ?_|refine Gr.t ?_ (by assumption))) z2, Gr.keep (by repeat(first|exact Gr.r _|refine Gr.a ?_|refine Gr.d ?_|refine Gr.t ?_ (by assumption))) z3, Gr.keep (by repeat(first|exact Gr.r _|refine Gr.a ?_|refine Gr.d ?_|refine Gr.t ?_ (by assumption))) z4, Gr.keep (by repeat(first|exact Gr.r _|refine Gr.a ?_|refine Gr.d ?_|refine Gr.t ?_ (by assumption))) z5⟩) (fun hHeldN => ?_)
  clear hHeld hK K
  have hHeld := hHeldN
  clear hHeldN
  refine ty 13 116 hHeld ?_
  refine ty 14 117 hHeld ?_
  refine ty 15 118 hHeld ?_
  refine ty 16 119 hHeld ?_
  refine wpAnyH_ready (rs := [17]) (by kernel_rfl) (by simp) (AllReadyH.cons rfl (fun K hK => ?_) AllReadyH.nil)
  go_simp
  (go_at_call 20; refine (held2 1 _ (HP.out.up hHeld.1).fr).mono ?_; rintro e wn4 ⟨ph2, rfl, hmh2, hgn⟩)
  (try go_wp2_with fail)
  refine hK.out _ _ (by exact ⟨(by repeat(first|exact Gr.r _|refine Gr.a ?_|refine Gr.d ?_|refine Gr.t ?_ (by assumption))), Gr.keep (by repeat(first|exact Gr.r _|refine Gr.a ?_|refine Gr.d ?_|refine Gr.t ?_ (by assumption))) z0, Gr.keep (by repeat(first|exact Gr.r _|refine Gr.a ?_|refine Gr.d ?_|refine Gr.t ?_ (by assumption))) z1, Gr.keep (by repeat(first|exact Gr.r _|refine Gr.a ?_|refine Gr.d ?_|refine Gr.t ?_ (by assumption))) z2, Gr.keep (by repeat(first|exact Gr.r _|refine Gr.a ?_|refine Gr.d ?_|refine Gr.t ?_ (by assumption))) z3, Gr.keep (by repeat(first|exact Gr.r _|refine Gr.a ?_|refine Gr.d ?_|refine Gr.t ?_ (by assumption))) z4, Gr.keep (by repeat(first|exact Gr.r _|refine Gr.a ?_|refine Gr.d ?_|refine Gr.t ?_ (by assumption))) z5⟩) (fun hHeldN => ?_)
  clear hHeld hK K
  have hHeld := hHeldN
  clear hHeldN
  refine wpAnyH_ready (rs := [18]) (by kernel_rfl) (by simp) (AllReadyH.cons rfl (fun K hK => ?_) AllReadyH.nil)
  go_simp
  (go_at_call 17; refine (kWaits_any ga A5 ⟨ntH 1, ph2, 1⟩ _ (HP.out.up hHeld.1).a (by rw [aw_ep.2.2.2.2.2.1]; decide) hmh2).mono ?_; rintro e wn5 ⟨he, hgn⟩; rw [show Ox.hasB okN A5.it (pk (ntH 1)) = true from aw_ws] at he; subst he)
  (try go_wp2_with fail)
  refine hK.out _ _ (by exact ⟨(by repeat(first|exact Gr.r _|refine Gr.a ?_|refine Gr.d ?_|refine Gr.t ?_ (by assumption))), Gr.keep (by repeat(first|exact Gr.r _|refine Gr.a ?_|refine Gr.d ?_|refine Gr.t ?_ (by assumption))) z0, Gr.keep (by repeat(first|exact Gr.r _|refine Gr.a ?_|refine Gr.d ?_|refine Gr.t ?_ (by assumption))) z1, Gr.keep (by repeat(first|exact Gr.r _|refine Gr.a ?_|refine Gr.d ?_|refine Gr.t ?_ (by assumption))) z2, Gr.keep (by repeat(first|exact Gr.r _|refine Gr.a ?_|refine Gr.d ?_|refine Gr.t ?_ (by assumption))) z3, Gr.keep (by repeat(first|exact Gr.r _|refine Gr.a ?_|refine Gr.d ?_|refine Gr.t ?_ (by assumption))) z4, Gr.keep (by repeat(first|exact Gr.r _|refine Gr.a ?_|refine Gr.d ?_|refine Gr.t ?_ (by assumption))) z5⟩) (fun hHeldN => ?_)
  clear hHeld hK K
  have hHeld := hHeldN
  clear hHeldN
  refine ty 19 122 hHeld ?_
  refine ty 20 123 hHeld ?_
  refine ty 21 124 hHeld ?_
  refine wpAnyH_ready (rs := [22]) (by kernel_rfl) (by simp) (AllReadyH.cons rfl (fun K hK => ?_) AllReadyH.nil)
  go_simp
  (go_at_call 19; refine (kPeer_any gb B3 _ (HP.out.up hHeld.1).b (by rw [aw_ep.2.2.2.2.2.2.2.2.2]; decide)).mono ?_; rintro e wn6 ⟨he, hwn⟩; obtain rfl := hwn.symm; rw [aw_kn] at he; subst he)
  (try go_wp2_with fail)
  refine hK.out _ _ (by exact ⟨(by repeat(first|exact Gr.r _|refine Gr.a ?_|refine Gr.d ?_|refine Gr.t ?_ (by assumption))), Gr.keep (by repeat(first|exact Gr.r _|refine Gr.a ?_|refine Gr.d ?_|refine Gr.t ?_ (by assumption))) z0, Gr.keep (by repeat(first|exact Gr.r _|refine Gr.a ?_|refine Gr.d ?_|refine Gr.t ?_ (by assumption))) z1, Gr.keep (by repeat(first|exact Gr.r _|refine Gr.a ?_|refine Gr.d ?_|refine Gr.t ?_ (by assumption))) z2, Gr.keep (by repeat(first|exact Gr.r _|refine Gr.a ?_|refine Gr.d ?_|refine Gr.t ?_ (by assumption))) z3, Gr.keep (by repeat(first|exact Gr.r _|refine Gr.a ?_|refine Gr.d ?_|refine Gr.t ?_ (by assumption))) z4, Gr.keep (by repeat(first|exact Gr.r _|refine Gr.a ?_|refine Gr.d ?_|refine Gr.t ?_ (by assumption))) z5⟩) (fun hHeldN => ?_)
  clear hHeld hK K
  have hHeld := hHeldN
  clear hHeldN
  refine ty 23 126 hHeld ?_
  refine ty 24 127 hHeld ?_
  refine take_yes 25 0 (v := ?_) rfl rfl (by kernel_rfl) (by kernel_rfl) (by kernel_rfl) (fun _ _ _ h => h) (by rfl) ?_ hHeld ?_
  rotate_left
  · (intro w hSw; (try dsimp only at hSw); go_simp; try with_reducible rfl)
  simp only [Act.put, List.setIfInBounds_toArray, List.set_cons_zero]
  refine wpAnyH_done (by kernel_rfl) ?_ _
  go_wp2
  go_ret
  exact ⟨rfl, HP.out.gr.trans hHeld.1⟩
end Go.Proofs.YthfbpilfdfploaaGreat
namespace Go.Proofs.YthfbpilfdfploaaGreat
open Go.RowKit

variable {Z : Nat → Prop}
theorem hold25 {a b : World} (g : Gr a b) {v0 v1 v2 v3 v4 v5 v6 v7 v8 v9 v10 v11 v12 v13 v14 v15 v16 v17 v18 v19 v20 v21 v22 v23 : Value} {p0 p1 p2 p3 p4 p5 p6 p7 p8 p9 p10 p11 p12 p13 p14 p15 p16 p17 p18 p19 p20 p21 p22 p23 : Addr} (h0 : a.cell? p0 = some v0) (h1 : a.cell? p1 = some v1) (h2 : a.cell? p2 = some v2) (h3 : a.cell? p3 = some v3) (h4 : a.cell? p4 = some v4) (h5 : a.cell? p5 = some v5) (h6 : a.cell? p6 = some v6) (h7 : a.cell? p7 = some v7) (h8 : a.cell? p8 = some v8) (h9 : a.cell? p9 = some v9) (h10 : a.cell? p10 = some v10) (h11 : a.cell? p11 = some v11) (h12 : a.cell? p12 = some v12) (h13 : a.cell? p13 = some v13) (h14 : a.cell? p14 = some v14) (h15 : a.cell? p15 = some v15) (h16 : a.cell? p16 = some v16) (h17 : a.cell? p17 = some v17) (h18 : a.cell? p18 = some v18) (h19 : a.cell? p19 = some v19) (h20 : a.cell? p20 = some v20) (h21 : a.cell? p21 = some v21) (h22 : a.cell? p22 = some v22) (h23 : a.cell? p23 = some v23) :
    Gr a b ∧ b.cell? p0 = some v0 ∧ b.cell? p1 = some v1 ∧ b.cell? p2 = some v2 ∧ b.cell? p3 = some v3 ∧ b.cell? p4 = some v4 ∧ b.cell? p5 = some v5 ∧ b.cell? p6 = some v6 ∧ b.cell? p7 = some v7 ∧ b.cell? p8 = some v8 ∧ b.cell? p9 = some v9 ∧ b.cell? p10 = some v10 ∧ b.cell? p11 = some v11 ∧ b.cell? p12 = some v12 ∧ b.cell? p13 = some v13 ∧ b.cell? p14 = some v14 ∧ b.cell? p15 = some v15 ∧ b.cell? p16 = some v16 ∧ b.cell? p17 = some v17 ∧ b.cell? p18 = some v18 ∧ b.cell? p19 = some v19 ∧ b.cell? p20 = some v20 ∧ b.cell? p21 = some v21 ∧ b.cell? p22 = some v22 ∧ b.cell? p23 = some v23 := ⟨g, g.keep h0, g.keep h1, g.keep h2, g.keep h3, g.keep h4, g.keep h5, g.keep h6, g.keep h7, g.keep h8, g.keep h9, g.keep h10, g.keep h11, g.keep h12, g.keep h13, g.keep h14, g.keep h15, g.keep h16, g.keep h17, g.keep h18, g.keep h19, g.keep h20, g.keep h21, g.keep h22, g.keep h23⟩
theorem rSameF (x z : Mf) (w : World) (hx : MnAt Z w x.m) (hz : MnAt Z w z.m) (he : x.fr = z.fr) : Calls Tryz.prog 37 #[x.v, z.v] w fun e w' => e = .returned (.bool true) ∧ Gr w w' := by
  obtain ⟨fr, tx, ep, sq, ae, ac, ⟨⟨k, r, n, L, d, y⟩, ad, cap⟩⟩ := x
  obtain ⟨fr2, tx2, ep2, sq2, ae2, ac2, ⟨nz, ad2, cap2⟩⟩ := z
  unfold Mf.fr at he
  simp only [Lk.Fr.mk.injEq] at he
  obtain ⟨rfl, rfl, rfl, rfl, rfl, rfl, hp⟩ := he
  have hp2 := pk_inj hp
  subst hp2
  exact rSame_any fr tx ep sq ae ac k r n L d y ad ad2 cap cap2 w hx.hp hz.hp hx.hl
set_option maxHeartbeats 8000000 in
set_option maxRecDepth 100000 in
theorem rSameR_yes (A B : List Mf) (ad : Option Addr) (cap : Nat) (ad2 : Option Addr) (cap2 : Nat) (w : World) (hA : FrsAt Z w ad A) (hB : FrsAt Z w ad2 B) (hn : A.length ≤ 9223372036854775807) (he : frs A = frs B) :
    Calls Tryz.prog 13 #[.slice ad A.length cap, .slice ad2 B.length cap2] w fun e w' => e = .returned (.bool true) ∧ Gr w w' := by
  have hlen : B.length = A.length := by
    have := congrArg List.length he
    rw [frs_len, frs_len] at this
    exact this.symm
  have HE : Hid (∀ (j : Nat) (h1 : j < A.length) (h2 : j < B.length), A[j].fr = B[j].fr) := by
    intro j h1 h2
    have e1 := frs_get? A j h1
    have e2 := frs_get? B j h2
    rw [he, e2] at e1
    exact (Option.some.inj e1).symm
  have HC : Hid (∀ x ∈ A, ∀ z ∈ B, x.fr = z.fr → ∀ w', Gr w w' → Calls Tryz.prog 37 #[x.v, z.v] w' fun e w2 => e = .returned (.bool true) ∧ Gr w' w2) := fun x hx z hz h w' g => rSameF x z w' ((hA.nt x hx).gr g) ((hB.nt z hz).gr g) h
  have HA := Lib.hid hA.row
  have HB := Lib.hid hB.row
  have HLn := Lib.hid hlen
  rw [hlen]
  clear hA hB he hlen
  go_enter Tryz.func13, Tryz.ntmps13
  go_wp2
  go_loopw [5] (fun s5 wr => ∃ k : Nat, s5 = .int .i64 k ∧ k ≤ A.length ∧ Gr w wr) (fun s5 _ => A.length - (intOf s5).toNat)
  case atStart => exact ⟨0, rfl, Nat.zero_le _, Gr.refl _⟩
  case round =>
    obtain ⟨k, rfl, hk, hg⟩ := hrel
    have HG := Lib.hid hg
    by_cases hlt : k < A.length
    · have hlt2 : k < B.length := by rw [HLn.out]; exact hlt
      obtain ⟨b, off, rfl, hbl, d0, d1, d2, d3, d4, d5, d6, d7, d8, d9, d10, d11⟩ := FrsRow.at HA.out k hlt
      obtain ⟨b2, off2, rfl, hbl2, f0, f1, f2, f3, f4, f5, f6, f7, f8, f9, f10, f11⟩ := FrsRow.at HB.out k hlt2
      have d0 := hg.keep d0
      have f0 := hg.keep f0
      have d1 := hg.keep d1
      have f1 := hg.keep f1
      have d2 := hg.keep d2
      have f2 := hg.keep f2
      have d3 := hg.keep d3
      have f3 := hg.keep f3
      have d4 := hg.keep d4
      have f4 := hg.keep f4
      have d5 := hg.keep d5
      have f5 := hg.keep f5
      have d6 := hg.keep d6
      have f6 := hg.keep f6
      have d7 := hg.keep d7
      have f7 := hg.keep f7
      have d8 := hg.keep d8
      have f8 := hg.keep f8
      have d9 := hg.keep d9
      have f9 := hg.keep f9
      have d10 := hg.keep d10
      have f10 := hg.keep f10
      have d11 := hg.keep d11
      have f11 := hg.keep f11
      have hbw : b < wr.heap.size := Nat.lt_of_lt_of_le hbl hg.size
      have hbw2 : b2 < wr.heap.size := Nat.lt_of_lt_of_le hbl2 hg.size
      have hki : (k : Int) < (A.length : Int) := by omega
      have hk0' : (0 : Int) ≤ (k : Int) := by omega
      have hi := HE.out k hlt hlt2
      have HX := Lib.hid (HC.out A[k] (List.getElem_mem hlt) B[k] (List.getElem_mem hlt2) hi)
      clear hg hbl hbl2 HC HE
      generalize A[k] = x at *
      generalize B[k] = z at *
      obtain ⟨fr, tx, ep, sq, ae, ac, ⟨⟨k0, r, n, L, dt, y⟩, ax, cx⟩⟩ := x
      obtain ⟨fr2, tx2, ep2, sq2, ae2, ac2, ⟨nz, az, cz⟩⟩ := z
      unfold Mf.fr at hi
      simp only [Lk.Fr.mk.injEq] at hi
      obtain ⟨rfl, rfl, rfl, rfl, rfl, rfl, hp⟩ := hi
      have hp2 := pk_inj hp
      clear hp
      subst hp2
      clear hlt2 HLn
      dsimp only [Mf.v] at *
      go_wp2_with fail
      refine wp_region_held_drew (S := (fun w' => Gr wr w' ∧ w'.cell? ⟨b, off + k * 12, none⟩ = some (.int .i64 fr) ∧ w'.cell? ⟨b, off + k * 12 + 1, none⟩ = some (.int .i64 tx) ∧ w'.cell? ⟨b, off + k * 12 + 2, none⟩ = some (.int .i64 ep) ∧ w'.cell? ⟨b, off + k * 12 + 3, none⟩ = some (.int .i64 sq) ∧ w'.cell? ⟨b, off + k * 12 + 4, none⟩ = some (.int .i64 ae) ∧ w'.cell? ⟨b, off + k * 12 + 5, none⟩ = some (.int .i64 ac) ∧ w'.cell? ⟨b, off + k * 12 + 6, none⟩ = some (.int .i64 k0) ∧ w'.cell? ⟨b, off + k * 12 + 7, none⟩ = some (.int .i64 r) ∧ w'.cell? ⟨b, off + k * 12 + 8, none⟩ = some (.int .i64 n) ∧ w'.cell? ⟨b, off + k * 12 + 9, none⟩ = some (.slice ax L.length cx) ∧ w'.cell? ⟨b, off + k * 12 + 10, none⟩ = some (.string dt) ∧ w'.cell? ⟨b, off + k * 12 + 11, none⟩ = some (.int .i64 y) ∧ w'.cell? ⟨b2, off2 + k * 12, none⟩ = some (.int .i64 fr) ∧ w'.cell? ⟨b2, off2 + k * 12 + 1, none⟩ = some (.int .i64 tx) ∧ w'.cell? ⟨b2, off2 + k * 12 + 2, none⟩ = some (.int .i64 ep) ∧ w'.cell? ⟨b2, off2 + k * 12 + 3, none⟩ = some (.int .i64 sq) ∧ w'.cell? ⟨b2, off2 + k * 12 + 4, none⟩ = some (.int .i64 ae) ∧ w'.cell? ⟨b2, off2 + k * 12 + 5, none⟩ = some (.int .i64 ac) ∧ w'.cell? ⟨b2, off2 + k * 12 + 6, none⟩ = some (.int .i64 k0) ∧ w'.cell? ⟨b2, off2 + k * 12 + 7, none⟩ = some (.int .i64 r) ∧ w'.cell? ⟨b2, off2 + k * 12 + 8, none⟩ = some (.int .i64 n) ∧ w'.cell? ⟨b2, off2 + k * 12 + 9, none⟩ = some (.slice az L.length cz) ∧ w'.cell? ⟨b2, off2 + k * 12 + 10, none⟩ = some (.string dt) ∧ w'.cell? ⟨b2, off2 + k * 12 + 11, none⟩ = some (.int .i64 y))) (by kernel_rfl) (by exact hold25 (by repeat(first|exact Gr.r _|refine Gr.a ?_|refine Gr.d ?_|refine Gr.t ?_ (by assumption))) d0 d1 d2 d3 d4 d5 d6 d7 d8 d9 d10 d11 f0 f1 f2 f3 f4 f5 f6 f7 f8 f9 f10 f11) (fun hHeld => ?_)
      refine ty 0 17 hHeld ?_
      refine ty 1 18 hHeld ?_
      refine ty 2 19 hHeld ?_
      refine ty 3 20 hHeld ?_
      refine ty 4 21 hHeld ?_
      refine ty 5 22 hHeld ?_
      refine ty 6 23 hHeld ?_
      refine ty 7 24 hHeld ?_
      refine wpAnyH_ready (rs := [8]) (by kernel_rfl) (by simp) (AllReadyH.cons rfl (fun K hK => ?_) AllReadyH.nil)
      go_simp
      (go_at_call 37; refine (HX.out _ (HG.out.trans hHeld.1)).mono ?_; rintro e wn ⟨rfl, hgn⟩)
      (try go_wp2_with fail)
      refine hK.out _ _ (by exact hold25 (by repeat(first|exact Gr.r _|refine Gr.a ?_|refine Gr.d ?_|refine Gr.t ?_ (by assumption))) d0 d1 d2 d3 d4 d5 d6 d7 d8 d9 d10 d11 f0 f1 f2 f3 f4 f5 f6 f7 f8 f9 f10 f11) (fun hHeldN => ?_)
      clear hHeld hK K
      have hHeld := hHeldN
      clear hHeldN
      refine ty 9 26 hHeld ?_
      refine wpAnyH_done (by kernel_rfl) ?_ _
      have HG2 := Lib.hid (HG.out.trans hHeld.1)
      clear hHeld d0 d1 d2 d3 d4 d5 d6 d7 d8 d9 d10 d11 f0 f1 f2 f3 f4 f5 f6 f7 f8 f9 f10 f11
      go_wp2
      go_roundw
      case rel => exact ⟨k + 1, by go_num, by omega, HG2.out⟩
      case measure => simp [intOf]; omega
    · have hge : ¬ ((k : Int) < (A.length : Int)) := by omega
      clear hg
      go_wp2
      go_ret
      exact ⟨rfl, HG.out⟩
end Go.Proofs.YthfbpilfdfploaaGreat
namespace Go.Proofs.YthfbpilfdfploaaGreat
open Go.RowKit

structure Ma where
  k : Int
  now : Int
  m : Mn
  x : Mf
def aC (z : Ma) : List Value := [.int .i64 z.k, .int .i64 z.now, .int .i64 z.m.x.k, .int .i64 z.m.x.r, .int .i64 z.m.x.n, .slice z.m.ad z.m.x.L.length z.m.cap, .string z.m.x.d, .int .i64 z.m.x.y, .int .i64 z.x.f, .int .i64 z.x.t, .int .i64 z.x.e, .int .i64 z.x.s, .int .i64 z.x.a, .int .i64 z.x.c, .int .i64 z.x.m.x.k, .int .i64 z.x.m.x.r, .int .i64 z.x.m.x.n, .slice z.x.m.ad z.x.m.x.L.length z.x.m.cap, .string z.x.m.x.d, .int .i64 z.x.m.x.y]
theorem aC_len (z : Ma) : (aC z).length = 20 := rfl
structure ActsAt (w : World) (ad : Option Addr) (D : List Ma) : Prop where
  row : RowAt aC w ad D
  nt : ∀ z ∈ D, MnAt Any w z.m ∧ MnAt Any w z.x.m
theorem ActsRow.at {w : World} {ad : Option Addr} {D : List Ma} (h : RowAt aC w ad D) (k : Nat) (hk : k < D.length) : ∃ b off, ad = some ⟨b, off, none⟩ ∧ b < w.heap.size ∧ w.cell? ⟨b, off + k * 20, none⟩ = some (.int .i64 D[k].k) ∧ w.cell? ⟨b, off + k * 20 + 1, none⟩ = some (.int .i64 D[k].now) ∧ w.cell? ⟨b, off + k * 20 + 2, none⟩ = some (.int .i64 D[k].m.x.k) ∧ w.cell? ⟨b, off + k * 20 + 3, none⟩ = some (.int .i64 D[k].m.x.r) ∧ w.cell? ⟨b, off + k * 20 + 4, none⟩ = some (.int .i64 D[k].m.x.n) ∧ w.cell? ⟨b, off + k * 20 + 5, none⟩ = some (.slice D[k].m.ad D[k].m.x.L.length D[k].m.cap) ∧ w.cell? ⟨b, off + k * 20 + 6, none⟩ = some (.string D[k].m.x.d) ∧ w.cell? ⟨b, off + k * 20 + 7, none⟩ = some (.int .i64 D[k].m.x.y) ∧ w.cell? ⟨b, off + k * 20 + 8, none⟩ = some (.int .i64 D[k].x.f) ∧ w.cell? ⟨b, off + k * 20 + 9, none⟩ = some (.int .i64 D[k].x.t) ∧ w.cell? ⟨b, off + k * 20 + 10, none⟩ = some (.int .i64 D[k].x.e) ∧ w.cell? ⟨b, off + k * 20 + 11, none⟩ = some (.int .i64 D[k].x.s) ∧ w.cell? ⟨b, off + k * 20 + 12, none⟩ = some (.int .i64 D[k].x.a) ∧ w.cell? ⟨b, off + k * 20 + 13, none⟩ = some (.int .i64 D[k].x.c) ∧ w.cell? ⟨b, off + k * 20 + 14, none⟩ = some (.int .i64 D[k].x.m.x.k) ∧ w.cell? ⟨b, off + k * 20 + 15, none⟩ = some (.int .i64 D[k].x.m.x.r) ∧ w.cell? ⟨b, off + k * 20 + 16, none⟩ = some (.int .i64 D[k].x.m.x.n) ∧ w.cell? ⟨b, off + k * 20 + 17, none⟩ = some (.slice D[k].x.m.ad D[k].x.m.x.L.length D[k].x.m.cap) ∧ w.cell? ⟨b, off + k * 20 + 18, none⟩ = some (.string D[k].x.m.x.d) ∧ w.cell? ⟨b, off + k * 20 + 19, none⟩ = some (.int .i64 D[k].x.m.x.y) := by
  have g := fun i hi => flat_get aC_len D k hk i hi
  obtain ⟨b, off, rfl, hb, c0⟩ := h _ _ (g 0 (by omega))
  obtain ⟨_, _, e, _, c1⟩ := h _ _ (g 1 (by omega)); cases e
  obtain ⟨_, _, e, _, c2⟩ := h _ _ (g 2 (by omega)); cases e
  obtain ⟨_, _, e, _, c3⟩ := h _ _ (g 3 (by omega)); cases e
  obtain ⟨_, _, e, _, c4⟩ := h _ _ (g 4 (by omega)); cases e
  obtain ⟨_, _, e, _, c5⟩ := h _ _ (g 5 (by omega)); cases e
  obtain ⟨_, _, e, _, c6⟩ := h _ _ (g 6 (by omega)); cases e
  obtain ⟨_, _, e, _, c7⟩ := h _ _ (g 7 (by omega)); cases e
  obtain ⟨_, _, e, _, c8⟩ := h _ _ (g 8 (by omega)); cases e
  obtain ⟨_, _, e, _, c9⟩ := h _ _ (g 9 (by omega)); cases e
  obtain ⟨_, _, e, _, c10⟩ := h _ _ (g 10 (by omega)); cases e
  obtain ⟨_, _, e, _, c11⟩ := h _ _ (g 11 (by omega)); cases e
  obtain ⟨_, _, e, _, c12⟩ := h _ _ (g 12 (by omega)); cases e
  obtain ⟨_, _, e, _, c13⟩ := h _ _ (g 13 (by omega)); cases e
  obtain ⟨_, _, e, _, c14⟩ := h _ _ (g 14 (by omega)); cases e
  obtain ⟨_, _, e, _, c15⟩ := h _ _ (g 15 (by omega)); cases e
  obtain ⟨_, _, e, _, c16⟩ := h _ _ (g 16 (by omega)); cases e
  obtain ⟨_, _, e, _, c17⟩ := h _ _ (g 17 (by omega)); cases e
  obtain ⟨_, _, e, _, c18⟩ := h _ _ (g 18 (by omega)); cases e
  obtain ⟨_, _, e, _, c19⟩ := h _ _ (g 19 (by omega)); cases e
  rw [← Nat.add_assoc] at c1 c2 c3 c4 c5 c6 c7 c8 c9 c10 c11 c12 c13 c14 c15 c16 c17 c18 c19
  exact ⟨b, off, rfl, hb, c0, c1, c2, c3, c4, c5, c6, c7, c8, c9, c10, c11, c12, c13, c14, c15, c16, c17, c18, c19⟩
/- what few answers: yes or no -/
def FewR (w : World) (e : Ending) (w' : World) : Prop := ∃ b, e = .returned (.bool b) ∧ Gr w w'
set_option maxHeartbeats 4000000 in
set_option maxRecDepth 100000 in
theorem few_any (D : List Ma) (ad : Option Addr) (cap : Nat) (w : World) (hD : RowAt aC w ad D) :
    Calls Tryz.prog 4 #[.slice ad D.length cap] w fun e w' => FewR w e w' := by
  have HD := Lib.hid hD
  clear hD
  by_cases h1 : 150 < D.length
  · have h1' : (150 : Int) < (D.length : Int) := by omega
    go_enter Tryz.func4, Tryz.ntmps4
    go_wp2
    go_ret
    exact ⟨_, rfl, Gr.refl _⟩
  · have h1' : ¬ (150 : Int) < (D.length : Int) := by omega
    go_enter Tryz.func4, Tryz.ntmps4
    go_wp2
    go_loop [3] (fun s3 => ∃ j : Nat, s3 = .int .i64 j ∧ j ≤ D.length) (fun s3 => D.length - (intOf s3).toNat)
    case atStart => exact ⟨0, rfl, Nat.zero_le _⟩
    case round =>
      obtain ⟨j, rfl, hj⟩ := hrel
      by_cases hlt : j < D.length
      · obtain ⟨b, off, rfl, hbl, d0, d1, d2, d3, d4, d5, d6, d7, d8, d9, d10, d11, d12, d13, d14, d15, d16, d17, d18, d19⟩ := ActsRow.at HD.out j hlt
        have hji : (j : Int) < (D.length : Int) := by omega
        have hj0 : (0 : Int) ≤ (j : Int) := by omega
        generalize D[j] = x at *
        clear d0 d1 d2 d3 d4 d6 d7 d8 d9 d10 d11 d12 d13 d14 d15 d16 d18 d19
        generalize x.m.x.L.length = ll at *
        generalize x.x.m.x.L.length = lf at *
        by_cases hb : (20 : Int) < (ll : Int)
        · have hb' : 20 < ll := by omega
          go_wp2
          go_ret
          exact ⟨_, rfl, Gr.refl _⟩
        · have hb' : ¬ 20 < ll := by omega
          by_cases hc : (20 : Int) < (lf : Int)
          · have hc' : 20 < lf := by omega
            go_wp2
            go_ret
            exact ⟨_, rfl, Gr.refl _⟩
          · have hc' : ¬ 20 < lf := by omega
            go_wp2
            go_round
            case rel => exact ⟨j + 1, by go_num, by omega⟩
            case measure => simp [intOf]; omega
      · have hge : ¬ ((j : Int) < (D.length : Int)) := by omega
        go_wp2
        go_ret
        exact ⟨_, rfl, Gr.refl _⟩
end Go.Proofs.YthfbpilfdfploaaGreat
namespace Go.Proofs.YthfbpilfdfploaaGreat
open Go.ChangeShapes Go.WideShapes Go.ChangeAt Go.RowKit

set_option maxRecDepth 100000 in
theorem trod_fr {H : Type} {enc : TypeId × Value → H} {W : World} {base : Nat} {sp : Nat → Bool} {held : Bool} {fuel : Nat} {a0 a1 a2 a3 a4 a5 c0 c1 c2 c3 c4 c5 : Value} {x : DataW H × List MemPlace}
    (h : DataW.trod enc Tryz.prog W base sp held fuel 38 [a0, a1, a2, a3, a4, a5, c0, c1, c2, c3, c4, c5] = some x) : ∃ z : Mf, [a0, a1, a2, a3, a4, a5, c0, c1, c2, c3, c4, c5] = fC z ∧ MnAt Any W z.m := by
  have k0 : Tryz.prog.cellsOf 3 = 1 := by kernel_rfl
  have k6 : Tryz.prog.cellsOf 36 = 6 := by kernel_rfl
  obtain ⟨xs, n, _, hx, hl, hlen, hg⟩ := DataW.trod_struct Tryz.underlying38 h
  match xs, hlen with
  | [y0, y1, y2, y3, y4, y5, y6], _ =>
    have t0 := hg 0 _ rfl
    have t1 := hg 1 _ rfl
    have t2 := hg 2 _ rfl
    have t3 := hg 3 _ rfl
    have t4 := hg 4 _ rfl
    have t5 := hg 5 _ rfl
    have t6 := hg 6 _ rfl
    simp [k0, k6] at t0 t1 t2 t3 t4 t5 t6
    obtain ⟨z0, e0, _⟩ := DataW.trod_int Tryz.underlying3 t0
    obtain ⟨z1, e1, _⟩ := DataW.trod_int Tryz.underlying3 t1
    obtain ⟨z2, e2, _⟩ := DataW.trod_int Tryz.underlying3 t2
    obtain ⟨z3, e3, _⟩ := DataW.trod_int Tryz.underlying3 t3
    obtain ⟨z4, e4, _⟩ := DataW.trod_int Tryz.underlying3 t4
    obtain ⟨z5, e5, _⟩ := DataW.trod_int Tryz.underlying3 t5
    obtain ⟨x, ad, cap, e, h1, h2, h3, h4⟩ := trod_note t6
    simp at e0 e1 e2 e3 e4 e5
    subst e0 e1 e2 e3 e4 e5
    simp only [List.cons.injEq, and_true] at e
    obtain ⟨rfl, rfl, rfl, rfl, rfl, rfl⟩ := e
    exact ⟨⟨z0, z1, z2, z3, z4, z5, ⟨x, ad, cap⟩⟩, rfl, h1, h2, h3, h4, fun _ _ _ => trivial⟩
set_option maxRecDepth 100000 in
theorem trod_act {H : Type} {enc : TypeId × Value → H} {W : World} {base : Nat} {sp : Nat → Bool} {held : Bool} (n : Nat) (cs : List Value) (y : DataW H × List MemPlace) (hl : cs.length = 20)
    (h : DataW.trod enc Tryz.prog W base sp held n 40 cs = some y) : ∃ z : Ma, cs = aC z ∧ (MnAt Any W z.m ∧ MnAt Any W z.x.m) := by
  have k0 : Tryz.prog.cellsOf 3 = 1 := by kernel_rfl
  have k6 : Tryz.prog.cellsOf 36 = 6 := by kernel_rfl
  have k12 : Tryz.prog.cellsOf 38 = 12 := by kernel_rfl
  match cs, hl with
  | [u0, u1, d0, d1, d2, d3, d4, d5, a0, a1, a2, a3, a4, a5, c0, c1, c2, c3, c4, c5], _ =>
    obtain ⟨xs, n, _, rfl, hl, hlen, hf⟩ := DataW.trod_struct Tryz.underlying40 h
    match xs, hlen with
    | [y0, y1, y2, y3], _ =>
      have t0 := hf 0 _ rfl
      have t1 := hf 1 _ rfl
      have t2 := hf 2 _ rfl
      have t3 := hf 3 _ rfl
      simp [k0, k6, k12] at t0 t1 t2 t3
      obtain ⟨z0, e0, _⟩ := DataW.trod_int Tryz.underlying3 t0
      obtain ⟨z1, e1, _⟩ := DataW.trod_int Tryz.underlying3 t1
      obtain ⟨x, ad, cap, e, h1, h2, h3, h4⟩ := trod_note t2
      obtain ⟨zf, ef, hz⟩ := trod_fr t3
      simp at e0 e1
      subst e0 e1
      simp only [List.cons.injEq, and_true, fC] at e ef
      obtain ⟨rfl, rfl, rfl, rfl, rfl, rfl⟩ := e
      obtain ⟨rfl, rfl, rfl, rfl, rfl, rfl, rfl, rfl, rfl, rfl, rfl, rfl⟩ := ef
      exact ⟨⟨z0, z1, ⟨x, ad, cap⟩, zf⟩, rfl, ⟨h1, h2, h3, h4, fun _ _ _ => trivial⟩, hz⟩
set_option maxRecDepth 100000 in
theorem open_lacts {H : Type} {enc : TypeId × Value → H} {W : World} {base : Nat} {v : Value} {d : DataW H} {ps : List MemPlace}
    (hok : Value.okWide Tryz.prog W .any base 22 v) (h : DataW.Trod enc Tryz.prog W 0 (fun _ => true) true 22 v d ps) :
    ∃ ad cap, ∃ D : List Ma, v = .slice ad D.length cap ∧ ActsAt W ad D ∧ D.length ≤ 9223372036854775807 := by
  obtain ⟨a0, len0, cap0, rfl⟩ := okWide_slice Tryz.underlying22 hok
  obtain ⟨fuel, hf⟩ := h
  simp only [Value.cells] at hf
  have hiA : Inhabited Ma := ⟨⟨0, 0, ⟨Nt.zeroN, none, 0⟩, ⟨0, 0, 0, 0, 0, 0, ⟨Nt.zeroN, none, 0⟩⟩⟩⟩
  obtain ⟨D, rfl, h1, h2, h3⟩ := open_rows aC_len (by decide) Tryz.underlying22 (by kernel_rfl) (trod_act (W := W)) hf
  exact ⟨a0, cap0, D, rfl, ⟨h1, fun d hd => h3 d hd⟩, h2⟩
/- events -/
structure Ev where
  k : Int
  f : Int
  s : Int
  w : Int
def eC (z : Ev) : List Value := [.int .i64 z.k, .int .i64 z.f, .int .i64 z.s, .int .i64 z.w]
theorem eC_len (z : Ev) : (eC z).length = 4 := rfl
theorem EvsRow.at {w : World} {ad : Option Addr} {D : List Ev} (h : RowAt eC w ad D) (k : Nat) (hk : k < D.length) : ∃ b off, ad = some ⟨b, off, none⟩ ∧ b < w.heap.size ∧
    w.cell? ⟨b, off + k * 4, none⟩ = some (.int .i64 D[k].k) ∧ w.cell? ⟨b, off + k * 4 + 1, none⟩ = some (.int .i64 D[k].f) ∧ w.cell? ⟨b, off + k * 4 + 2, none⟩ = some (.int .i64 D[k].s) ∧ w.cell? ⟨b, off + k * 4 + 3, none⟩ = some (.int .i64 D[k].w) := by
  have g := fun i hi => flat_get eC_len D k hk i hi
  obtain ⟨b, off, rfl, hb, c0⟩ := h _ _ (g 0 (by omega))
  obtain ⟨_, _, e, _, c1⟩ := h _ _ (g 1 (by omega)); cases e
  obtain ⟨_, _, e, _, c2⟩ := h _ _ (g 2 (by omega)); cases e
  obtain ⟨_, _, e, _, c3⟩ := h _ _ (g 3 (by omega)); cases e
  rw [← Nat.add_assoc] at c1 c2 c3
  exact ⟨b, off, rfl, hb, c0, c1, c2, c3⟩
end Go.Proofs.YthfbpilfdfploaaGreat
