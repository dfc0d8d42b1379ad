/- For every organisation, life and row of acts the law LinkPlays answers true: a link under any calls answers as the document's does; no condition. -/
import Derived.Test.YthfbpilfdfploaaGreatGR
import Derived.Test.YthfbpilfdfploaaGreatGX
import Derived.Deep.CutBlock
import Derived.Deep.MidRow
import Derived.Deep.WholeRow
namespace Go.Proofs.YthfbpilfdfploaaGreat
open Go.ChangeShapes Go.WideShapes Go.ChangeAt Go.RowKit
open Lk (St)

theorem setCells_new (w : World) (c c' : Array Value) (t : TypeId) (hi : (Tryz.prog.info? t).map (·.size) = some c'.size) (ho : c.size = c'.size) (h1 : c'.all (·.oneCell') = true) (ht : (w.alloc (.cells c t)).there w.heap.size 0 c'.size) : (w.alloc (.cells c t)).setCells w.heap.size 0 c'.toList = w.alloc (.cells c' t) := by
  have e1 := run_storeVar_new (P := Tryz.prog) w t c c' hi ho h1
  have e2 := run_storeVar_mid (P := Tryz.prog) (w.alloc (.cells c t)) w.heap.size 0 t c' ht hi h1
  rw [e1] at e2
  exact (Result.ok.inj e2).2.symm
theorem there_new (w : World) (c : Array Value) (t : TypeId) : (w.alloc (.cells c t)).there w.heap.size 0 c.size := by
  intro j hj
  have hc := Cs.new w c.toList t w.heap.size rfl
  rw [Array.toArray_toList] at hc
  refine ⟨?_, ?_⟩
  · rw [Nat.zero_add, hc.at_ j c[j] (by simp [hj])]; rfl
  · rw [Nat.zero_add]; exact hc.fz j (by simpa using hj)
theorem acts_range {w : World} {ad : Option Addr} {D : List Ma} (h : RowAt aC w ad D) (k : Nat) (hk : k < D.length) : ∃ b off, ad = some ⟨b, off, none⟩ ∧ b < w.heap.size ∧ w.rangeAt b (off + k * 20) (aC D[k]) := by
  have g := fun i hi => flat_get aC_len D k hk i hi
  obtain ⟨b, off, rfl, hb, _⟩ := h _ _ (g 0 (by omega))
  refine ⟨b, off, rfl, hb, fun j v hv => ?_⟩
  have hj : j < 20 := by
    rcases Nat.lt_or_ge j 20 with h2 | h2
    · exact h2
    · rw [List.getElem?_eq_none (by rw [aC_len]; exact h2)] at hv; cases hv
  have e := g j hj
  rw [hv] at e
  obtain ⟨_, _, e2, _, c⟩ := h _ _ e
  cases e2
  rw [Nat.add_assoc]; exact c
set_option maxRecDepth 100000 in
theorem aC_one (z : Ma) : ∀ v ∈ aC z, v.oneCell' = true := by
  intro v hv
  simp [aC] at hv
  rcases hv with rfl | rfl | rfl | rfl | rfl | rfl | rfl | rfl | rfl | rfl | rfl | rfl | rfl | rfl | rfl | rfl | rfl | rfl | rfl | rfl <;> rfl
theorem there_act (w : World) (c : Array Value) (t : TypeId) (z : Ma) (hc : c.size = 20) : (w.alloc (.cells c t)).there w.heap.size 0 (aC z).toArray.size := by
  have e : (aC z).toArray.size = c.size := List.size_toArray.trans ((aC_len z).trans hc.symm)
  rw [e]; exact there_new w c t
theorem act_size (z : Ma) : (Tryz.prog.info? 40).map (·.size) = some (aC z).length := by rw [aC_len]; kernel_rfl
def Nx2 (w wB wx : World) (gl gr : Nat) : Prop := ∃ l2 : St Nx, l2.ep ≠ 0 ∧ Lp (Nc gl gr) w wx gl gr l2 l2 ∧ GB2 gl gr wB wx
theorem sendS_ep (l : St Nx) (now : Int) (ns : List Nx) : (Lk.sendS CX l now ns).ep = l.ep := by unfold Lk.sendS; split <;> rfl
theorem tickS_ep (l : St Nx) (now : Int) : (Lk.tickS CX l now).ep = l.ep := by unfold Lk.tickS; split <;> rfl
theorem takeR_ep (l : St Nx) (f : Lk.Fr Nx) (now : Int) : (Lk.takeR CX l f now).2.2.ep = l.ep := by
  rcases Lk.take_cases CX l f now with ⟨_, h⟩ | ⟨_, _, _, ⟨_, _, h⟩ | ⟨_, _, _, h⟩ | ⟨_, _, h⟩⟩
  · rw [h]
  · rw [h]; exact learn_ep l f.e now
  · rw [h]; exact learn_ep l f.e now
  · rw [h]
    unfold Lk.lay
    split <;> exact learn_ep l f.e now
theorem holdL8 {a b : World} {gl gr gx : Nat} (g : GB2 gl gr a b) (hl : gx < a.heap.size) (h1 : gx ≠ gl) (h2 : gx ≠ gr) {v0 v1 v2 v3 v4 v5 v6 : Value} {i0 i1 i2 i3 i4 i5 i6 : Nat} (c0 : a.cell? ⟨gx, i0, none⟩ = some v0) (c1 : a.cell? ⟨gx, i1, none⟩ = some v1) (c2 : a.cell? ⟨gx, i2, none⟩ = some v2) (c3 : a.cell? ⟨gx, i3, none⟩ = some v3) (c4 : a.cell? ⟨gx, i4, none⟩ = some v4) (c5 : a.cell? ⟨gx, i5, none⟩ = some v5) (c6 : a.cell? ⟨gx, i6, none⟩ = some v6) :
    GB2 gl gr a b ∧ b.cell? ⟨gx, i0, none⟩ = some v0 ∧ b.cell? ⟨gx, i1, none⟩ = some v1 ∧ b.cell? ⟨gx, i2, none⟩ = some v2 ∧ b.cell? ⟨gx, i3, none⟩ = some v3 ∧ b.cell? ⟨gx, i4, none⟩ = some v4 ∧ b.cell? ⟨gx, i5, none⟩ = some v5 ∧ b.cell? ⟨gx, i6, none⟩ = some v6 := ⟨g, g.cell _ _ _ hl h1 h2 c0, g.cell _ _ _ hl h1 h2 c1, g.cell _ _ _ hl h1 h2 c2, g.cell _ _ _ hl h1 h2 c3, g.cell _ _ _ hl h1 h2 c4, g.cell _ _ _ hl h1 h2 c5, g.cell _ _ _ hl h1 h2 c6⟩
set_option maxHeartbeats 8000000 in
set_option maxRecDepth 100000 in
theorem plays_no (me ep : Int) (D : List Ma) (ad : Option Addr) (cap : Nat) (w : World) (hD : ActsAt w ad D) (hn : D.length ≤ 9223372036854775807) (hb : Lk.newB me 1 ep = false) :
    Calls Tryz.prog 3 #[.int .i64 me, .int .i64 ep, .slice ad D.length cap] w fun e w' => e = .returned (.bool true) ∧ Gr w w' := by
  have HA : Hid (∀ w', Calls Tryz.prog 5 #[] w' fun e w2 => AwR w' e w2) := fun w' => awake_any w'
  have HF := Lib.hid (few_any D ad cap w hD.row)
  have HN : Hid (∀ w', Calls Tryz.prog 6 #[.int .i64 me, .int .i64 1, .int .i64 ep] w' fun e w2 => e = .returned (.tuple #[.pointer none, .int .i64 2]) ∧ Gr w' w2) := fun w' => by
    have := kNew_any me 1 ep w'
    unfold NwK at this
    rw [hb] at this
    exact this
  have HR : Hid (∀ w', Calls Tryz.prog 7 #[.int .i64 me, .int .i64 1, .int .i64 ep] w' fun e w2 => e = .returned (.tuple #[.pointer none, .int .i64 2]) ∧ Gr w' w2) := fun w' => by
    have := rNew_any me 1 ep w'
    unfold NwR at this
    rw [hb] at this
    exact this
  clear hD hb
  go_enter Tryz.func3, Tryz.ntmps3
  go_wp2_with fail
  refine HF.out.mono ?_
  rintro e1 w1 ⟨b, rfl, hg1⟩
  have HG1 := Lib.hid hg1
  clear hg1 HF
  cases b with
  | false =>
    go_wp2_with fail
    refine (HA.out _).mono ?_
    rintro e2 w2 ⟨rfl, hg2⟩
    go_wp2
    go_ret
    exact ⟨rfl, HG1.out.trans hg2⟩
  | true =>
    go_wp2_with fail
    refine (HN.out _).mono ?_
    rintro e2 w2 ⟨rfl, hg2⟩
    have HG2 := Lib.hid (HG1.out.trans hg2)
    clear hg2 HG1
    go_wp2_with fail
    refine (HR.out _).mono ?_
    rintro e3 w3 ⟨rfl, hg3⟩
    have HG3 := Lib.hid (HG2.out.trans hg3)
    clear hg3 HG2
    go_wp2
    go_loopw [11] (fun i wr => i = .int .i64 0 ∧ wr = w3) (fun _ _ => 0)
    case atStart => exact ⟨rfl, rfl⟩
    case round =>
      obtain ⟨rfl, rfl⟩ := hrel
      by_cases h3 : (0 : Int) < (D.length : Int)
      · have h3b : decide ((0 : Int) < (D.length : Int)) = true := decide_eq_true h3
        have h3c : decide (0 < D.length) = true := decide_eq_true (by omega)
        go_wp2_with fail
        refine (HA.out _).mono ?_
        rintro e4 w4 ⟨rfl, hg4⟩
        go_wp2
        go_ret
        exact ⟨rfl, HG3.out.trans hg4⟩
      · have h3b : D.length = 0 := by omega
        go_wp2_with fail
        refine (HA.out _).mono ?_
        rintro e4 w4 ⟨rfl, hg4⟩
        go_wp2
        go_ret
        exact ⟨rfl, HG3.out.trans hg4⟩
set_option maxHeartbeats 16000000 in
set_option maxRecDepth 100000 in
theorem plays_main (me ep : Int) (D : List Ma) (ad : Option Addr) (cap : Nat) (w : World) (hD : ActsAt w ad D) (hn : D.length ≤ 9223372036854775807) (hb : Lk.newB me 1 ep = true) :
    Calls Tryz.prog 3 #[.int .i64 me, .int .i64 ep, .slice ad D.length cap] w fun e w' => e = .returned (.bool true) ∧ Gr w w' := by
  have HA : Hid (∀ w', Calls Tryz.prog 5 #[] w' fun e w2 => AwR w' e w2) := fun w' => awake_any w'
  have HF := Lib.hid (few_any D ad cap w hD.row)
  have HN : Hid (∀ w', Calls Tryz.prog 6 #[.int .i64 me, .int .i64 1, .int .i64 ep] w' fun e w2 => ∃ g, e = .returned (.tuple #[.pointer (some ⟨g, 0, none⟩), .int .i64 0]) ∧ (∀ Z, ¬ Z g → PkAt Z w2 g (Lk.new me 1 ep)) ∧ w'.heap.size ≤ g ∧ Gr w' w2) := fun w' => awn me 1 ep w' hb
  have HR : Hid (∀ w', Calls Tryz.prog 7 #[.int .i64 me, .int .i64 1, .int .i64 ep] w' fun e w2 => ∃ g, e = .returned (.tuple #[.pointer (some ⟨g, 0, none⟩), .int .i64 0]) ∧ (∀ Z, ¬ Z g → LkAt Z w2 g (Lk.new me 1 ep)) ∧ w'.heap.size ≤ g ∧ Gr w' w2) := fun w' => by
    have := rNew_any me 1 ep w'
    unfold NwR at this
    rw [hb] at this
    exact this
  have HE : Hid ((Lk.new me 1 ep : St Nx).ep ≠ 0) := by
    have h2 := of_decide_eq_true hb
    show ep ≠ 0
    omega
  have HD := Lib.hid hD
  clear hD hb
  generalize Lk.new me 1 ep = l0 at *
  go_enter Tryz.func3, Tryz.ntmps3
  go_wp2_with fail
  refine HF.out.mono ?_
  rintro e1 w1 ⟨b, rfl, hg1⟩
  have HG1 := Lib.hid hg1
  clear hg1 HF
  cases b with
  | false =>
    go_wp2_with fail
    refine (HA.out _).mono ?_
    rintro e2 w2 ⟨rfl, hg2⟩
    go_wp2
    go_ret
    exact ⟨rfl, HG1.out.trans hg2⟩
  | true =>
    go_wp2_with fail
    refine (HN.out _).mono ?_
    rintro e2 w2 ⟨gl, rfl, hA, hla, hg2⟩
    have HA2 := Lib.hid hA
    have HLa := Lib.hid hla
    have HG2 := Lib.hid hg2
    clear hA hla hg2 HN
    go_wp2_with fail
    refine (HR.out _).mono ?_
    rintro e3 w3 ⟨gr, rfl, hB, hlb, hg3⟩
    have HP3 : Hid (Lp (Nc gl gr) w w3 gl gr l0 l0) := lp_new HA2.out hB (Nat.le_trans HG1.out.size HLa.out) hlb (HG1.out.trans HG2.out) hg3
    clear hB hlb hg3 HR HA2 HLa HG1 HG2
    go_wp2
    go_loopw [11] (fun i wr => ∃ (j : Nat) (l : St Nx), i = .int .i64 j ∧ j ≤ D.length ∧ l.ep ≠ 0 ∧ Lp (Nc gl gr) w wr gl gr l l) (fun i _ => D.length - (intOf i).toNat)
    case atStart => exact ⟨0, l0, rfl, Nat.zero_le _, HE.out, HP3.out⟩
    case round =>
      obtain ⟨j, l, rfl, hj, he, hp⟩ := hrel
      have HP := Lib.hid hp
      have HEp := Lib.hid he
      clear hp he HP3 HE
      by_cases hlt : j < D.length
      · obtain ⟨bb, off, rfl, hbl, hrg⟩ := acts_range HD.out.row j hlt
        have hg := HP.out.up
        have hbw : bb < wr.heap.size := Nat.lt_of_lt_of_le hbl hg.size
        have hrg2 : wr.rangeAt bb (off + j * 20) (aC D[j]) := fun i v hv => hg.keep (hrg i v hv)
        have HRg := Lib.hid hrg2
        have hji : (j : Int) < (D.length : Int) := by omega
        have hj0 : (0 : Int) ≤ (j : Int) := by omega
        have HM := Lib.hid (HD.out.nt D[j] (List.getElem_mem hlt))
        have hut := Tryz.underlying40
        clear hg hbl hrg hrg2
        generalize D[j] = z at *
        go_upto_region 11 with (first
          | (refine wpList_load_mid rfl 40 _ rfl bb (off + j * 20) rfl (aC z) _ HRg.out hut rfl (act_size z) ?_)
          | (refine wpList_store_mid rfl 40 _ _ rfl wr.heap.size 0 (aC z).toArray rfl rfl (there_act _ _ _ z rfl) (by rw [List.size_toArray]; exact act_size z) (all_oneCell_toArray (aC_one z)) ?_)
          | fail)
        have HX0 := Lib.hid (Cs.new wr (aC z) 40 _ rfl)
        rw [show ((wr.alloc (.cells #[.int .i64 0, .int .i64 0, .int .i64 0, .int .i64 0, .int .i64 0, .slice none 0 0, .string ⟨#[]⟩, .int .i64 0, .int .i64 0, .int .i64 0, .int .i64 0, .int .i64 0, .int .i64 0, .int .i64 0, .int .i64 0, .int .i64 0, .int .i64 0, .slice none 0 0, .string ⟨#[]⟩, .int .i64 0] 40)).setCells wr.heap.size 0 (aC z)) = wr.alloc (.cells (aC z).toArray 40) from setCells_new wr _ (aC z).toArray 40 (by rw [List.size_toArray]; exact act_size z) rfl (all_oneCell_toArray (aC_one z)) (there_act _ _ _ z rfl)]
        obtain ⟨wB, hwB⟩ : ∃ x, x = wr.alloc (.cells (aC z).toArray 40) := ⟨_, rfl⟩
        rw [← hwB] at HX0 ⊢
        have HPB := Lib.hid (HP.out.gr (show Gr wr wB by rw [hwB]; exact (Gr.refl _).alloc))
        have HGB : Hid (Gr wr wB) := by show Gr wr wB; rw [hwB]; exact (Gr.refl _).alloc
        obtain ⟨gx, hgx⟩ : ∃ x, x = wr.heap.size := ⟨_, rfl⟩
        rw [← hgx] at HX0 ⊢
        have HGx : Hid (gx ≠ gl ∧ gx ≠ gr) := ⟨by have := HP.out.p.lt; omega, by have := HP.out.r; have := this.lt; omega⟩
        clear hwB hgx HRg hbw hji hj0 hut
        obtain ⟨zk, now, ⟨⟨k0, r0, n0, L0, s0, y0⟩, ax, cx⟩, ⟨ff, ft, fe, fs, fa, fc, ⟨⟨k5, r5, n5, L5, s5, y5⟩, ay, cy⟩⟩⟩ := z
        have hm1 : MnAt Any w ⟨⟨k0, r0, n0, L0, s0, y0⟩, ax, cx⟩ := HM.out.1
        have hm2 : MnAt Any w ⟨⟨k5, r5, n5, L5, s5, y5⟩, ay, cy⟩ := HM.out.2
        have HM1 := Lib.hid hm1
        have HM2 := Lib.hid hm2
        clear HM hm1 hm2
        have HX1 : Hid (Cs wB gx [.int .i64 zk, .int .i64 now, .int .i64 k0, .int .i64 r0, .int .i64 n0, .slice ax L0.length cx, .string s0, .int .i64 y0, .int .i64 ff, .int .i64 ft, .int .i64 fe, .int .i64 fs, .int .i64 fa, .int .i64 fc, .int .i64 k5, .int .i64 r5, .int .i64 n5, .slice ay L5.length cy, .string s5, .int .i64 y5]) := HX0
        clear HX0
        generalize hll : L0.length = ll at *
        generalize hlf : L5.length = lf at *
        have HLl := Lib.hid hll
        have HLf := Lib.hid hlf
        clear hll hlf
        have HLt : Hid (gl < wB.heap.size ∧ gr < wB.heap.size) := ⟨HPB.out.p.lt, HPB.out.r.lt⟩
        have HLx : Hid (gx < wB.heap.size) := HX1.out.lt
        have x0 := HX1.out.at_ 0 _ rfl
        have x1 := HX1.out.at_ 1 _ rfl
        have x2 := HX1.out.at_ 2 _ rfl
        have x3 := HX1.out.at_ 3 _ rfl
        have x4 := HX1.out.at_ 4 _ rfl
        have x5 := HX1.out.at_ 5 _ rfl
        have x6 := HX1.out.at_ 6 _ rfl
        have x7 := HX1.out.at_ 7 _ rfl
        have x8 := HX1.out.at_ 8 _ rfl
        have x9 := HX1.out.at_ 9 _ rfl
        have x10 := HX1.out.at_ 10 _ rfl
        have x11 := HX1.out.at_ 11 _ rfl
        have x12 := HX1.out.at_ 12 _ rfl
        have x13 := HX1.out.at_ 13 _ rfl
        have x14 := HX1.out.at_ 14 _ rfl
        have x15 := HX1.out.at_ 15 _ rfl
        have x16 := HX1.out.at_ 16 _ rfl
        have x17 := HX1.out.at_ 17 _ rfl
        have x18 := HX1.out.at_ 18 _ rfl
        have x19 := HX1.out.at_ 19 _ rfl
        have xl := HX1.out.lt
        clear HX1
        go_upto_block 2 with fail
        go_cut [13, 14, 15, 16, 17, 18, 19] from 62 to 122 (fun v _ _ _ _ _ _ wx => v = .bool true ∧ Nx2 w wB wx gl gr)
        case first =>
          by_cases p0 : zk = 0
          · skip
            subst p0
            clear x8 x9 x10 x11 x12 x13 x14 x15 x16 x17 x18 x19
            have HEq : Hid (Lk.sendE CX l now [pk ⟨k0, r0, n0, L0, s0, y0⟩] = Lk.sendE CX l now [pk ⟨k0, r0, n0, L0, s0, y0⟩]) := rfl
            have HSe : Hid ((Lk.sendS CX l now [pk ⟨k0, r0, n0, L0, s0, y0⟩]).ep ≠ 0) := by show _ ≠ _; rw [sendS_ep]; exact HEp.out
            have HSP : Hid (∀ w1 gq, Lp (Nc gl gr) w w1 gl gr l l → NtsAt (Nc gl gr) w1 (some ⟨gq, 0, none⟩) [⟨⟨k0, r0, n0, L0, s0, y0⟩, ax, cx⟩] → Calls Tryz.prog 8 #[.pointer (some ⟨gl, 0, none⟩), .int .i64 now, .slice (some ⟨gq, 0, none⟩) 1 1] w1 fun e w2 => e = .returned (.int .i64 (Lk.sendE CX l now [pk ⟨k0, r0, n0, L0, s0, y0⟩])) ∧ Lp (Nc gl gr) w w2 gl gr (Lk.sendS CX l now [pk ⟨k0, r0, n0, L0, s0, y0⟩]) l ∧ GB2 gl gr w1 w2) := fun w1 gq h1 h2 => lp_sendP h1 HEp.out ⟨⟨k0, r0, n0, L0, s0, y0⟩, ax, cx⟩ now gq h2
            have HSR : Hid (∀ w1 gq, Lp (Nc gl gr) w w1 gl gr (Lk.sendS CX l now [pk ⟨k0, r0, n0, L0, s0, y0⟩]) l → NtsAt (Nc gl gr) w1 (some ⟨gq, 0, none⟩) [⟨⟨k0, r0, n0, L0, s0, y0⟩, ax, cx⟩] → Calls Tryz.prog 9 #[.pointer (some ⟨gr, 0, none⟩), .int .i64 now, .slice (some ⟨gq, 0, none⟩) 1 1] w1 fun e w2 => e = .returned (.int .i64 (Lk.sendE CX l now [pk ⟨k0, r0, n0, L0, s0, y0⟩])) ∧ Lp (Nc gl gr) w w2 gl gr (Lk.sendS CX l now [pk ⟨k0, r0, n0, L0, s0, y0⟩]) (Lk.sendS CX l now [pk ⟨k0, r0, n0, L0, s0, y0⟩]) ∧ GB2 gl gr w1 w2) := fun w1 gq h1 h2 => lp_sendR h1 ⟨⟨k0, r0, n0, L0, s0, y0⟩, ax, cx⟩ now gq h2
            clear HEq
            generalize Lk.sendS CX l now [pk ⟨k0, r0, n0, L0, s0, y0⟩] = l2 at *
            generalize Lk.sendE CX l now [pk ⟨k0, r0, n0, L0, s0, y0⟩] = se at *
            go_wp2_with fail
            refine wp_region_held_drew (S := (fun w' => GB2 gl gr wB w' ∧ w'.cell? ⟨gx, 1, none⟩ = some (.int .i64 now) ∧ w'.cell? ⟨gx, 2, none⟩ = some (.int .i64 k0) ∧ w'.cell? ⟨gx, 3, none⟩ = some (.int .i64 r0) ∧ w'.cell? ⟨gx, 4, none⟩ = some (.int .i64 n0) ∧ w'.cell? ⟨gx, 5, none⟩ = some (.slice ax ll cx) ∧ w'.cell? ⟨gx, 6, none⟩ = some (.string s0) ∧ w'.cell? ⟨gx, 7, none⟩ = some (.int .i64 y0))) (by kernel_rfl) (by exact holdL8 (by repeat (first | exact GB2.refl _ _ _ | exact hHeld.1 | refine GB2.alloc ?_ | refine GB2.drew ?_ | refine GB2.trans ?_ (by assumption))) HLx.out HGx.out.1 HGx.out.2 x1 x2 x3 x4 x5 x6 x7) (fun hHeld => ?_)
            refine ty 0 73 hHeld ?_
            refine ty 1 74 hHeld ?_
            refine ty 2 75 hHeld ?_
            refine ty 3 76 hHeld ?_
            refine ty 4 77 hHeld ?_
            refine ty 7 80 hHeld ?_
            refine ty 8 81 hHeld ?_
            refine ty 9 82 hHeld ?_
            refine ty 10 83 hHeld ?_
            refine ty 11 84 hHeld ?_
            refine wpAnyH_ready (rs := [5, 12]) (by kernel_rfl) (by simp) (AllReadyH.cons rfl (fun K hK => ?_) (AllReadyH.cons rfl (fun K hK => ?_) AllReadyH.nil))
            · skip
              go_simp
              refine hK.out _ _ (by exact holdL8 (by repeat (first | exact GB2.refl _ _ _ | exact hHeld.1 | refine GB2.alloc ?_ | refine GB2.drew ?_ | refine GB2.trans ?_ (by assumption))) HLx.out HGx.out.1 HGx.out.2 x1 x2 x3 x4 x5 x6 x7) (fun hHeldN => ?_)
              clear hHeld hK K
              have hHeld := hHeldN
              clear hHeldN
              refine wpAnyH_ready (rs := [6, 12]) (by kernel_rfl) (by simp) (AllReadyH.cons rfl (fun K hK => ?_) (AllReadyH.cons rfl (fun K hK => ?_) AllReadyH.nil))
              · skip
                go_simp
                (go_at_call 8; refine (HSP.out _ wB.heap.size (HPB.out.gr (by repeat (first | exact Gr.refl _ | refine Gr.alloc ?_ | refine Gr.drew ?_))) (nts_cells (m := ⟨⟨k0, r0, n0, L0, s0, y0⟩, ax, cx⟩) (by simp <;> omega) ((HPB.out.gr (by repeat (first | exact Gr.refl _ | refine Gr.alloc ?_ | refine Gr.drew ?_))).off HM1.out) (by simp) (by simp) (by simp) (by rw [HLl.out]; simp) (by simp) (by simp))).mono ?_; rintro e wn ⟨rfl, hp1, hgn⟩)
                (try go_wp2_with fail)
                refine hK.out _ _ (by exact holdL8 (by repeat (first | exact GB2.refl _ _ _ | exact hHeld.1 | refine GB2.alloc ?_ | refine GB2.drew ?_ | refine GB2.trans ?_ (by assumption))) HLx.out HGx.out.1 HGx.out.2 x1 x2 x3 x4 x5 x6 x7) (fun hHeldN => ?_)
                clear hHeld hK K
                have hHeld := hHeldN
                clear hHeldN
                refine wpAnyH_ready (rs := [12]) (by kernel_rfl) (by simp) (AllReadyH.cons rfl (fun K hK => ?_) AllReadyH.nil)
                go_simp
                refine hK.out _ _ (by exact holdL8 (by repeat (first | exact GB2.refl _ _ _ | exact hHeld.1 | refine GB2.alloc ?_ | refine GB2.drew ?_ | refine GB2.trans ?_ (by assumption))) HLx.out HGx.out.1 HGx.out.2 x1 x2 x3 x4 x5 x6 x7) (fun hHeldN => ?_)
                clear hHeld hK K
                have hHeld := hHeldN
                clear hHeldN
                refine wpAnyH_ready (rs := [13]) (by kernel_rfl) (by simp) (AllReadyH.cons rfl (fun K hK => ?_) AllReadyH.nil)
                go_simp
                (go_at_call 9; refine (HSR.out _ wn.heap.size (hp1.gr (by repeat (first | exact Gr.refl _ | refine Gr.alloc ?_ | refine Gr.drew ?_))) (nts_cells (m := ⟨⟨k0, r0, n0, L0, s0, y0⟩, ax, cx⟩) (by simp) ((hp1.gr (by repeat (first | exact Gr.refl _ | refine Gr.alloc ?_ | refine Gr.drew ?_))).off HM1.out) (by simp) (by simp) (by simp) (by rw [HLl.out]; simp) (by simp) (by simp))).mono ?_; rintro e wn2 ⟨rfl, hp2, hgn2⟩)
                (try go_wp2_with fail)
                refine hK.out _ _ (by exact holdL8 (by repeat (first | exact GB2.refl _ _ _ | exact hHeld.1 | refine GB2.alloc ?_ | refine GB2.drew ?_ | refine GB2.trans ?_ (by assumption))) HLx.out HGx.out.1 HGx.out.2 x1 x2 x3 x4 x5 x6 x7) (fun hHeldN => ?_)
                clear hHeld hK K
                have hHeld := hHeldN
                clear hHeldN
                refine ty 14 87 hHeld ?_
                refine ty 15 13 hHeld ?_
                refine wpAnyH_done (by kernel_rfl) ?_ _
                go_wp2_with fail
                go_meet
                exact ⟨rfl, _, HSe.out, hp2, hHeld.1⟩
              · skip
                go_simp
                refine hK.out _ _ (by exact holdL8 (by repeat (first | exact GB2.refl _ _ _ | exact hHeld.1 | refine GB2.alloc ?_ | refine GB2.drew ?_ | refine GB2.trans ?_ (by assumption))) HLx.out HGx.out.1 HGx.out.2 x1 x2 x3 x4 x5 x6 x7) (fun hHeldN => ?_)
                clear hHeld hK K
                have hHeld := hHeldN
                clear hHeldN
                refine wpAnyH_ready (rs := [6]) (by kernel_rfl) (by simp) (AllReadyH.cons rfl (fun K hK => ?_) AllReadyH.nil)
                go_simp
                (go_at_call 8; refine (HSP.out _ wB.heap.size (HPB.out.gr (by repeat (first | exact Gr.refl _ | refine Gr.alloc ?_ | refine Gr.drew ?_))) (nts_cells (m := ⟨⟨k0, r0, n0, L0, s0, y0⟩, ax, cx⟩) (by simp <;> omega) ((HPB.out.gr (by repeat (first | exact Gr.refl _ | refine Gr.alloc ?_ | refine Gr.drew ?_))).off HM1.out) (by simp) (by simp) (by simp) (by rw [HLl.out]; simp) (by simp) (by simp))).mono ?_; rintro e wn ⟨rfl, hp1, hgn⟩; have b0 := hgn.cell (wB.heap.size + 1) 0 _ (by simp <;> omega) (by have := HLt.out; omega) (by have := HLt.out; omega) (show World.cell? _ _ = some (.int .i64 k0) by simp); have b1 := hgn.cell (wB.heap.size + 1) 1 _ (by simp <;> omega) (by have := HLt.out; omega) (by have := HLt.out; omega) (show World.cell? _ _ = some (.int .i64 r0) by simp); have b2 := hgn.cell (wB.heap.size + 1) 2 _ (by simp <;> omega) (by have := HLt.out; omega) (by have := HLt.out; omega) (show World.cell? _ _ = some (.int .i64 n0) by simp); have b3 := hgn.cell (wB.heap.size + 1) 3 _ (by simp <;> omega) (by have := HLt.out; omega) (by have := HLt.out; omega) (show World.cell? _ _ = some (.slice ax ll cx) by simp); have b4 := hgn.cell (wB.heap.size + 1) 4 _ (by simp <;> omega) (by have := HLt.out; omega) (by have := HLt.out; omega) (show World.cell? _ _ = some (.string s0) by simp); have b5 := hgn.cell (wB.heap.size + 1) 5 _ (by simp <;> omega) (by have := HLt.out; omega) (by have := HLt.out; omega) (show World.cell? _ _ = some (.int .i64 y0) by simp))
                (try go_wp2_with fail)
                refine hK.out _ _ (by exact holdL8 (by repeat (first | exact GB2.refl _ _ _ | exact hHeld.1 | refine GB2.alloc ?_ | refine GB2.drew ?_ | refine GB2.trans ?_ (by assumption))) HLx.out HGx.out.1 HGx.out.2 x1 x2 x3 x4 x5 x6 x7) (fun hHeldN => ?_)
                clear hHeld hK K
                have hHeld := hHeldN
                clear hHeldN
                refine wpAnyH_ready (rs := [13]) (by kernel_rfl) (by simp) (AllReadyH.cons rfl (fun K hK => ?_) AllReadyH.nil)
                go_simp
                (go_at_call 9; refine (HSR.out _ (wB.heap.size + 1) hp1 (nts_cells (m := ⟨⟨k0, r0, n0, L0, s0, y0⟩, ax, cx⟩) (by have := hgn.size; simp at this; omega) (hp1.off HM1.out) b0 b1 b2 (by rw [HLl.out]; exact b3) b4 b5)).mono ?_; rintro e wn2 ⟨rfl, hp2, hgn2⟩)
                (try go_wp2_with fail)
                refine hK.out _ _ (by exact holdL8 (by repeat (first | exact GB2.refl _ _ _ | exact hHeld.1 | refine GB2.alloc ?_ | refine GB2.drew ?_ | refine GB2.trans ?_ (by assumption))) HLx.out HGx.out.1 HGx.out.2 x1 x2 x3 x4 x5 x6 x7) (fun hHeldN => ?_)
                clear hHeld hK K
                have hHeld := hHeldN
                clear hHeldN
                refine ty 14 87 hHeld ?_
                refine ty 15 13 hHeld ?_
                refine wpAnyH_done (by kernel_rfl) ?_ _
                go_wp2_with fail
                go_meet
                exact ⟨rfl, _, HSe.out, hp2, hHeld.1⟩
            · skip
              go_simp
              refine hK.out _ _ (by exact holdL8 (by repeat (first | exact GB2.refl _ _ _ | exact hHeld.1 | refine GB2.alloc ?_ | refine GB2.drew ?_ | refine GB2.trans ?_ (by assumption))) HLx.out HGx.out.1 HGx.out.2 x1 x2 x3 x4 x5 x6 x7) (fun hHeldN => ?_)
              clear hHeld hK K
              have hHeld := hHeldN
              clear hHeldN
              refine wpAnyH_ready (rs := [5]) (by kernel_rfl) (by simp) (AllReadyH.cons rfl (fun K hK => ?_) AllReadyH.nil)
              go_simp
              refine hK.out _ _ (by exact holdL8 (by repeat (first | exact GB2.refl _ _ _ | exact hHeld.1 | refine GB2.alloc ?_ | refine GB2.drew ?_ | refine GB2.trans ?_ (by assumption))) HLx.out HGx.out.1 HGx.out.2 x1 x2 x3 x4 x5 x6 x7) (fun hHeldN => ?_)
              clear hHeld hK K
              have hHeld := hHeldN
              clear hHeldN
              refine wpAnyH_ready (rs := [6]) (by kernel_rfl) (by simp) (AllReadyH.cons rfl (fun K hK => ?_) AllReadyH.nil)
              go_simp
              (go_at_call 8; refine (HSP.out _ (wB.heap.size + 1) (HPB.out.gr (by repeat (first | exact Gr.refl _ | refine Gr.alloc ?_ | refine Gr.drew ?_))) (nts_cells (m := ⟨⟨k0, r0, n0, L0, s0, y0⟩, ax, cx⟩) (by simp <;> omega) ((HPB.out.gr (by repeat (first | exact Gr.refl _ | refine Gr.alloc ?_ | refine Gr.drew ?_))).off HM1.out) (by simp) (by simp) (by simp) (by rw [HLl.out]; simp) (by simp) (by simp))).mono ?_; rintro e wn ⟨rfl, hp1, hgn⟩; have b0 := hgn.cell (wB.heap.size) 0 _ (by simp <;> omega) (by have := HLt.out; omega) (by have := HLt.out; omega) (show World.cell? _ _ = some (.int .i64 k0) by simp); have b1 := hgn.cell (wB.heap.size) 1 _ (by simp <;> omega) (by have := HLt.out; omega) (by have := HLt.out; omega) (show World.cell? _ _ = some (.int .i64 r0) by simp); have b2 := hgn.cell (wB.heap.size) 2 _ (by simp <;> omega) (by have := HLt.out; omega) (by have := HLt.out; omega) (show World.cell? _ _ = some (.int .i64 n0) by simp); have b3 := hgn.cell (wB.heap.size) 3 _ (by simp <;> omega) (by have := HLt.out; omega) (by have := HLt.out; omega) (show World.cell? _ _ = some (.slice ax ll cx) by simp); have b4 := hgn.cell (wB.heap.size) 4 _ (by simp <;> omega) (by have := HLt.out; omega) (by have := HLt.out; omega) (show World.cell? _ _ = some (.string s0) by simp); have b5 := hgn.cell (wB.heap.size) 5 _ (by simp <;> omega) (by have := HLt.out; omega) (by have := HLt.out; omega) (show World.cell? _ _ = some (.int .i64 y0) by simp))
              (try go_wp2_with fail)
              refine hK.out _ _ (by exact holdL8 (by repeat (first | exact GB2.refl _ _ _ | exact hHeld.1 | refine GB2.alloc ?_ | refine GB2.drew ?_ | refine GB2.trans ?_ (by assumption))) HLx.out HGx.out.1 HGx.out.2 x1 x2 x3 x4 x5 x6 x7) (fun hHeldN => ?_)
              clear hHeld hK K
              have hHeld := hHeldN
              clear hHeldN
              refine wpAnyH_ready (rs := [13]) (by kernel_rfl) (by simp) (AllReadyH.cons rfl (fun K hK => ?_) AllReadyH.nil)
              go_simp
              (go_at_call 9; refine (HSR.out _ (wB.heap.size) hp1 (nts_cells (m := ⟨⟨k0, r0, n0, L0, s0, y0⟩, ax, cx⟩) (by have := hgn.size; simp at this; omega) (hp1.off HM1.out) b0 b1 b2 (by rw [HLl.out]; exact b3) b4 b5)).mono ?_; rintro e wn2 ⟨rfl, hp2, hgn2⟩)
              (try go_wp2_with fail)
              refine hK.out _ _ (by exact holdL8 (by repeat (first | exact GB2.refl _ _ _ | exact hHeld.1 | refine GB2.alloc ?_ | refine GB2.drew ?_ | refine GB2.trans ?_ (by assumption))) HLx.out HGx.out.1 HGx.out.2 x1 x2 x3 x4 x5 x6 x7) (fun hHeldN => ?_)
              clear hHeld hK K
              have hHeld := hHeldN
              clear hHeldN
              refine ty 14 87 hHeld ?_
              refine ty 15 13 hHeld ?_
              refine wpAnyH_done (by kernel_rfl) ?_ _
              go_wp2_with fail
              go_meet
              exact ⟨rfl, _, HSe.out, hp2, hHeld.1⟩
          · by_cases p2 : zk = 2
            · skip
              subst p2
              clear x2 x3 x4 x5 x6 x7
              have HTe : Hid ((Lk.takeR CX l (Mf.fr ⟨ff, ft, fe, fs, fa, fc, ⟨⟨k5, r5, n5, L5, s5, y5⟩, ay, cy⟩⟩) now).2.2.ep ≠ 0) := by show _ ≠ _; rw [takeR_ep]; exact HEp.out
              have HTP : Hid (Calls Tryz.prog 10 #[.pointer (some ⟨gl, 0, none⟩), .agg #[.int .i64 ff, .int .i64 ft, .int .i64 fe, .int .i64 fs, .int .i64 fa, .int .i64 fc, .int .i64 k5, .int .i64 r5, .int .i64 n5, .slice ay lf cy, .string s5, .int .i64 y5], .int .i64 now] wB fun e w2 => ∃ m : Mn, e = .returned (.tuple #[m.v, .bool (Lk.takeR CX l (Mf.fr ⟨ff, ft, fe, fs, fa, fc, ⟨⟨k5, r5, n5, L5, s5, y5⟩, ay, cy⟩⟩) now).2.1, .int .i64 (Lk.takeR CX l (Mf.fr ⟨ff, ft, fe, fs, fa, fc, ⟨⟨k5, r5, n5, L5, s5, y5⟩, ay, cy⟩⟩) now).1]) ∧ m.x = (if (Lk.takeR CX l (Mf.fr ⟨ff, ft, fe, fs, fa, fc, ⟨⟨k5, r5, n5, L5, s5, y5⟩, ay, cy⟩⟩) now).2.1 = true then (⟨k5, r5, n5, L5, s5, y5⟩ : Nt) else Nt.zeroN) ∧ MnAt (Nc gl gr) w2 m ∧ Lp (Nc gl gr) w w2 gl gr (Lk.takeR CX l (Mf.fr ⟨ff, ft, fe, fs, fa, fc, ⟨⟨k5, r5, n5, L5, s5, y5⟩, ay, cy⟩⟩) now).2.2 l ∧ GB2 gl gr wB w2) := by
                have := lp_takeP HPB.out HEp.out ⟨ff, ft, fe, fs, fa, fc, ⟨⟨k5, r5, n5, L5, s5, y5⟩, ay, cy⟩⟩ (HPB.out.off HM2.out) now
                rw [← HLf.out]
                exact this
              have HTR : Hid (∀ w1, Lp (Nc gl gr) w w1 gl gr (Lk.takeR CX l (Mf.fr ⟨ff, ft, fe, fs, fa, fc, ⟨⟨k5, r5, n5, L5, s5, y5⟩, ay, cy⟩⟩) now).2.2 l → Calls Tryz.prog 11 #[.pointer (some ⟨gr, 0, none⟩), .agg #[.int .i64 ff, .int .i64 ft, .int .i64 fe, .int .i64 fs, .int .i64 fa, .int .i64 fc, .int .i64 k5, .int .i64 r5, .int .i64 n5, .slice ay lf cy, .string s5, .int .i64 y5], .int .i64 now] w1 fun e w2 => ∃ m : Mn, e = .returned (.tuple #[m.v, .bool (Lk.takeR CX l (Mf.fr ⟨ff, ft, fe, fs, fa, fc, ⟨⟨k5, r5, n5, L5, s5, y5⟩, ay, cy⟩⟩) now).2.1, .int .i64 (Lk.takeR CX l (Mf.fr ⟨ff, ft, fe, fs, fa, fc, ⟨⟨k5, r5, n5, L5, s5, y5⟩, ay, cy⟩⟩) now).1]) ∧ m.x = (if (Lk.takeR CX l (Mf.fr ⟨ff, ft, fe, fs, fa, fc, ⟨⟨k5, r5, n5, L5, s5, y5⟩, ay, cy⟩⟩) now).2.1 = true then (⟨k5, r5, n5, L5, s5, y5⟩ : Nt) else Nt.zeroN) ∧ MnAt (Nc gl gr) w2 m ∧ (∀ m2, MnAt (Nc gl gr) w1 m2 → MnAt (Nc gl gr) w2 m2) ∧ Lp (Nc gl gr) w w2 gl gr (Lk.takeR CX l (Mf.fr ⟨ff, ft, fe, fs, fa, fc, ⟨⟨k5, r5, n5, L5, s5, y5⟩, ay, cy⟩⟩) now).2.2 (Lk.takeR CX l (Mf.fr ⟨ff, ft, fe, fs, fa, fc, ⟨⟨k5, r5, n5, L5, s5, y5⟩, ay, cy⟩⟩) now).2.2 ∧ GB2 gl gr w1 w2) := fun w1 h1 => by
                have := lp_takeR h1 ⟨ff, ft, fe, fs, fa, fc, ⟨⟨k5, r5, n5, L5, s5, y5⟩, ay, cy⟩⟩ (h1.off HM2.out) now
                rw [← HLf.out]
                exact this
              generalize Lk.takeR CX l (Mf.fr ⟨ff, ft, fe, fs, fa, fc, ⟨⟨k5, r5, n5, L5, s5, y5⟩, ay, cy⟩⟩) now = T at *
              generalize (if T.2.1 = true then (⟨k5, r5, n5, L5, s5, y5⟩ : Nt) else Nt.zeroN) = nx at *
              go_wp2_with fail
              refine HTP.out.mono ?_
              rintro e1 w1 ⟨⟨⟨k1, r1, n1, L1, s1, y1⟩, a1, c1⟩, rfl, hx1, hm1, hp1, hg1⟩
              dsimp only [Mn.v] at *
              have HE1 := Lib.hid hx1
              have HN1 := Lib.hid hm1
              have HP1 := Lib.hid hp1
              have HG1 := Lib.hid hg1
              have x1 := hg1.cell _ _ _ HLx.out HGx.out.1 HGx.out.2 x1
              have x8 := hg1.cell _ _ _ HLx.out HGx.out.1 HGx.out.2 x8
              have x9 := hg1.cell _ _ _ HLx.out HGx.out.1 HGx.out.2 x9
              have x10 := hg1.cell _ _ _ HLx.out HGx.out.1 HGx.out.2 x10
              have x11 := hg1.cell _ _ _ HLx.out HGx.out.1 HGx.out.2 x11
              have x12 := hg1.cell _ _ _ HLx.out HGx.out.1 HGx.out.2 x12
              have x13 := hg1.cell _ _ _ HLx.out HGx.out.1 HGx.out.2 x13
              have x14 := hg1.cell _ _ _ HLx.out HGx.out.1 HGx.out.2 x14
              have x15 := hg1.cell _ _ _ HLx.out HGx.out.1 HGx.out.2 x15
              have x16 := hg1.cell _ _ _ HLx.out HGx.out.1 HGx.out.2 x16
              have x17 := hg1.cell _ _ _ HLx.out HGx.out.1 HGx.out.2 x17
              have x18 := hg1.cell _ _ _ HLx.out HGx.out.1 HGx.out.2 x18
              have x19 := hg1.cell _ _ _ HLx.out HGx.out.1 HGx.out.2 x19
              have xl := Nat.lt_of_lt_of_le xl hg1.size
              generalize hl1 : L1.length = l1 at *
              have HL1 := Lib.hid hl1
              clear hl1
              clear hx1 hm1 hp1 hg1 HTP
              have hgb : Gr w1 (w1.alloc (.cells #[.int .i64 k1, .int .i64 r1, .int .i64 n1, .slice a1 l1 c1, .string s1, .int .i64 y1] 36)) := (Gr.refl _).alloc
              have HB1 := Lib.hid (Cs.new w1 [.int .i64 k1, .int .i64 r1, .int .i64 n1, .slice a1 l1 c1, .string s1, .int .i64 y1] 36 _ rfl)
              have x1 := hgb.keep x1
              have x8 := hgb.keep x8
              have x9 := hgb.keep x9
              have x10 := hgb.keep x10
              have x11 := hgb.keep x11
              have x12 := hgb.keep x12
              have x13 := hgb.keep x13
              have x14 := hgb.keep x14
              have x15 := hgb.keep x15
              have x16 := hgb.keep x16
              have x17 := hgb.keep x17
              have x18 := hgb.keep x18
              have x19 := hgb.keep x19
              clear hgb
              go_wp2_with fail
              refine (HTR.out _ (HP1.out.gr ?_)).mono ?_
              · exact (by repeat(first|exact Gr.r _|refine Gr.a ?_|refine Gr.d ?_|refine Gr.t ?_ (by assumption)))
              rintro e2 w2 ⟨⟨⟨k2, r2, n2, L2, s2, y2⟩, a2, c2⟩, rfl, hx2, hm2, hk2, hp2, hg2⟩
              dsimp only [Mn.v] at *
              have HE2 := Lib.hid hx2
              have HN2 := Lib.hid hm2
              have HP2 := Lib.hid hp2
              have HN1b := Lib.hid (hk2 _ (HN1.out.gr (Gr.refl _).alloc))
              have HG2 : Hid (GB2 gl gr wB w2) := HG1.out.alloc.trans hg2
              have HL12 : Hid (gl < w1.heap.size ∧ gr < w1.heap.size) := ⟨HP1.out.p.lt, HP1.out.r.lt⟩
              have u0 := hg2.cell w1.heap.size 0 _ (by simp) (by have := HL12.out; omega) (by have := HL12.out; omega) (HB1.out.at_ 0 _ rfl)
              have u1 := hg2.cell w1.heap.size 1 _ (by simp) (by have := HL12.out; omega) (by have := HL12.out; omega) (HB1.out.at_ 1 _ rfl)
              have u2 := hg2.cell w1.heap.size 2 _ (by simp) (by have := HL12.out; omega) (by have := HL12.out; omega) (HB1.out.at_ 2 _ rfl)
              have u3 := hg2.cell w1.heap.size 3 _ (by simp) (by have := HL12.out; omega) (by have := HL12.out; omega) (HB1.out.at_ 3 _ rfl)
              have u4 := hg2.cell w1.heap.size 4 _ (by simp) (by have := HL12.out; omega) (by have := HL12.out; omega) (HB1.out.at_ 4 _ rfl)
              have u5 := hg2.cell w1.heap.size 5 _ (by simp) (by have := HL12.out; omega) (by have := HL12.out; omega) (HB1.out.at_ 5 _ rfl)
              have ul := Nat.lt_of_lt_of_le HB1.out.lt hg2.size
              generalize hl2 : L2.length = l2 at *
              have HL2 := Lib.hid hl2
              clear hl2
              clear hx2 hm2 hk2 hp2 hg2 HB1 HTR HN1 x1 x8 x9 x10 x11 x12 x13 x14 x15 x16 x17 x18 x19 xl HL12
              have HSm : Hid (∀ w3, Gr w2 w3 → Calls Tryz.prog 12 #[.agg #[.int .i64 k1, .int .i64 r1, .int .i64 n1, .slice a1 l1 c1, .string s1, .int .i64 y1], .agg #[.int .i64 k2, .int .i64 r2, .int .i64 n2, .slice a2 l2 c2, .string s2, .int .i64 y2]] w3 fun e w4 => e = .returned (.bool true) ∧ Gr w3 w4) := fun w3 g => by
                have := rSameN2_any ⟨⟨k1, r1, n1, L1, s1, y1⟩, a1, c1⟩ ⟨⟨k2, r2, n2, L2, s2, y2⟩, a2, c2⟩ w3 (HN1b.out.gr g) (HN2.out.gr g)
                rw [decide_eq_true (congrArg pk (HE1.out.trans HE2.out.symm))] at this
                rw [← HL1.out, ← HL2.out]
                exact this
              go_wp2_with fail
              refine (HSm.out _ ?_).mono ?_
              · exact (by repeat(first|exact Gr.r _|refine Gr.a ?_|refine Gr.d ?_|refine Gr.t ?_ (by assumption)))
              rintro e3 w3 ⟨rfl, hg3⟩
              have HG3 : Hid (Gr w2 w3) := (Gr.refl w2).alloc.trans hg3
              clear hg3 HSm
              go_wp2_with fail
              go_meet
              exact ⟨rfl, _, HTe.out, HP2.out.gr HG3.out, HG2.out.trans (GB2.ofGr HG3.out)⟩
            · skip
              have q0 : (zk == 0) = false := by rw [beq_eq_false_iff_ne]; exact p0
              have q2 : (zk == 2) = false := by rw [beq_eq_false_iff_ne]; exact p2
              clear p0 p2 x8 x9 x10 x11 x12 x13 x14 x15 x16 x17 x18 x19 x2 x3 x4 x5 x6 x7
              have HKe : Hid ((Lk.tickS CX l now).ep ≠ 0) := by show _ ≠ _; rw [tickS_ep]; exact HEp.out
              have HTP : Hid (∀ w1, Lp (Nc gl gr) w w1 gl gr l l → Calls Tryz.prog 14 #[.pointer (some ⟨gl, 0, none⟩), .int .i64 now] w1 fun e w' => (∃ a c D, e = .returned (.slice a D.length c) ∧ FrsN (Nc gl gr) w' a D ∧ frs D = Lk.tickF CX l now) ∧ Lp (Nc gl gr) w w' gl gr (Lk.tickS CX l now) l ∧ GB2 gl gr w1 w') := fun w1 h1 => lp_tickP h1 HEp.out now
              have HTR : Hid (∀ w1 A aA, Lp (Nc gl gr) w w1 gl gr (Lk.tickS CX l now) l → FrsN (Nc gl gr) w1 aA A → Calls Tryz.prog 15 #[.pointer (some ⟨gr, 0, none⟩), .int .i64 now] w1 fun e w' => (∃ a c D, e = .returned (.slice a D.length c) ∧ FrsN (Nc gl gr) w' a D ∧ frs D = Lk.tickF CX l now) ∧ FrsAt (Nc gl gr) w' aA A ∧ Lp (Nc gl gr) w w' gl gr (Lk.tickS CX l now) (Lk.tickS CX l now) ∧ GB2 gl gr w1 w') := fun w1 A aA h1 h2 => lp_tickR h1 now A aA h2
              generalize Lk.tickS CX l now = l2 at *
              generalize Lk.tickF CX l now = tf at *
              go_wp2_with fail
              refine wp_region_held_drew (S := (fun w' => GB2 gl gr wB w' ∧ w'.cell? ⟨gx, 1, none⟩ = some (.int .i64 now))) (by kernel_rfl) (by exact ⟨(by repeat (first | exact GB2.refl _ _ _ | exact hHeld.1 | refine GB2.alloc ?_ | refine GB2.drew ?_ | refine GB2.trans ?_ (by assumption))), GB2.cell (by repeat (first | exact GB2.refl _ _ _ | exact hHeld.1 | refine GB2.alloc ?_ | refine GB2.drew ?_ | refine GB2.trans ?_ (by assumption))) _ _ _ HLx.out HGx.out.1 HGx.out.2 x1⟩) (fun hHeld => ?_)
              refine ty 0 62 hHeld ?_
              refine ty 1 63 hHeld ?_
              refine ty 2 64 hHeld ?_
              refine ty 4 66 hHeld ?_
              refine ty 5 67 hHeld ?_
              refine ty 6 68 hHeld ?_
              refine wpAnyH_ready (rs := [3]) (by kernel_rfl) (by simp) (AllReadyH.cons rfl (fun K hK => ?_) AllReadyH.nil)
              go_simp
              (go_at_call 14; refine (HTP.out _ (HPB.out.gr (by repeat (first | exact Gr.refl _ | refine Gr.alloc ?_ | refine Gr.drew ?_)))).mono ?_; rintro e wn ⟨⟨aA, cA, A, rfl, hA, hAf⟩, hp1, hgn⟩)
              (try go_wp2_with fail)
              refine hK.out _ _ (by exact ⟨(by repeat (first | exact GB2.refl _ _ _ | exact hHeld.1 | refine GB2.alloc ?_ | refine GB2.drew ?_ | refine GB2.trans ?_ (by assumption))), GB2.cell (by repeat (first | exact GB2.refl _ _ _ | exact hHeld.1 | refine GB2.alloc ?_ | refine GB2.drew ?_ | refine GB2.trans ?_ (by assumption))) _ _ _ HLx.out HGx.out.1 HGx.out.2 x1⟩) (fun hHeldN => ?_)
              clear hHeld hK K
              have hHeld := hHeldN
              clear hHeldN
              refine wpAnyH_ready (rs := [7]) (by kernel_rfl) (by simp) (AllReadyH.cons rfl (fun K hK => ?_) AllReadyH.nil)
              go_simp
              (go_at_call 15; refine (HTR.out _ A aA hp1 hA).mono ?_; rintro e wn2 ⟨⟨aB, cB, B, rfl, hB, hBf⟩, hA2, hp2, hgn2⟩)
              (try go_wp2_with fail)
              refine hK.out _ _ (by exact ⟨(by repeat (first | exact GB2.refl _ _ _ | exact hHeld.1 | refine GB2.alloc ?_ | refine GB2.drew ?_ | refine GB2.trans ?_ (by assumption))), GB2.cell (by repeat (first | exact GB2.refl _ _ _ | exact hHeld.1 | refine GB2.alloc ?_ | refine GB2.drew ?_ | refine GB2.trans ?_ (by assumption))) _ _ _ HLx.out HGx.out.1 HGx.out.2 x1⟩) (fun hHeldN => ?_)
              clear hHeld hK K
              have hHeld := hHeldN
              clear hHeldN
              refine wpAnyH_ready (rs := [8]) (by kernel_rfl) (by simp) (AllReadyH.cons rfl (fun K hK => ?_) AllReadyH.nil)
              go_simp
              (go_at_call 13; refine (rSameR_yes A B aA cA aB cB _ hA2 hB.at_ hA.len (hAf.trans hBf.symm)).mono ?_; rintro e wn3 ⟨rfl, hg3⟩; have hgn3 := (GB2.ofGr (a := gl) (b := gr) hg3))
              (try go_wp2_with fail)
              refine hK.out _ _ (by exact ⟨(by repeat (first | exact GB2.refl _ _ _ | exact hHeld.1 | refine GB2.alloc ?_ | refine GB2.drew ?_ | refine GB2.trans ?_ (by assumption))), GB2.cell (by repeat (first | exact GB2.refl _ _ _ | exact hHeld.1 | refine GB2.alloc ?_ | refine GB2.drew ?_ | refine GB2.trans ?_ (by assumption))) _ _ _ HLx.out HGx.out.1 HGx.out.2 x1⟩) (fun hHeldN => ?_)
              clear hHeld hK K
              have hHeld := hHeldN
              clear hHeldN
              refine ty 9 13 hHeld ?_
              refine wpAnyH_done (by kernel_rfl) ?_ _
              go_wp2_with fail
              go_meet
              exact ⟨rfl, _, HKe.out, hp2.gr hg3, hHeld.1⟩
        case rest =>
          obtain ⟨rfl, hnx⟩ := hcut
          obtain ⟨l2, he2, hp2, hg2⟩ := hnx
          have HE2 := Lib.hid he2
          have HP2 := Lib.hid hp2
          have x2 := hg2.cell _ _ _ HLx.out HGx.out.1 HGx.out.2 x2
          have x3 := hg2.cell _ _ _ HLx.out HGx.out.1 HGx.out.2 x3
          have x4 := hg2.cell _ _ _ HLx.out HGx.out.1 HGx.out.2 x4
          have x5 := hg2.cell _ _ _ HLx.out HGx.out.1 HGx.out.2 x5
          have x6 := hg2.cell _ _ _ HLx.out HGx.out.1 HGx.out.2 x6
          have x7 := hg2.cell _ _ _ HLx.out HGx.out.1 HGx.out.2 x7
          have xl := Nat.lt_of_lt_of_le xl hg2.size
          clear he2 hg2 x0 x1 x8 x9 x10 x11 x12 x13 x14 x15 x16 x17 x18 x19 HPB HGB
          obtain ⟨ka, kc, kE, ka2, kc2, hk⟩ := hp2.r
          have e4 := hk.cs.at_ 4 _ rfl
          have e3 := hk.cs.at_ 3 _ rfl
          have elt := hk.cs.lt
          have hlen : l2.it.length = kE.length := by rw [← hk.rw.e, its_len]
          have HLn := Lib.hid hlen
          clear hk hlen hp2
          have HWg : Hid (∀ w1, Gr wc w1 → Calls Tryz.prog 16 #[.pointer (some ⟨gl, 0, none⟩)] w1 fun e w2 => e = .returned (.int .i64 (kE.length : Int)) ∧ w2 = w1) := fun w1 g => by
            have := kWaiting_any gl l2 w1 (HP2.out.p.gr g) HE2.out
            rw [HLn.out] at this
            exact this
          have HWp : Hid (∀ w1, Gr wc w1 → Calls Tryz.prog 17 #[.pointer (some ⟨gl, 0, none⟩), .agg #[.int .i64 k0, .int .i64 r0, .int .i64 n0, .slice ax ll cx, .string s0, .int .i64 y0]] w1 fun e w2 => e = .returned (.bool (Ox.hasB okN l2.it (pk ⟨k0, r0, n0, L0, s0, y0⟩))) ∧ Gr w1 w2) := fun w1 g => by
            have := kWaits_any gl l2 ⟨⟨k0, r0, n0, L0, s0, y0⟩, ax, cx⟩ w1 (HP2.out.p.gr g) HE2.out ((HP2.out.gr g).off HM1.out)
            rw [← HLl.out]
            exact this
          have HWr : Hid (∀ w1, Gr wc w1 → Calls Tryz.prog 18 #[.pointer (some ⟨gr, 0, none⟩), .agg #[.int .i64 k0, .int .i64 r0, .int .i64 n0, .slice ax ll cx, .string s0, .int .i64 y0]] w1 fun e w2 => e = .returned (.bool (Ox.hasB okN l2.it (pk ⟨k0, r0, n0, L0, s0, y0⟩))) ∧ Gr w1 w2) := fun w1 g => by
            have := rWaits_any gr l2 ⟨⟨k0, r0, n0, L0, s0, y0⟩, ax, cx⟩ w1 (HP2.out.r.gr g) ((HP2.out.gr g).off HM1.out)
            rw [← HLl.out]
            exact this
          have HPe : Hid (∀ w1, Gr wc w1 → Calls Tryz.prog 19 #[.pointer (some ⟨gl, 0, none⟩)] w1 fun e w2 => e = .returned (.int .i64 l2.kn) ∧ w2 = w1) := fun w1 g => kPeer_any gl l2 w1 (HP2.out.p.gr g) HE2.out
          generalize Ox.hasB okN l2.it (pk ⟨k0, r0, n0, L0, s0, y0⟩) = hb at *
          generalize l2.kn = kn at *
          generalize kE.length = el at *
          go_wp2_with fail
          refine wp_region_held_drew (S := (fun w' => Gr wc w' ∧ w'.cell? ⟨gr, 4, none⟩ = some (.slice ka el kc) ∧ w'.cell? ⟨gr, 3, none⟩ = some (.int .i64 kn) ∧ w'.cell? ⟨gx, 2, none⟩ = some (.int .i64 k0) ∧ w'.cell? ⟨gx, 3, none⟩ = some (.int .i64 r0) ∧ w'.cell? ⟨gx, 4, none⟩ = some (.int .i64 n0) ∧ w'.cell? ⟨gx, 5, none⟩ = some (.slice ax ll cx) ∧ w'.cell? ⟨gx, 6, none⟩ = some (.string s0) ∧ w'.cell? ⟨gx, 7, none⟩ = some (.int .i64 y0))) (by kernel_rfl) (by exact ⟨(by repeat(first|exact Gr.r _|refine Gr.a ?_|refine Gr.d ?_|refine Gr.t ?_ (by assumption))), Gr.keep (by repeat(first|exact Gr.r _|refine Gr.a ?_|refine Gr.d ?_|refine Gr.t ?_ (by assumption))) e4, Gr.keep (by repeat(first|exact Gr.r _|refine Gr.a ?_|refine Gr.d ?_|refine Gr.t ?_ (by assumption))) e3, Gr.keep (by repeat(first|exact Gr.r _|refine Gr.a ?_|refine Gr.d ?_|refine Gr.t ?_ (by assumption))) x2, Gr.keep (by repeat(first|exact Gr.r _|refine Gr.a ?_|refine Gr.d ?_|refine Gr.t ?_ (by assumption))) x3, Gr.keep (by repeat(first|exact Gr.r _|refine Gr.a ?_|refine Gr.d ?_|refine Gr.t ?_ (by assumption))) x4, Gr.keep (by repeat(first|exact Gr.r _|refine Gr.a ?_|refine Gr.d ?_|refine Gr.t ?_ (by assumption))) x5, Gr.keep (by repeat(first|exact Gr.r _|refine Gr.a ?_|refine Gr.d ?_|refine Gr.t ?_ (by assumption))) x6, Gr.keep (by repeat(first|exact Gr.r _|refine Gr.a ?_|refine Gr.d ?_|refine Gr.t ?_ (by assumption))) x7⟩) (fun hHeld => ?_)
          refine ty 0 123 hHeld ?_
          refine ty 1 124 hHeld ?_
          refine ty 2 125 hHeld ?_
          refine ty 3 126 hHeld ?_
          refine ty 5 128 hHeld ?_
          refine ty 6 129 hHeld ?_
          refine ty 7 130 hHeld ?_
          refine ty 8 131 hHeld ?_
          refine ty 9 132 hHeld ?_
          refine wpAnyH_ready (rs := [4]) (by kernel_rfl) (by simp) (AllReadyH.cons rfl (fun K hK => ?_) AllReadyH.nil)
          go_simp
          (go_at_call 16; refine (HWg.out _ hHeld.1).mono ?_; rintro e wn ⟨rfl, hwn⟩; obtain rfl := hwn.symm)
          (try go_wp2_with fail)
          refine hK.out _ _ (by exact ⟨(by repeat(first|exact Gr.r _|refine Gr.a ?_|refine Gr.d ?_|refine Gr.t ?_ (by assumption))), Gr.keep (by repeat(first|exact Gr.r _|refine Gr.a ?_|refine Gr.d ?_|refine Gr.t ?_ (by assumption))) e4, Gr.keep (by repeat(first|exact Gr.r _|refine Gr.a ?_|refine Gr.d ?_|refine Gr.t ?_ (by assumption))) e3, Gr.keep (by repeat(first|exact Gr.r _|refine Gr.a ?_|refine Gr.d ?_|refine Gr.t ?_ (by assumption))) x2, Gr.keep (by repeat(first|exact Gr.r _|refine Gr.a ?_|refine Gr.d ?_|refine Gr.t ?_ (by assumption))) x3, Gr.keep (by repeat(first|exact Gr.r _|refine Gr.a ?_|refine Gr.d ?_|refine Gr.t ?_ (by assumption))) x4, Gr.keep (by repeat(first|exact Gr.r _|refine Gr.a ?_|refine Gr.d ?_|refine Gr.t ?_ (by assumption))) x5, Gr.keep (by repeat(first|exact Gr.r _|refine Gr.a ?_|refine Gr.d ?_|refine Gr.t ?_ (by assumption))) x6, Gr.keep (by repeat(first|exact Gr.r _|refine Gr.a ?_|refine Gr.d ?_|refine Gr.t ?_ (by assumption))) x7⟩) (fun hHeldN => ?_)
          clear hHeld hK K
          have hHeld := hHeldN
          clear hHeldN
          refine ty 10 133 hHeld ?_
          refine ty 11 134 hHeld ?_
          refine ty 12 135 hHeld ?_
          refine ty 13 136 hHeld ?_
          refine ty 14 137 hHeld ?_
          refine ty 15 138 hHeld ?_
          refine ty 17 140 hHeld ?_
          refine ty 18 141 hHeld ?_
          refine ty 19 142 hHeld ?_
          refine wpAnyH_ready (rs := [16]) (by kernel_rfl) (by simp) (AllReadyH.cons rfl (fun K hK => ?_) AllReadyH.nil)
          go_simp
          (go_at_call 17; refine (HWp.out _ hHeld.1).mono ?_; rintro e wn ⟨rfl, hgn⟩)
          (try go_wp2_with fail)
          refine hK.out _ _ (by exact ⟨(by repeat(first|exact Gr.r _|refine Gr.a ?_|refine Gr.d ?_|refine Gr.t ?_ (by assumption))), Gr.keep (by repeat(first|exact Gr.r _|refine Gr.a ?_|refine Gr.d ?_|refine Gr.t ?_ (by assumption))) e4, Gr.keep (by repeat(first|exact Gr.r _|refine Gr.a ?_|refine Gr.d ?_|refine Gr.t ?_ (by assumption))) e3, Gr.keep (by repeat(first|exact Gr.r _|refine Gr.a ?_|refine Gr.d ?_|refine Gr.t ?_ (by assumption))) x2, Gr.keep (by repeat(first|exact Gr.r _|refine Gr.a ?_|refine Gr.d ?_|refine Gr.t ?_ (by assumption))) x3, Gr.keep (by repeat(first|exact Gr.r _|refine Gr.a ?_|refine Gr.d ?_|refine Gr.t ?_ (by assumption))) x4, Gr.keep (by repeat(first|exact Gr.r _|refine Gr.a ?_|refine Gr.d ?_|refine Gr.t ?_ (by assumption))) x5, Gr.keep (by repeat(first|exact Gr.r _|refine Gr.a ?_|refine Gr.d ?_|refine Gr.t ?_ (by assumption))) x6, Gr.keep (by repeat(first|exact Gr.r _|refine Gr.a ?_|refine Gr.d ?_|refine Gr.t ?_ (by assumption))) x7⟩) (fun hHeldN => ?_)
          clear hHeld hK K
          have hHeld := hHeldN
          clear hHeldN
          refine wpAnyH_ready (rs := [20]) (by kernel_rfl) (by simp) (AllReadyH.cons rfl (fun K hK => ?_) AllReadyH.nil)
          go_simp
          (go_at_call 18; refine (HWr.out _ hHeld.1).mono ?_; rintro e wn ⟨rfl, hgn⟩)
          (try go_wp2_with fail)
          refine hK.out _ _ (by exact ⟨(by repeat(first|exact Gr.r _|refine Gr.a ?_|refine Gr.d ?_|refine Gr.t ?_ (by assumption))), Gr.keep (by repeat(first|exact Gr.r _|refine Gr.a ?_|refine Gr.d ?_|refine Gr.t ?_ (by assumption))) e4, Gr.keep (by repeat(first|exact Gr.r _|refine Gr.a ?_|refine Gr.d ?_|refine Gr.t ?_ (by assumption))) e3, Gr.keep (by repeat(first|exact Gr.r _|refine Gr.a ?_|refine Gr.d ?_|refine Gr.t ?_ (by assumption))) x2, Gr.keep (by repeat(first|exact Gr.r _|refine Gr.a ?_|refine Gr.d ?_|refine Gr.t ?_ (by assumption))) x3, Gr.keep (by repeat(first|exact Gr.r _|refine Gr.a ?_|refine Gr.d ?_|refine Gr.t ?_ (by assumption))) x4, Gr.keep (by repeat(first|exact Gr.r _|refine Gr.a ?_|refine Gr.d ?_|refine Gr.t ?_ (by assumption))) x5, Gr.keep (by repeat(first|exact Gr.r _|refine Gr.a ?_|refine Gr.d ?_|refine Gr.t ?_ (by assumption))) x6, Gr.keep (by repeat(first|exact Gr.r _|refine Gr.a ?_|refine Gr.d ?_|refine Gr.t ?_ (by assumption))) x7⟩) (fun hHeldN => ?_)
          clear hHeld hK K
          have hHeld := hHeldN
          clear hHeldN
          refine ty 21 144 hHeld ?_
          refine ty 22 145 hHeld ?_
          refine ty 23 146 hHeld ?_
          refine ty 24 147 hHeld ?_
          refine ty 26 149 hHeld ?_
          refine ty 27 150 hHeld ?_
          refine ty 28 151 hHeld ?_
          refine ty 29 152 hHeld ?_
          refine wpAnyH_ready (rs := [25]) (by kernel_rfl) (by simp) (AllReadyH.cons rfl (fun K hK => ?_) AllReadyH.nil)
          go_simp
          (go_at_call 19; refine (HPe.out _ hHeld.1).mono ?_; rintro e wn ⟨rfl, hwn⟩; obtain rfl := hwn.symm)
          (try go_wp2_with fail)
          refine hK.out _ _ (by exact ⟨(by repeat(first|exact Gr.r _|refine Gr.a ?_|refine Gr.d ?_|refine Gr.t ?_ (by assumption))), Gr.keep (by repeat(first|exact Gr.r _|refine Gr.a ?_|refine Gr.d ?_|refine Gr.t ?_ (by assumption))) e4, Gr.keep (by repeat(first|exact Gr.r _|refine Gr.a ?_|refine Gr.d ?_|refine Gr.t ?_ (by assumption))) e3, Gr.keep (by repeat(first|exact Gr.r _|refine Gr.a ?_|refine Gr.d ?_|refine Gr.t ?_ (by assumption))) x2, Gr.keep (by repeat(first|exact Gr.r _|refine Gr.a ?_|refine Gr.d ?_|refine Gr.t ?_ (by assumption))) x3, Gr.keep (by repeat(first|exact Gr.r _|refine Gr.a ?_|refine Gr.d ?_|refine Gr.t ?_ (by assumption))) x4, Gr.keep (by repeat(first|exact Gr.r _|refine Gr.a ?_|refine Gr.d ?_|refine Gr.t ?_ (by assumption))) x5, Gr.keep (by repeat(first|exact Gr.r _|refine Gr.a ?_|refine Gr.d ?_|refine Gr.t ?_ (by assumption))) x6, Gr.keep (by repeat(first|exact Gr.r _|refine Gr.a ?_|refine Gr.d ?_|refine Gr.t ?_ (by assumption))) x7⟩) (fun hHeldN => ?_)
          clear hHeld hK K
          have hHeld := hHeldN
          clear hHeldN
          refine ty 30 153 hHeld ?_
          refine ty 31 154 hHeld ?_
          refine wpAnyH_done (by kernel_rfl) ?_ _
          have HG := Lib.hid hHeld.1
          clear hHeld e3 e4 elt x2 x3 x4 x5 x6 x7 xl
          go_wp2
          go_roundw
          case rel => exact ⟨j + 1, l2, by go_num, by omega, HE2.out, HP2.out.gr HG.out⟩
          case measure => simp [intOf]; omega
      · have hge : ¬ ((j : Int) < (D.length : Int)) := by omega
        have hge2 : decide ((j : Int) < (D.length : Int)) = false := decide_eq_false hge
        have hge3 : decide (j < D.length) = false := decide_eq_false hlt
        go_wp2_with fail
        refine (HA.out _).mono ?_
        rintro e4 w4 ⟨rfl, hg4⟩
        go_wp2
        go_ret
        exact ⟨rfl, HP.out.up.trans hg4⟩
theorem linkPlays_walk (me ep : Int) (D : List Ma) (ad : Option Addr) (cap : Nat) (w : World) (hD : ActsAt w ad D) (hn : D.length ≤ 9223372036854775807) :
    Calls Tryz.prog 3 #[.int .i64 me, .int .i64 ep, .slice ad D.length cap] w fun e w' => e = .returned (.bool true) ∧ Gr w w' := by
  cases hb : Lk.newB me 1 ep with
  | false => exact plays_no me ep D ad cap w hD hn hb
  | true => exact plays_main me ep D ad cap w hD hn hb

set_option maxRecDepth 100000 in
theorem linkPlays_lifted (os : Os) (started : os.Started) (H : Type) (enc : TypeId × Value → H) :
    ReturnsInHanded {} Tryz.checked os 3 .any (Rows.linkPlaysSpec.pre6 enc Tryz.prog Tryz.f3 Rows.linkPlaysRow.domain false) (Rows.linkPlaysSpec.post enc Tryz.prog Tryz.f3 false true false false) := by
  refine returnsInHanded_of_change (C := Tryz.checked) own2 started (by kernel_rfl) Tryz.func3
    (ChangeSpec.witness6 (enc := enc) (C := Tryz.checked) false ⟨#[], #[.int .i64 0, .int .i64 0, .slice none 0 0], []⟩ 8 (by kernel_rfl) (by kernel_rfl) (by kernel_rfl) (by kernel_rfl)) ?_
  intro W base args ds gs before hval0 hW hcnd _
  have hval : ∀ (j : Nat) t v, Tryz.f3.params[j]? = some t → args[j]? = some v → Value.okWide Tryz.prog W .any base t v := hval0
  have hW' := hW
  obtain ⟨p, q, hA0, hV, rfl, hfz, hnd⟩ := hW
  have hA : DataW.TrodAll enc Tryz.prog W 0 (fun _ => true) true Tryz.f3.params.toList args.toList ds p := hA0
  rw [Tryz.params3] at hA hval
  obtain ⟨v0, v1, v2, d0, d1, d2, p0, p1, p2, rfl, rfl, rfl, q0, q1, q2⟩ := trodAll_three hA
  obtain ⟨rfl, rfl⟩ := trodVars_none hV
  have k2 := q2
  have lt2 : ∀ x ∈ p2, x.block < W.heap.size := by obtain ⟨m, hm⟩ := k2; exact DataW.trod_lt m _ _ _ hm
  obtain ⟨a0, rfl, rfl, rfl, wa0⟩ := open_int Tryz.underlying3 (hval 0 3 v0 rfl rfl) q0
  have rg0 := rng_i64 wa0
  obtain ⟨a1, rfl, rfl, rfl, wa1⟩ := open_int Tryz.underlying3 (hval 1 3 v1 rfl rfl) q1
  have rg1 := rng_i64 wa1
  obtain ⟨ad2, cap2, D2, rfl, hD2, hn2⟩ := open_lacts (hval 2 22 v2 rfl rfl) q2
  clear hA0 hval0
  refine (linkPlays_walk a0 a1 D2 ad2 cap2 W hD2 hn2).mono fun e W' ⟨he, hg⟩ => ?_
  subst he
  exact ⟨_, rfl, _, _, _, [], _, [], hW', trodAll_mk1 (shut_bool Tryz.underlying4 _), trodAll_mk3 (shut_int Tryz.underlying3 wa0) (shut_int Tryz.underlying3 wa1) (Below.trod laidOut2 (by kernel_rfl) (of_decide_eq_true (by kernel_rfl)) k2 hg.below lt2), rfl, hg.below.frame _, fun h => by cases h⟩

theorem linkPlays_holds : Rows.LinkPlaysSaid :=
  OpenClaim.holds_of_wide 3 Tryz.f3 rfl rfl rfl rfl rfl rfl rfl ⟨rfl, rfl, rfl, rfl, rfl⟩ rfl rfl rfl rfl rfl (by kernel_rfl) Tryz.func3 (by kernel_rfl)
    (of_decide_eq_true (by kernel_rfl)) (by unfold Func.isWrapper; first | (rw [if_pos (by decide +kernel)]; kernel_rfl) | (rw [if_neg (by decide +kernel)]; exact ⟨rfl, rfl⟩))
    (fun os started H enc _ => linkPlays_lifted os started H enc)
end Go.Proofs.YthfbpilfdfploaaGreat
