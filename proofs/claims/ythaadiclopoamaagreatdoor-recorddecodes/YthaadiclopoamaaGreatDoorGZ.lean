/- Parts of these proofs, laid together. -/
import Derived.Test.YthaadiclopoamaaGreatDoorGT
import Derived.Test.YthaadiclopoamaaGreatDoorGY
import Derived.Test.YthaadiclopoamaaGreatDoorGS
/- record: Decode. -/
set_option maxRecDepth 100000
set_option maxHeartbeats 8000000
namespace Go.Proofs.YthaadiclopoamaaGreatDoor
open Go.RowKit
open Df (Stp)

/- a record that is told, beside an error -/
def DecR (X : Rc) (E : Int) (w : World) (e : Ending) (w' : World) : Prop :=
 ∃ a1 c1 a2 c2 a3 c3, e = .returned (.tuple #[.agg #[.int .i64 X.k, .int .i64 X.m.k, .int .i64 X.m.r, .int .i64 X.m.n, .slice a1 X.m.L.length c1, .int .i64 X.m.s, .int .i64 X.m.y, .string X.m.d, .slice a2 X.m.S.length c2, .string X.a, .int .i64 X.v, .string X.d, .slice a3 X.S.length c3, .string X.t], .int .i64 E]) /\ RcIn w' X a1 c1 a2 c2 a3 c3 /\ Gr w w'
theorem RcIn.far14 {w : World} {x : Rc} {a1 a2 a3 : Option Addr} {c1 c2 c3 : Nat} (h : RcIn w x a1 c1 a2 c2 a3 c3) (g : Nat) (h1 : ∀ a, a1 = some a -> g ≠ a.block) (h2 : ∀ a, a2 = some a -> g ≠ a.block) (h3 : ∀ a, a3 = some a -> g ≠ a.block) (v0 v1 v2 v3 v4 v5 v6 v7 v8 v9 v10 v11 v12 v13 : Value) : RcIn ((((((((((((((w.setCell ⟨g, 0, none⟩ v0).setCell ⟨g, 1, none⟩ v1).setCell ⟨g, 2, none⟩ v2).setCell ⟨g, 3, none⟩ v3).setCell ⟨g, 4, none⟩ v4).setCell ⟨g, 5, none⟩ v5).setCell ⟨g, 6, none⟩ v6).setCell ⟨g, 7, none⟩ v7).setCell ⟨g, 8, none⟩ v8).setCell ⟨g, 9, none⟩ v9).setCell ⟨g, 10, none⟩ v10).setCell ⟨g, 11, none⟩ v11).setCell ⟨g, 12, none⟩ v12).setCell ⟨g, 13, none⟩ v13) x a1 c1 a2 c2 a3 c3 :=
 ⟨⟨h.mv.hops.far14 g h1 v0 v1 v2 v3 v4 v5 v6 v7 v8 v9 v10 v11 v12 v13, StpsAt.far14 h.mv.stps g h2 v0 v1 v2 v3 v4 v5 v6 v7 v8 v9 v10 v11 v12 v13, h.mv.nL, h.mv.nS, h.mv.nd, h.mv.inS⟩, StpsAt.far14 h.stps g h3 v0 v1 v2 v3 v4 v5 v6 v7 v8 v9 v10 v11 v12 v13, h.nS, h.nd, h.inS, h.na, h.nt⟩

theorem decR_any (s : ByteArray) (w : World) (hs : s.size <= 140737488355328) (hF : Forms w) (he : Env w) :
  Calls Tryz.prog 18 #[.string s] w fun e w' => DecR (Rc.dcR s.data.toList) (Rc.dcE s.data.toList) w e w' := by
 have hsz : s.data.toList.length = s.size := by simp
 have HR : Hid (∀ (w' : World) (g : Nat), w.heap.size <= g -> Gr w w' -> Rdr w' g s ((0 : Nat) : Int) -> Calls Tryz.prog 49 #[.pointer (some ⟨g, 0, none⟩)] w' fun e w2 => RrcR g (Rc.rd s.data.toList) w' e w2) := fun w' g hg h1 h2 => rrec_any g s w w' h2 hs he h1 hg
 have hsm := rd_sm s.data.toList
 have HB : Hid (Rc.dcB s.data.toList = (Rc.rcB (Rc.rd s.data.toList) && decide (Rc.bd (Rc.rd s.data.toList) = s.data.toList))) := rfl
 have HX : Hid (Rc.dcR s.data.toList = if Rc.dcB s.data.toList = true then Rc.rd s.data.toList else Rc.zR) := rfl
 have HE : Hid (Rc.dcE s.data.toList = if Rc.dcB s.data.toList = true then 0 else 140) := rfl
 unfold DecR
 unfold RrcR at HR
 generalize Rc.dcR s.data.toList = RX at *
 generalize Rc.dcE s.data.toList = RE at *
 generalize Rc.dcB s.data.toList = RB at *
 generalize Rc.rd s.data.toList = X at *
 obtain ⟨k, ⟨mk, r, n, mL, s2, y, md, T⟩, a, v, d, S, t⟩ := X
 simp only at HR
 rw [hsz] at hsm
 have HN : Hid (∀ (w' : World) (a1 : Option Addr) (c1 : Nat) (a2 : Option Addr) (c2 : Nat) (a3 : Option Addr) (c3 : Nat), Gr w w' -> RcIn w' ⟨k, ⟨mk, r, n, mL, s2, y, md, T⟩, a, v, d, S, t⟩ a1 c1 a2 c2 a3 c3 -> Calls Tryz.prog 16 #[.agg #[.int .i64 k, .int .i64 mk, .int .i64 r, .int .i64 n, .slice a1 mL.length c1, .int .i64 s2, .int .i64 y, .string md, .slice a2 T.length c2, .string a, .int .i64 v, .string d, .slice a3 S.length c3, .string t]] w' fun e w2 => e = .returned (.tuple #[.string ⟨(if Rc.rcB ⟨k, ⟨mk, r, n, mL, s2, y, md, T⟩, a, v, d, S, t⟩ = true then Rc.bd ⟨k, ⟨mk, r, n, mL, s2, y, md, T⟩, a, v, d, S, t⟩ else []).toArray⟩, .int .i64 (if Rc.rcB ⟨k, ⟨mk, r, n, mL, s2, y, md, T⟩, a, v, d, S, t⟩ = true then 0 else 140)]) /\ Gr w' w2) := fun w' a1 c1 a2 c2 a3 c3 g h => encR_any k mk r n mL s2 y md T a v d S t a1 c1 a2 c2 a3 c3 w' h (hF.gr g) (he.gr g)
 have HI : Hid (∀ (w' : World) (a1 : Option Addr) (c1 : Nat) (a2 : Option Addr) (c2 : Nat) (a3 : Option Addr) (c3 : Nat), HopsAt w' a1 mL -> StpsAt w' a2 T -> StpsAt w' a3 S -> RcIn w' ⟨k, ⟨mk, r, n, mL, s2, y, md, T⟩, a, v, d, S, t⟩ a1 c1 a2 c2 a3 c3) := fun w' a1 c1 a2 c2 a3 c3 h1 h2 h3 => hsm.rcIn hs h1 h2 h3
 generalize hX : (⟨k, ⟨mk, r, n, mL, s2, y, md, T⟩, a, v, d, S, t⟩ : Rc) = X at *
 clear hsm hs hF he hsz
 cases hc : Rc.rcB X with
 | false =>
  rw [hc] at HN HB
  clear hc
  rw [if_neg (by decide), if_neg (by decide)] at HN
  obtain rfl : RB = false := HB.out
  rw [if_neg (by decide)] at HX HE
  clear HB
  go_enter Tryz.func18, Tryz.ntmps18
  go_wp2_with fail
  refine (HR.out _ _ ?_ ?_ (Cs.new _ [.string s, .int .i64 ((0 : Nat) : Int)] 77 _ (by simp))).mono ?_
  ·omega
  ·exact (by repeat(first|exact Gr.r _|refine Gr.a ?_|refine Gr.d ?_|refine Gr.t ?_ (by assumption)))
  rintro e4 w1 ⟨a1, c1, a2, c2, a3, c3, rfl, h1, h2, h3, f1, f2, f3, g1⟩
  have R1 := Lib.hid (g1.cs ((Cs.new w _ _ _ rfl).alloc) (by omega))
  have G1 : Hid (Gr w w1) := Gr.gb ((Gr.refl w).alloc.alloc) g1 (by omega)
  have I1 : Hid (RcIn w1 X a1 c1 a2 c2 a3 c3) := HI.out w1 a1 c1 a2 c2 a3 c3 h1 h2 h3
  have F1 : Hid (∀ a, a1 = some a -> w.heap.size < a.block) := fun a e => by have := f1 a e; simp at this; omega
  have F2 : Hid (∀ a, a2 = some a -> w.heap.size < a.block) := fun a e => by have := f2 a e; simp at this; omega
  have F3 : Hid (∀ a, a3 = some a -> w.heap.size < a.block) := fun a e => by have := f3 a e; simp at this; omega
  clear h1 h2 h3 f1 f2 f3 g1
  have lt1 := R1.out.lt
  go_wp2_with fail
  refine (HN.out _ _ _ _ _ _ _ ?_ ?_).mono ?_
  ·exact G1.out.alloc
  ·exact I1.out.gr (Gr.refl _).alloc
  rintro e5 w2 ⟨rfl, hg2⟩
  have G2 : Hid (Gr w w2) := G1.out.alloc.trans hg2
  have I2 : Hid (RcIn w2 X a1 c1 a2 c2 a3 c3) := I1.out.gr ((Gr.refl _).alloc.trans hg2)
  have R2 := Lib.hid (R1.out.alloc.gr hg2)
  have X2 := Lib.hid ((Cs.new w1 _ _ _ rfl).gr hg2)
  clear hg2
  have r2 := R2.out
  obtain ⟨z0, z1, z2, z3, z4, z5, z6, z7, z8, z9, z10, z11, z12, z13, zf0, zf1, zf2, zf3, zf4, zf5, zf6, zf7, zf8, zf9, zf10, zf11, zf12, zf13, zlt⟩ := r2.d14
  have x2 := X2.out
  obtain ⟨x0', x1', x2', x3', x4', x5', x6', x7', x8', x9', x10', x11', x12', x13', xlt⟩ := x2.c14
  clear r2 x2
  have hnn : w1.heap.size ≠ w.heap.size := by omega
  go_wp2
  have Q := Cs.fill14 R2.out rfl (.int .i64 0) (.int .i64 0) (.int .i64 0) (.int .i64 0) (.slice none 0 0) (.int .i64 0) (.int .i64 0) (.string ⟨#[]⟩) (.slice none 0 0) (.string ⟨#[]⟩) (.int .i64 0) (.string ⟨#[]⟩) (.slice none 0 0) (.string ⟨#[]⟩)
  obtain ⟨k0', k1', k2', k3', k4', k5', k6', k7', k8', k9', k10', k11', k12', k13', klt⟩ := Q.c14
  clear Q
  exact bodyPost_ret (v := .tuple #[.agg #[.int .i64 0, .int .i64 0, .int .i64 0, .int .i64 0, .slice none 0 0, .int .i64 0, .int .i64 0, .string ⟨#[]⟩, .slice none 0 0, .string ⟨#[]⟩, .int .i64 0, .string ⟨#[]⟩, .slice none 0 0, .string ⟨#[]⟩], .int .i64 140]) (by simp [results, Tryz.results18, go_sem, *]) rfl (by
   rw [HX.out, HE.out]
   exact ⟨none, 0, none, 0, none, 0, rfl, zR_in _, G2.out.set14 w.heap.size (Nat.le_refl _) _ _ _ _ _ _ _ _ _ _ _ _ _ _⟩)
 | true =>
  rw [hc, Bool.true_and] at HB
  rw [hc] at HN
  clear hc
  by_cases hbd : Rc.bd X = s.data.toList
  ·rw [if_pos rfl, if_pos rfl] at HN
   obtain rfl : RB = true := by rw [HB.out, decide_eq_true hbd]
   have hq : ((⟨(Rc.bd X).toArray⟩ : ByteArray).toList == s.toList) = true := by rw [ByteArray.toList_eq, ByteArray.toList_eq]; simpa using hbd
   generalize (⟨(Rc.bd X).toArray⟩ : ByteArray) = bt at *
   rw [if_pos rfl] at HX HE
   clear HB hbd
   go_enter Tryz.func18, Tryz.ntmps18
   go_wp2_with fail
   refine (HR.out _ _ ?_ ?_ (Cs.new _ [.string s, .int .i64 ((0 : Nat) : Int)] 77 _ (by simp))).mono ?_
   ·omega
   ·exact (by repeat(first|exact Gr.r _|refine Gr.a ?_|refine Gr.d ?_|refine Gr.t ?_ (by assumption)))
   rintro e4 w1 ⟨a1, c1, a2, c2, a3, c3, rfl, h1, h2, h3, f1, f2, f3, g1⟩
   have R1 := Lib.hid (g1.cs ((Cs.new w _ _ _ rfl).alloc) (by omega))
   have G1 : Hid (Gr w w1) := Gr.gb ((Gr.refl w).alloc.alloc) g1 (by omega)
   have I1 : Hid (RcIn w1 X a1 c1 a2 c2 a3 c3) := HI.out w1 a1 c1 a2 c2 a3 c3 h1 h2 h3
   have F1 : Hid (∀ a, a1 = some a -> w.heap.size < a.block) := fun a e => by have := f1 a e; simp at this; omega
   have F2 : Hid (∀ a, a2 = some a -> w.heap.size < a.block) := fun a e => by have := f2 a e; simp at this; omega
   have F3 : Hid (∀ a, a3 = some a -> w.heap.size < a.block) := fun a e => by have := f3 a e; simp at this; omega
   clear h1 h2 h3 f1 f2 f3 g1
   have lt1 := R1.out.lt
   go_wp2_with fail
   refine (HN.out _ _ _ _ _ _ _ ?_ ?_).mono ?_
   ·exact G1.out.alloc
   ·exact I1.out.gr (Gr.refl _).alloc
   rintro e5 w2 ⟨rfl, hg2⟩
   have G2 : Hid (Gr w w2) := G1.out.alloc.trans hg2
   have I2 : Hid (RcIn w2 X a1 c1 a2 c2 a3 c3) := I1.out.gr ((Gr.refl _).alloc.trans hg2)
   have R2 := Lib.hid (R1.out.alloc.gr hg2)
   have X2 := Lib.hid ((Cs.new w1 _ _ _ rfl).gr hg2)
   clear hg2
   have r2 := R2.out
   obtain ⟨z0, z1, z2, z3, z4, z5, z6, z7, z8, z9, z10, z11, z12, z13, zf0, zf1, zf2, zf3, zf4, zf5, zf6, zf7, zf8, zf9, zf10, zf11, zf12, zf13, zlt⟩ := r2.d14
   have x2 := X2.out
   obtain ⟨x0', x1', x2', x3', x4', x5', x6', x7', x8', x9', x10', x11', x12', x13', xlt⟩ := x2.c14
   clear r2 x2
   have hnn : w1.heap.size ≠ w.heap.size := by omega
   go_wp2
   have Q := Cs.fill14 R2.out rfl (.int .i64 k) (.int .i64 mk) (.int .i64 r) (.int .i64 n) (.slice a1 mL.length c1) (.int .i64 s2) (.int .i64 y) (.string md) (.slice a2 T.length c2) (.string a) (.int .i64 v) (.string d) (.slice a3 S.length c3) (.string t)
   obtain ⟨k0', k1', k2', k3', k4', k5', k6', k7', k8', k9', k10', k11', k12', k13', klt⟩ := Q.c14
   clear Q
   subst hX
   exact bodyPost_ret (v := .tuple #[.agg #[.int .i64 k, .int .i64 mk, .int .i64 r, .int .i64 n, .slice a1 mL.length c1, .int .i64 s2, .int .i64 y, .string md, .slice a2 T.length c2, .string a, .int .i64 v, .string d, .slice a3 S.length c3, .string t], .int .i64 0]) (by simp [results, Tryz.results18, go_sem, *]) rfl (by
    rw [HX.out, HE.out]
    exact ⟨a1, c1, a2, c2, a3, c3, rfl, I2.out.far14 w.heap.size (fun a e => by have := F1.out a e; omega) (fun a e => by have := F2.out a e; omega) (fun a e => by have := F3.out a e; omega) _ _ _ _ _ _ _ _ _ _ _ _ _ _, G2.out.set14 w.heap.size (Nat.le_refl _) _ _ _ _ _ _ _ _ _ _ _ _ _ _⟩)
  ·rw [if_pos rfl, if_pos rfl] at HN
   obtain rfl : RB = false := by rw [HB.out, decide_eq_false hbd]
   have hq : ((⟨(Rc.bd X).toArray⟩ : ByteArray).toList == s.toList) = false := by rw [ByteArray.toList_eq, ByteArray.toList_eq]; simpa using hbd
   generalize (⟨(Rc.bd X).toArray⟩ : ByteArray) = bt at *
   rw [if_neg (by decide)] at HX HE
   clear HB hbd
   go_enter Tryz.func18, Tryz.ntmps18
   go_wp2_with fail
   refine (HR.out _ _ ?_ ?_ (Cs.new _ [.string s, .int .i64 ((0 : Nat) : Int)] 77 _ (by simp))).mono ?_
   ·omega
   ·exact (by repeat(first|exact Gr.r _|refine Gr.a ?_|refine Gr.d ?_|refine Gr.t ?_ (by assumption)))
   rintro e4 w1 ⟨a1, c1, a2, c2, a3, c3, rfl, h1, h2, h3, f1, f2, f3, g1⟩
   have R1 := Lib.hid (g1.cs ((Cs.new w _ _ _ rfl).alloc) (by omega))
   have G1 : Hid (Gr w w1) := Gr.gb ((Gr.refl w).alloc.alloc) g1 (by omega)
   have I1 : Hid (RcIn w1 X a1 c1 a2 c2 a3 c3) := HI.out w1 a1 c1 a2 c2 a3 c3 h1 h2 h3
   have F1 : Hid (∀ a, a1 = some a -> w.heap.size < a.block) := fun a e => by have := f1 a e; simp at this; omega
   have F2 : Hid (∀ a, a2 = some a -> w.heap.size < a.block) := fun a e => by have := f2 a e; simp at this; omega
   have F3 : Hid (∀ a, a3 = some a -> w.heap.size < a.block) := fun a e => by have := f3 a e; simp at this; omega
   clear h1 h2 h3 f1 f2 f3 g1
   have lt1 := R1.out.lt
   go_wp2_with fail
   refine (HN.out _ _ _ _ _ _ _ ?_ ?_).mono ?_
   ·exact G1.out.alloc
   ·exact I1.out.gr (Gr.refl _).alloc
   rintro e5 w2 ⟨rfl, hg2⟩
   have G2 : Hid (Gr w w2) := G1.out.alloc.trans hg2
   have I2 : Hid (RcIn w2 X a1 c1 a2 c2 a3 c3) := I1.out.gr ((Gr.refl _).alloc.trans hg2)
   have R2 := Lib.hid (R1.out.alloc.gr hg2)
   have X2 := Lib.hid ((Cs.new w1 _ _ _ rfl).gr hg2)
   clear hg2
   have r2 := R2.out
   obtain ⟨z0, z1, z2, z3, z4, z5, z6, z7, z8, z9, z10, z11, z12, z13, zf0, zf1, zf2, zf3, zf4, zf5, zf6, zf7, zf8, zf9, zf10, zf11, zf12, zf13, zlt⟩ := r2.d14
   have x2 := X2.out
   obtain ⟨x0', x1', x2', x3', x4', x5', x6', x7', x8', x9', x10', x11', x12', x13', xlt⟩ := x2.c14
   clear r2 x2
   have hnn : w1.heap.size ≠ w.heap.size := by omega
   go_wp2
   have Q := Cs.fill14 R2.out rfl (.int .i64 0) (.int .i64 0) (.int .i64 0) (.int .i64 0) (.slice none 0 0) (.int .i64 0) (.int .i64 0) (.string ⟨#[]⟩) (.slice none 0 0) (.string ⟨#[]⟩) (.int .i64 0) (.string ⟨#[]⟩) (.slice none 0 0) (.string ⟨#[]⟩)
   obtain ⟨k0', k1', k2', k3', k4', k5', k6', k7', k8', k9', k10', k11', k12', k13', klt⟩ := Q.c14
   clear Q
   exact bodyPost_ret (v := .tuple #[.agg #[.int .i64 0, .int .i64 0, .int .i64 0, .int .i64 0, .slice none 0 0, .int .i64 0, .int .i64 0, .string ⟨#[]⟩, .slice none 0 0, .string ⟨#[]⟩, .int .i64 0, .string ⟨#[]⟩, .slice none 0 0, .string ⟨#[]⟩], .int .i64 140]) (by simp [results, Tryz.results18, go_sem, *]) rfl (by
    rw [HX.out, HE.out]
    exact ⟨none, 0, none, 0, none, 0, rfl, zR_in _, G2.out.set14 w.heap.size (Nat.le_refl _) _ _ _ _ _ _ _ _ _ _ _ _ _ _⟩)
end Go.Proofs.YthaadiclopoamaaGreatDoor
