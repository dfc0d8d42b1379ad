/- Parts of these proofs, laid together. -/
import Derived.Test.YthfbpilfdfploaaGS
import Derived.BigRegion
namespace Go.Proofs.Ythfbpilfdfploaa
open Go.RowKit
open Lk (St)

/- the cells of blocks that were there are kept, but for some blocks -/
structure KB (S : Nat → Prop) (w w' : World) : Prop where
  size : w.heap.size ≤ w'.heap.size
  cell : ∀ b o u, b < w.heap.size → ¬ S b → w.cell? ⟨b, o, none⟩ = some u → w'.cell? ⟨b, o, none⟩ = some u
section
variable {S : Nat → Prop} {u w w' : World}
theorem KB.trans (h : KB S u w) (k : KB S w w') : KB S u w' := ⟨Nat.le_trans h.size k.size, fun b o x hb hs hc => k.cell b o x (Nat.lt_of_lt_of_le hb h.size) hs (h.cell b o x hb hs hc)⟩
theorem KB.ofGr (g : Gr w w') : KB S w w' := ⟨g.size, fun _ _ _ _ _ h => g.keep h⟩
theorem KB.ofGB {b : Nat} (g : GB b w w') (hb : S b) : KB S w w' := ⟨g.size, fun c _ _ hc hs h => g.keep hc (fun e => hs (by rw [e]; exact hb)) h⟩
theorem KB.new {b : Nat} (h : KB S u w) (g : GB b w w') (hb : u.heap.size ≤ b) : KB S u w' := ⟨Nat.le_trans h.size g.size, fun c o x hc hs hx => g.keep (Nat.lt_of_lt_of_le hc h.size) (by omega) (h.cell c o x hc hs hx)⟩
theorem KB.refl (S : Nat → Prop) (w : World) : KB S w w := ⟨Nat.le_refl _, fun _ _ _ _ _ h => h⟩
theorem KB.alloc (h : KB S u w) {o : Obj} : KB S u (w.alloc o) := h.trans (KB.ofGr (Gr.refl _).alloc)
theorem KB.drew (h : KB S u w) : KB S u w.drew := h.trans (KB.ofGr (Gr.refl _).drew)
theorem KB.setc (h : KB S u w) {b i : Nat} {x : Value} (hb : u.heap.size ≤ b) : KB S u (w.setCell ⟨b, i, none⟩ x) := h.new (gb_set b i w x) hb
variable {Z : Nat → Prop}
theorem MnAt.kb {m : Mn} (h : MnAt Z w m) (k : KB S w w') (hS : ∀ b, S b → ¬ Z b) : MnAt Z w' m := by
  refine ⟨fun j hj => ?_, h.hl, h.hc, h.hd, h.hz⟩
  obtain ⟨b, o, e, hb, c0, c1⟩ := h.hp j hj
  have hz : Z b := h.hz (fun e => by rw [e] at hj; simp at hj) _ e
  exact ⟨b, o, e, Nat.lt_of_lt_of_le hb k.size, k.cell _ _ _ hb (fun s => hS b s hz) c0, k.cell _ _ _ hb (fun s => hS b s hz) c1⟩
/- a row of frames off all this -/
structure FrsZ (Z : Nat → Prop) (w : World) (a : Option Addr) (D : List Mf) : Prop where
  at_ : FrsAt Z w a D
  na : D ≠ [] → ∀ p, a = some p → Z p.block
theorem FrsZ.kb {a : Option Addr} {D : List Mf} (h : FrsZ Z w a D) (k : KB S w w') (hS : ∀ b, S b → ¬ Z b) : FrsZ Z w' a D := by
  refine ⟨⟨fun j x hx => ?_, fun x hx => (h.at_.nt x hx).kb k hS⟩, h.na⟩
  obtain ⟨b, o, e, hb, c⟩ := h.at_.row j x hx
  have hz : Z b := h.na (fun e => by rw [e] at hx; simp at hx) _ e
  exact ⟨b, o, e, Nat.lt_of_lt_of_le hb k.size, k.cell _ _ _ hb (fun s => hS b s hz) c⟩
end
/- what begun answers -/
def l0 : Nat → St Nx := fun s => if s = 0 then Lk.new 0 1 1 else Lk.new 1 0 1
def BgR (w : World) (e : Ending) (w' : World) : Prop := ∃ Z gp g, e = .returned (.tuple #[.pointer (some ⟨gp, 0, none⟩), .bool true]) ∧ Pa Z w w' gp g l0 (fun _ => 1) 0 (fun _ => 0) (fun _ => 0) none 0 []
theorem pa_new {w w1 w2 : World} {ga gb gp : Nat} {t : TypeId} (hp : gp = w2.heap.size) (ha : ∀ Z, ¬ Z ga → PkAt Z w1 ga (Lk.new 0 1 1)) (hb : ∀ Z, ¬ Z gb → PkAt Z w2 gb (Lk.new 1 0 1)) (la : w.heap.size ≤ ga) (lb : w1.heap.size ≤ gb) (g1 : Gr w w1) (g2 : Gr w1 w2) :
    Pa (fun k => k ≠ ga ∧ k ≠ gb ∧ k ≠ gp) w (w2.alloc (.cells #[.pointer (some ⟨ga, 0, none⟩), .pointer (some ⟨gb, 0, none⟩), .int .i64 1, .int .i64 1, .slice none 0 0, .int .i64 0, .int .i64 0, .int .i64 0, .int .i64 0, .int .i64 0, .int .i64 0, .int .i64 0, .int .i64 0, .int .i64 0, .int .i64 0, .int .i64 0, .int .i64 0, .int .i64 0, .int .i64 0, .int .i64 0, .int .i64 0, .int .i64 0, .int .i64 0, .int .i64 0, .int .i64 0, .int .i64 0, .int .i64 0, .int .i64 0, .int .i64 0, .int .i64 0, .int .i64 0, .int .i64 0, .int .i64 0, .int .i64 0, .int .i64 0, .int .i64 0, .int .i64 0, .int .i64 0] t)) gp (fun s => if s = 0 then ga else gb) l0 (fun _ => 1) 0 (fun _ => 0) (fun _ => 0) none 0 [] := by
  obtain ⟨Z, hZ⟩ : ∃ Z : Nat → Prop, Z = fun k => k ≠ ga ∧ k ≠ gb ∧ k ≠ gp := ⟨_, rfl⟩
  rw [← hZ]
  have h1 : PkAt Z w1 ga (Lk.new 0 1 1) := ha _ (by rw [hZ]; exact fun k => k.1 rfl)
  have h2 : PkAt Z w2 gb (Lk.new 1 0 1) := hb _ (by rw [hZ]; exact fun k => k.2.1 rfl)
  have l1 := h1.lt
  have l2 := h2.lt
  have s1 := g1.size
  have s2 := g2.size
  have hg : Gr w2 (w2.alloc (.cells #[.pointer (some ⟨ga, 0, none⟩), .pointer (some ⟨gb, 0, none⟩), .int .i64 1, .int .i64 1, .slice none 0 0, .int .i64 0, .int .i64 0, .int .i64 0, .int .i64 0, .int .i64 0, .int .i64 0, .int .i64 0, .int .i64 0, .int .i64 0, .int .i64 0, .int .i64 0, .int .i64 0, .int .i64 0, .int .i64 0, .int .i64 0, .int .i64 0, .int .i64 0, .int .i64 0, .int .i64 0, .int .i64 0, .int .i64 0, .int .i64 0, .int .i64 0, .int .i64 0, .int .i64 0, .int .i64 0, .int .i64 0, .int .i64 0, .int .i64 0, .int .i64 0, .int .i64 0, .int .i64 0, .int .i64 0] t)) := (Gr.refl _).alloc
  have hs : (w2.alloc (.cells #[.pointer (some ⟨ga, 0, none⟩), .pointer (some ⟨gb, 0, none⟩), .int .i64 1, .int .i64 1, .slice none 0 0, .int .i64 0, .int .i64 0, .int .i64 0, .int .i64 0, .int .i64 0, .int .i64 0, .int .i64 0, .int .i64 0, .int .i64 0, .int .i64 0, .int .i64 0, .int .i64 0, .int .i64 0, .int .i64 0, .int .i64 0, .int .i64 0, .int .i64 0, .int .i64 0, .int .i64 0, .int .i64 0, .int .i64 0, .int .i64 0, .int .i64 0, .int .i64 0, .int .i64 0, .int .i64 0, .int .i64 0, .int .i64 0, .int .i64 0, .int .i64 0, .int .i64 0, .int .i64 0, .int .i64 0] t)).heap.size = w2.heap.size + 1 := by simp
  have cs : Cs (w2.alloc (.cells #[.pointer (some ⟨ga, 0, none⟩), .pointer (some ⟨gb, 0, none⟩), .int .i64 1, .int .i64 1, .slice none 0 0, .int .i64 0, .int .i64 0, .int .i64 0, .int .i64 0, .int .i64 0, .int .i64 0, .int .i64 0, .int .i64 0, .int .i64 0, .int .i64 0, .int .i64 0, .int .i64 0, .int .i64 0, .int .i64 0, .int .i64 0, .int .i64 0, .int .i64 0, .int .i64 0, .int .i64 0, .int .i64 0, .int .i64 0, .int .i64 0, .int .i64 0, .int .i64 0, .int .i64 0, .int .i64 0, .int .i64 0, .int .i64 0, .int .i64 0, .int .i64 0, .int .i64 0, .int .i64 0, .int .i64 0] t)) gp [.pointer (some ⟨ga, 0, none⟩), .pointer (some ⟨gb, 0, none⟩), .int .i64 1, .int .i64 1, .slice none 0 0, .int .i64 0, .int .i64 0, .int .i64 0, .int .i64 0, .int .i64 0, .int .i64 0, .int .i64 0, .int .i64 0, .int .i64 0, .int .i64 0, .int .i64 0, .int .i64 0, .int .i64 0, .int .i64 0, .int .i64 0, .int .i64 0, .int .i64 0, .int .i64 0, .int .i64 0, .int .i64 0, .int .i64 0, .int .i64 0, .int .i64 0, .int .i64 0, .int .i64 0, .int .i64 0, .int .i64 0, .int .i64 0, .int .i64 0, .int .i64 0, .int .i64 0, .int .i64 0, .int .i64 0] := Cs.new _ _ _ _ hp
  refine ⟨⟨?_, ?_, ?_, ?_, by omega, by rw [hs]; omega, ?_, (g1.trans g2).trans hg, Fxs.nil _ _, by rw [hZ]; exact fun k => k.2.2 rfl, fun k e => by cases e⟩, ⟨by rw [hs]; omega, ?_, ?_, cs.at_ 4 _ rfl, cs.at_ 5 _ rfl, ?_, ?_, ?_⟩⟩
  · intro s hs2
    rcases two_cases hs2 with rfl | rfl
    · exact (h1.gr g2).gr hg
    · exact h2.gr hg
  · show ga ≠ gb; omega
  · intro s hs2
    rcases two_cases hs2 with rfl | rfl
    · show ga ≠ gp; omega
    · show gb ≠ gp; omega
  · intro s hs2
    rcases two_cases hs2 with rfl | rfl
    · exact la
    · show _ ≤ gb; omega
  · intro b hb2
    rw [hZ]
    rw [hs] at hb2
    exact ⟨by omega, by omega, by omega⟩
  · intro s hs2
    rcases two_cases hs2 with rfl | rfl
    · exact cs.at_ 0 _ rfl
    · exact cs.at_ 1 _ rfl
  · intro s hs2
    rcases two_cases hs2 with rfl | rfl
    · exact cs.at_ 2 _ rfl
    · exact cs.at_ 3 _ rfl
  · intro j hj
    match j, hj with
    | 0, _ => exact cs.at_ 6 _ rfl
    | 1, _ => exact cs.at_ 7 _ rfl
    | 2, _ => exact cs.at_ 8 _ rfl
    | 3, _ => exact cs.at_ 9 _ rfl
    | 4, _ => exact cs.at_ 10 _ rfl
    | 5, _ => exact cs.at_ 11 _ rfl
    | 6, _ => exact cs.at_ 12 _ rfl
    | 7, _ => exact cs.at_ 13 _ rfl
    | 8, _ => exact cs.at_ 14 _ rfl
    | 9, _ => exact cs.at_ 15 _ rfl
    | 10, _ => exact cs.at_ 16 _ rfl
    | 11, _ => exact cs.at_ 17 _ rfl
    | 12, _ => exact cs.at_ 18 _ rfl
    | 13, _ => exact cs.at_ 19 _ rfl
    | 14, _ => exact cs.at_ 20 _ rfl
    | 15, _ => exact cs.at_ 21 _ rfl
    | n + 16, h => exact absurd h (by omega)
  · intro j hj
    match j, hj with
    | 0, _ => exact cs.at_ 22 _ rfl
    | 1, _ => exact cs.at_ 23 _ rfl
    | 2, _ => exact cs.at_ 24 _ rfl
    | 3, _ => exact cs.at_ 25 _ rfl
    | 4, _ => exact cs.at_ 26 _ rfl
    | 5, _ => exact cs.at_ 27 _ rfl
    | 6, _ => exact cs.at_ 28 _ rfl
    | 7, _ => exact cs.at_ 29 _ rfl
    | 8, _ => exact cs.at_ 30 _ rfl
    | 9, _ => exact cs.at_ 31 _ rfl
    | 10, _ => exact cs.at_ 32 _ rfl
    | 11, _ => exact cs.at_ 33 _ rfl
    | 12, _ => exact cs.at_ 34 _ rfl
    | 13, _ => exact cs.at_ 35 _ rfl
    | 14, _ => exact cs.at_ 36 _ rfl
    | 15, _ => exact cs.at_ 37 _ rfl
    | n + 16, h => exact absurd h (by omega)
  · intro j hj
    exact cs.fz j hj
set_option maxHeartbeats 8000000 in
set_option maxRecDepth 100000 in
theorem begun_any (w : World) : Calls Try.prog 14 #[] w fun e w' => BgR w e w' := by
  have HN1 := Lib.hid (awn 0 1 1 w (by decide))
  have HN2 : Hid (∀ w', Calls Try.prog 17 #[.int .i64 1, .int .i64 0, .int .i64 1] w' fun e w2 => ∃ g, e = .returned (.tuple #[.pointer (some ⟨g, 0, none⟩), .int .i64 0]) ∧ (∀ Z, ¬ Z g → PkAt Z w2 g (Lk.new 1 0 1)) ∧ w'.heap.size ≤ g ∧ Gr w' w2) := fun w' => awn 1 0 1 w' (by decide)
  go_enter Try.func14, Try.ntmps14
  go_wp2_with fail
  refine HN1.out.mono ?_
  rintro e1 w1 ⟨ga, rfl, hA, hla, hg1⟩
  have HA := Lib.hid hA
  have HLa := Lib.hid hla
  have HG1 := Lib.hid hg1
  clear hA hla hg1 HN1
  go_wp2_with fail
  refine (HN2.out _).mono ?_
  rintro e2 w2 ⟨gb, rfl, hB, hlb, hg2⟩
  have HP2 := Lib.hid (pa_new (t := 63) (gp := w2.heap.size) rfl HA.out hB HLa.out hlb HG1.out hg2)
  clear hB hlb hg2 HA HLa HG1 HN2
  go_wp2
  go_ret2
  exact ⟨_, _, _, rfl, HP2.out⟩
/- a note that was answered, in a box; the pair beside it -/
structure PtW (Z : Nat → Prop) (w0 wB wx : World) (gp : Nat) (g : Nat → Nat) (l : Nat → St Nx) (vl : Nat → Int) (now : Int) (P H : Nat → Int) (ad : Option Addr) (cap : Nat) (D : List Mf) (t : Nat) (nx : Nt) (gx : Nat) (a : Option Addr) (c : Nat) : Prop where
  cs : Cs wx gx (nC ⟨nx, a, c⟩)
  mn : MnAt Z wx ⟨nx, a, c⟩
  pa : Pa Z w0 wx gp g l vl now P H ad cap D
  kb : KB (fun k => k = g t ∨ k = gp) wB wx
  lx : wB.heap.size ≤ gx
def PtA (Z : Nat → Prop) (w0 wB wx : World) (gp : Nat) (g : Nat → Nat) (l : Nat → St Nx) (vl : Nat → Int) (now : Int) (P H : Nat → Int) (ad : Option Addr) (cap : Nat) (D : List Mf) (t : Nat) (nx : Nt) (p : Value) : Prop := ∃ gx a c, p = .pointer (some ⟨gx, 0, none⟩) ∧ PtW Z w0 wB wx gp g l vl now P H ad cap D t nx gx a c
section
variable {Z : Nat → Prop} {w0 wB w' wn : World} {gp : Nat} {g : Nat → Nat} {l l2 : Nat → St Nx} {vl : Nat → Int} {now : Int} {P H : Nat → Int} {ad : Option Addr} {cap : Nat} {D : List Mf} {t : Nat} {nx : Nt} {a : Option Addr} {c : Nat}
theorem pt_last (hw : Gr wB w') (hm : MnAt Z wn ⟨nx, a, c⟩) (hp : Pa Z w0 wn gp g l2 vl now P H ad cap D) (hg : GB (g t) w' wn) (ty : TypeId) :
    PtA Z w0 wB (wn.alloc (.cells (nC ⟨nx, a, c⟩).toArray ty)) gp g l2 vl now P H ad cap D t nx (.pointer (some ⟨wn.heap.size, 0, none⟩)) :=
  ⟨_, a, c, rfl, Cs.new wn _ _ _ rfl, hm.gr (Gr.refl _).alloc, hp.up (Gr.refl _).alloc, ((KB.ofGr hw).trans (KB.ofGB hg (Or.inl rfl))).trans (KB.ofGr (Gr.refl _).alloc), Nat.le_trans hw.size hg.size⟩
theorem Pa.less {b : Nat} (h : Pa Z w0 wB gp g l vl now P H ad cap D) (hb : wB.heap.size ≤ b) (hw : Gr wB w') (hl : b < w'.heap.size) : Pa (Bt Z b) w0 w' gp g l vl now P H ad cap D := ⟨h.pl.less hb hw hl, h.pc.gr hw⟩
theorem set_cs6 {w : World} {gx : Nat} {zs : List Value} (h : Cs w gx zs) (hl : zs.length = 6) (v0 v1 v2 v3 v4 v5 : Value) : Cs ((((((w.setCell ⟨gx, 0, none⟩ v0).setCell ⟨gx, 1, none⟩ v1).setCell ⟨gx, 2, none⟩ v2).setCell ⟨gx, 3, none⟩ v3).setCell ⟨gx, 4, none⟩ v4).setCell ⟨gx, 5, none⟩ v5) gx [v0, v1, v2, v3, v4, v5] := by
  match zs, hl with
  | [a0, a1, a2, a3, a4, a5], _ => exact (((((h.set 0 (by simp) v0).set 1 (by simp) v1).set 2 (by simp) v2).set 3 (by simp) v3).set 4 (by simp) v4).set 5 (by simp) v5
theorem pt_first {gx : Nat} {zs : List Value} (hx : gx = wB.heap.size) (hP : Pa Z w0 wB gp g l vl now P H ad cap D) (hw : Gr wB w') (hc : Cs wn gx zs) (hl : zs.length = 6) (hm : MnAt (Bt Z gx) wn ⟨nx, a, c⟩) (hp : Pa (Bt Z gx) w0 wn gp g l2 vl now P H ad cap D) (hg : GB (g t) w' wn) :
    PtA Z w0 wB ((((((wn.setCell ⟨gx, 0, none⟩ (.int .i64 nx.k)).setCell ⟨gx, 1, none⟩ (.int .i64 nx.r)).setCell ⟨gx, 2, none⟩ (.int .i64 nx.n)).setCell ⟨gx, 3, none⟩ (.slice a nx.L.length c)).setCell ⟨gx, 4, none⟩ (.string nx.d)).setCell ⟨gx, 5, none⟩ (.int .i64 nx.y)) gp g l2 vl now P H ad cap D t nx (.pointer (some ⟨gx, 0, none⟩)) := by
  have hG := gb_set6 gx wn (.int .i64 nx.k) (.int .i64 nx.r) (.int .i64 nx.n) (.slice a nx.L.length c) (.string nx.d) (.int .i64 nx.y)
  have hb : ¬ Bt Z gx gx := Bt.no
  have hgs : ∀ s, s < 2 → g s ≠ gx := fun s hs => by have := hP.pl.lt hs; omega
  have hgp : gp ≠ gx := by have := hP.pl.lx; omega
  have hv : (Value.slice ad D.length cap).ownBlock ≠ some gx := fun e => by have := (hP.pl.fx.own.lt gx e).2; omega
  have h3 : w0.heap.size ≤ gx := by have := hP.pl.gr.size; omega
  have hk := (KB.ofGr (S := fun k => k = g t ∨ k = gp) hw).trans (KB.ofGB hg (Or.inl rfl))
  refine ⟨gx, a, c, rfl, set_cs6 hc hl _ _ _ _ _ _, (hm.gb hG hb).turn (fun _ _ k => k.1), ⟨?_, (hp.pc.gb hG hgp)⟩, hk.new hG (by omega), by omega⟩
  refine (hp.pl.gbk hG hb hgs hv h3).back hP.pl (fun b hb2 => hP.pl.fr b ?_)
  exact Nat.le_trans (Nat.le_trans hk.size hG.size) hb2
theorem hold_pt {a b : World} {S : Nat → Prop} (g : KB S a b) {p q t : Nat} (hp : p < a.heap.size) (hq : q < a.heap.size) (sp : ¬ S p) (sq : ¬ S q) {v0 v1 v2 v3 v4 v5 v6 v7 v8 v9 v10 v11 y z : Value} (h0 : a.cell? ⟨p, 0, none⟩ = some v0) (h1 : a.cell? ⟨p, 1, none⟩ = some v1) (h2 : a.cell? ⟨p, 2, none⟩ = some v2) (h3 : a.cell? ⟨p, 3, none⟩ = some v3) (h4 : a.cell? ⟨p, 4, none⟩ = some v4) (h5 : a.cell? ⟨p, 5, none⟩ = some v5) (h6 : a.cell? ⟨p, 6, none⟩ = some v6) (h7 : a.cell? ⟨p, 7, none⟩ = some v7) (h8 : a.cell? ⟨p, 8, none⟩ = some v8) (h9 : a.cell? ⟨p, 9, none⟩ = some v9) (h10 : a.cell? ⟨p, 10, none⟩ = some v10) (h11 : a.cell? ⟨p, 11, none⟩ = some v11) (hy : a.cell? ⟨q, t, none⟩ = some y) (hz : a.cell? ⟨q, 5, none⟩ = some z) :
    KB S a b ∧ b.cell? ⟨p, 0, none⟩ = some v0 ∧ b.cell? ⟨p, 1, none⟩ = some v1 ∧ b.cell? ⟨p, 2, none⟩ = some v2 ∧ b.cell? ⟨p, 3, none⟩ = some v3 ∧ b.cell? ⟨p, 4, none⟩ = some v4 ∧ b.cell? ⟨p, 5, none⟩ = some v5 ∧ b.cell? ⟨p, 6, none⟩ = some v6 ∧ b.cell? ⟨p, 7, none⟩ = some v7 ∧ b.cell? ⟨p, 8, none⟩ = some v8 ∧ b.cell? ⟨p, 9, none⟩ = some v9 ∧ b.cell? ⟨p, 10, none⟩ = some v10 ∧ b.cell? ⟨p, 11, none⟩ = some v11 ∧ b.cell? ⟨q, t, none⟩ = some y ∧ b.cell? ⟨q, 5, none⟩ = some z :=
  ⟨g, g.cell _ _ _ hp sp h0, g.cell _ _ _ hp sp h1, g.cell _ _ _ hp sp h2, g.cell _ _ _ hp sp h3, g.cell _ _ _ hp sp h4, g.cell _ _ _ hp sp h5, g.cell _ _ _ hp sp h6, g.cell _ _ _ hp sp h7, g.cell _ _ _ hp sp h8, g.cell _ _ _ hp sp h9, g.cell _ _ _ hp sp h10, g.cell _ _ _ hp sp h11, g.cell _ _ _ hq sq hy, g.cell _ _ _ hq sq hz⟩
end
/- what the pair's take leaves -/
def PtkR (Z : Nat → Prop) (w0 w : World) (gp : Nat) (g : Nat → Nat) (l : Nat → St Nx) (vl : Nat → Int) (now : Int) (P H : Nat → Int) (ad : Option Addr) (cap : Nat) (D : List Mf) (s t : Nat) (x : Nt) (T : Int × Bool × St Nx) (e : Ending) (w' : World) : Prop :=
  e = .returned (.bool true) ∧ ∃ H2, Pa Z w0 w' gp g (upd l t T.2.2) vl now P H2 ad cap D ∧ KB (fun k => k = g t ∨ k = gp) w w' ∧ (T.2.1 = false → H2 = H) ∧ (T.2.1 = true → ∃ k : Nat, k < 8 ∧ x = ntF s k ∧ ∃ n, (0 ≤ H (s * 8 + k) → H (s * 8 + k) ≤ 1000000 → n = H (s * 8 + k) + 1) ∧ H2 = upd H (s * 8 + k) n)
set_option maxHeartbeats 2000000 in
set_option maxRecDepth 100000 in
theorem ptake_any {Z : Nat → Prop} {w0 w : World} {gp : Nat} {g : Nat → Nat} {l : Nat → St Nx} {vl : Nat → Int} {now : Int} {P H : Nat → Int} {ad : Option Addr} {cap : Nat} {D : List Mf} (h : Pa Z w0 w gp g l vl now P H ad cap D) {s t : Nat} (hs : s < 2) (ht : t < 2) (he : (l t).ep ≠ 0) (x : Mf) (hm : MnAt Z w x.m) (hf : x.f = s) (htx : x.t = t)
    (hN : (Lk.takeR CX (l t) x.fr now).2.1 = true → ∃ k : Nat, k < 8 ∧ x.m.x = ntF s k) :
    Calls Try.prog 16 #[.pointer (some ⟨gp, 0, none⟩), x.v] w fun e w' => PtkR Z w0 w gp g l vl now P H ad cap D s t x.m.x (Lk.takeR CX (l t) x.fr now) e w' := by
  have HT0 : Hid ((Lk.takeR CX (l t) x.fr now).2.1 = true → (Lk.takeR CX (l t) x.fr now).1 = 0) := fun h => Lk.take_zero CX (l t) x.fr now h
  obtain ⟨nx, hnx⟩ : ∃ nx, nx = (if (Lk.takeR CX (l t) x.fr now).2.1 = true then x.m.x else Nt.zeroN) := ⟨_, rfl⟩
  have HTk : Hid (∀ Y w', Pa Y w0 w' gp g l vl now P H ad cap D → MnAt Y w' x.m → Calls Try.prog 6 #[.pointer (some ⟨g t, 0, none⟩), x.v, .int .i64 now] w' fun e w2 => ∃ a c, e = .returned (.tuple #[Mn.v ⟨nx, a, c⟩, .bool (Lk.takeR CX (l t) x.fr now).2.1, .int .i64 (Lk.takeR CX (l t) x.fr now).1]) ∧ MnAt Y w2 ⟨nx, a, c⟩ ∧ Pa Y w0 w2 gp g (upd l t (Lk.takeR CX (l t) x.fr now).2.2) vl now P H ad cap D ∧ GB (g t) w' w2) := by
    intro Y w' h1 h2
    refine (kTake_any (g t) (l t) x now w' (h1.pl.pk t ht) he h1.pl.fr h2).mono ?_
    rintro e w2 ⟨a, c, e1, h3, h4, h5⟩
    rw [← hnx] at e1 h3
    exact ⟨a, c, e1, h3, h1.step ht h4 h5, h5⟩
  have HNx := Lib.hid hnx
  have HN := Lib.hid hN
  have HP := Lib.hid h
  have HM := Lib.hid hm
  clear hnx hN he h hm
  obtain ⟨ff, ft, fe, fs, fa, fc, ⟨⟨k5, r5, n5, L5, s5, y5⟩, ay, cy⟩⟩ := x
  dsimp only at hf htx
  subst hf htx
  generalize Lk.takeR CX (l t) (Mf.fr ⟨(s : Int), (t : Int), fe, fs, fa, fc, ⟨⟨k5, r5, n5, L5, s5, y5⟩, ay, cy⟩⟩) now = T at *
  dsimp only [Mf.v, Mn.v] at *
  generalize hlf : L5.length = lf at *
  have HLf := Lib.hid hlf
  clear hlf
  have ht2 : (t : Int) < 2 := by omega
  have hs2 : (s : Int) < 2 := by omega
  have ht0 : (0 : Int) ≤ (t : Int) := by omega
  have hs0 : (0 : Int) ≤ (s : Int) := by omega
  obtain ⟨wB, hwB⟩ : ∃ x, x = w.alloc (.cells #[.int .i64 (s : Int), .int .i64 (t : Int), .int .i64 fe, .int .i64 fs, .int .i64 fa, .int .i64 fc, .int .i64 k5, .int .i64 r5, .int .i64 n5, .slice ay lf cy, .string s5, .int .i64 y5] 28) := ⟨_, rfl⟩
  have hgB : Gr w wB := by rw [hwB]; exact (Gr.refl _).alloc
  have HX : Hid (Cs wB w.heap.size [.int .i64 (s : Int), .int .i64 (t : Int), .int .i64 fe, .int .i64 fs, .int .i64 fa, .int .i64 fc, .int .i64 k5, .int .i64 r5, .int .i64 n5, .slice ay lf cy, .string s5, .int .i64 y5]) := by show Cs _ _ _; rw [hwB]; exact Cs.new _ _ _ _ rfl
  have HPB := Lib.hid (HP.out.up hgB)
  have HGB := Lib.hid hgB
  have z0 := HX.out.at_ 0 _ rfl
  have z1 := HX.out.at_ 1 _ rfl
  have z2 := HX.out.at_ 2 _ rfl
  have z3 := HX.out.at_ 3 _ rfl
  have z4 := HX.out.at_ 4 _ rfl
  have z5 := HX.out.at_ 5 _ rfl
  have z6 := HX.out.at_ 6 _ rfl
  have z7 := HX.out.at_ 7 _ rfl
  have z8 := HX.out.at_ 8 _ rfl
  have z9 := HX.out.at_ 9 _ rfl
  have z10 := HX.out.at_ 10 _ rfl
  have z11 := HX.out.at_ 11 _ rfl
  have zf0 := HX.out.fz 0 (by simp)
  have zf1 := HX.out.fz 1 (by simp)
  have zf2 := HX.out.fz 2 (by simp)
  have zf3 := HX.out.fz 3 (by simp)
  have zf4 := HX.out.fz 4 (by simp)
  have zf5 := HX.out.fz 5 (by simp)
  have zf6 := HX.out.fz 6 (by simp)
  have zf7 := HX.out.fz 7 (by simp)
  have zf8 := HX.out.fz 8 (by simp)
  have zf9 := HX.out.fz 9 (by simp)
  have zf10 := HX.out.fz 10 (by simp)
  have zf11 := HX.out.fz 11 (by simp)
  have zlt := HX.out.lt
  have q1 := HPB.out.pc.ck t ht
  have q5 := HPB.out.pc.cn
  have ql := HPB.out.pc.lt
  clear hgB zf0 zf1 zf2 zf3 zf4 zf5 zf6 zf7 zf8 zf9 zf10 zf11
  have HSz : Hid (w.heap.size < wB.heap.size ∧ gp < wB.heap.size ∧ w.heap.size ≠ g t ∧ gp ≠ g t) := ⟨zlt, ql, by have := HP.out.pl.lt ht; omega, (HP.out.pl.np t ht).symm⟩
  have HPt : Hid (Pa (Bt Z wB.heap.size) w0 (wB.alloc (.cells #[.int .i64 0, .int .i64 0, .int .i64 0, .slice none 0 0, .string ⟨#[]⟩, .int .i64 0] 26)).drew gp g l vl now P H ad cap D) := HPB.out.less (Nat.le_refl _) (Gr.refl _).alloc.drew (by simp)
  have HMt : Hid (MnAt (Bt Z wB.heap.size) wB ⟨⟨k5, r5, n5, L5, s5, y5⟩, ay, cy⟩) := (HM.out.gr HGB.out).turn (fun b hb k => ⟨k, Nat.ne_of_lt hb⟩)
  go_enter Try.func16, Try.ntmps16
  go_upto_region 2 with fail
  rw [← hwB]
  clear hwB
  go_cut [6, 7, 8] from 11 to 26 (fun p f e wx => f = .bool T.2.1 ∧ e = .int .i64 T.1 ∧ PtA Z w0 wB wx gp g (upd l t T.2.2) vl now P H ad cap D t nx p)
  case first =>
    obtain ⟨k1, r1, n1, L1, s1, y1⟩ := nx
    dsimp only at *
    go_region_held3 (fun w' => KB (fun k => k = g t) wB w' ∧ w'.cell? ⟨w.heap.size, 0, none⟩ = some (.int .i64 (s : Int)) ∧ w'.cell? ⟨w.heap.size, 1, none⟩ = some (.int .i64 (t : Int)) ∧ w'.cell? ⟨w.heap.size, 2, none⟩ = some (.int .i64 fe) ∧ w'.cell? ⟨w.heap.size, 3, none⟩ = some (.int .i64 fs) ∧ w'.cell? ⟨w.heap.size, 4, none⟩ = some (.int .i64 fa) ∧ w'.cell? ⟨w.heap.size, 5, none⟩ = some (.int .i64 fc) ∧ w'.cell? ⟨w.heap.size, 6, none⟩ = some (.int .i64 k5) ∧ w'.cell? ⟨w.heap.size, 7, none⟩ = some (.int .i64 r5) ∧ w'.cell? ⟨w.heap.size, 8, none⟩ = some (.int .i64 n5) ∧ w'.cell? ⟨w.heap.size, 9, none⟩ = some (.slice ay lf cy) ∧ w'.cell? ⟨w.heap.size, 10, none⟩ = some (.string s5) ∧ w'.cell? ⟨w.heap.size, 11, none⟩ = some (.int .i64 y5) ∧ w'.cell? ⟨gp, t, none⟩ = some (.pointer (some ⟨g t, 0, none⟩)) ∧ w'.cell? ⟨gp, 5, none⟩ = some (.int .i64 now))
      ((exact hold_pt (by (repeat' (first | with_reducible exact KB.refl _ _ | with_reducible refine KB.setc ?_ ?_ | with_reducible refine KB.alloc ?_ | with_reducible refine KB.drew ?_ | with_reducible refine KB.trans ?_ (by assumption))) <;> (first | (simp; done) | (simp; omega) | omega)) HSz.out.1 HSz.out.2.1 HSz.out.2.2.1 HSz.out.2.2.2 z0 z1 z2 z3 z4 z5 z6 z7 z8 z9 z10 z11 q1 q5))
      ((first
        | (go_at_call 6; refine (HTk.out (Bt Z wB.heap.size) _ HPt.out (HMt.out.gr (Gr.refl _).alloc.drew)).mono ?_; rintro e wn ⟨an, cn, rfl, hmn, hpn, hgn⟩; have hkn := KB.ofGB (S := fun k => k = g t) hgn rfl; have hcn := (GB.cs hgn ((Cs.new wB [.int .i64 0, .int .i64 0, .int .i64 0, .slice none 0 0, .string ⟨#[]⟩, .int .i64 0] 26 _ rfl).gr (Gr.refl _).drew) (by have := HPB.out.pl.lt ht; omega)); have y0 := hcn.at_ 0 _ rfl; have y1c := hcn.at_ 1 _ rfl; have y2c := hcn.at_ 2 _ rfl; have y3c := hcn.at_ 3 _ rfl; have y4c := hcn.at_ 4 _ rfl; have y5c := hcn.at_ 5 _ rfl; have yf0 := hcn.fz 0 (by simp); have yf1 := hcn.fz 1 (by simp); have yf2 := hcn.fz 2 (by simp); have yf3 := hcn.fz 3 (by simp); have yf4 := hcn.fz 4 (by simp); have yf5 := hcn.fz 5 (by simp); have ylt := hcn.lt)
        | (go_at_call 6; refine (HTk.out Z _ (HPB.out.up (Gr.refl _).drew) ((HM.out.gr HGB.out).gr (Gr.refl _).drew)).mono ?_; rintro e wn ⟨an, cn, rfl, hmn, hpn, hgn⟩; have hkn := KB.ofGB (S := fun k => k = g t) hgn rfl)))
    · go_wp2_with fail
      go_meet
      exact ⟨rfl, rfl, pt_last (Gr.refl wB).drew hmn hpn hgn _⟩
    · go_wp2_with fail
      go_meet
      have hfin := pt_first (nx := ⟨k1, r1, n1, L1, s1, y1⟩) (gx := wB.heap.size) rfl HPB.out (w' := (wB.alloc (.cells #[.int .i64 0, .int .i64 0, .int .i64 0, .slice none 0 0, .string ⟨#[]⟩, .int .i64 0] 26)).drew) (Gr.refl wB).alloc.drew hcn rfl hmn hpn hgn
      exact ⟨rfl, rfl, hfin⟩
  case rest =>
    obtain ⟨rfl, rfl, gx, an, cn, rfl, hW⟩ := hcut
    have HW := Lib.hid hW
    have HS : Hid (∀ b, (b = g t ∨ b = gp) → ¬ Z b) := by
      intro b hb
      rcases hb with rfl | rfl
      · exact (HP.out.pl.pk t ht).nz
      · exact HP.out.pl.zp
    have HM2 : Hid (MnAt Z wc ⟨⟨k5, r5, n5, L5, s5, y5⟩, ay, cy⟩) := (HM.out.gr HGB.out).kb HW.out.kb HS.out
    have HSy : Hid (¬ (w.heap.size = g t ∨ w.heap.size = gp)) := by
      have h1 := HP.out.pl.lt ht
      have h2 := HP.out.pl.lx
      exact fun h => by omega
    have z0 := HW.out.kb.cell _ _ _ zlt HSy.out z0
    have z1 := HW.out.kb.cell _ _ _ zlt HSy.out z1
    have z2 := HW.out.kb.cell _ _ _ zlt HSy.out z2
    have z3 := HW.out.kb.cell _ _ _ zlt HSy.out z3
    have z4 := HW.out.kb.cell _ _ _ zlt HSy.out z4
    have z5 := HW.out.kb.cell _ _ _ zlt HSy.out z5
    have z6 := HW.out.kb.cell _ _ _ zlt HSy.out z6
    have z7 := HW.out.kb.cell _ _ _ zlt HSy.out z7
    have z8 := HW.out.kb.cell _ _ _ zlt HSy.out z8
    have z9 := HW.out.kb.cell _ _ _ zlt HSy.out z9
    have z10 := HW.out.kb.cell _ _ _ zlt HSy.out z10
    have z11 := HW.out.kb.cell _ _ _ zlt HSy.out z11
    have zlt := Nat.lt_of_lt_of_le zlt HW.out.kb.size
    clear hW HTk HPB HM HPt HMt q1 q5 ql HSz
    cases hfr : T.2.1 with
    | false =>
      have hnz : nx = Nt.zeroN := by have := HNx.out; rw [hfr] at this; exact this
      subst hnz
      have HFr := Lib.hid hfr
      have HCs : Hid (Cs wc gx [.int .i64 0, .int .i64 0, .int .i64 0, .slice an 0 cn, .string ⟨#[]⟩, .int .i64 0]) := HW.out.cs
      have y0 := HCs.out.at_ 0 _ rfl
      have y1 := HCs.out.at_ 1 _ rfl
      have y2 := HCs.out.at_ 2 _ rfl
      have y3 := HCs.out.at_ 3 _ rfl
      have y4 := HCs.out.at_ 4 _ rfl
      have y5 := HCs.out.at_ 5 _ rfl
      have yf0 := HCs.out.fz 0 (by simp)
      have yf1 := HCs.out.fz 1 (by simp)
      have yf2 := HCs.out.fz 2 (by simp)
      have yf3 := HCs.out.fz 3 (by simp)
      have yf4 := HCs.out.fz 4 (by simp)
      have yf5 := HCs.out.fz 5 (by simp)
      have ylt := HCs.out.lt
      clear hfr yf0 yf1 yf2 yf3 yf4 yf5 z0 z1 z2 z3 z4 z5 z6 z7 z8 z9 z10 z11 zlt
      have HSm : Hid (∀ w', Gr wc w' → Calls Try.prog 8 #[.agg #[.int .i64 0, .int .i64 0, .int .i64 0, .slice an 0 cn, .string ⟨#[]⟩, .int .i64 0], .agg #[.int .i64 0, .int .i64 0, .int .i64 0, .slice none 0 0, .string ⟨#[]⟩, .int .i64 0]] w' fun e w2 => e = .returned (.bool true) ∧ Gr w' w2) := fun w' k => by
        have := rSameN2_any (Z := Z) ⟨Nt.zeroN, an, cn⟩ ⟨Nt.zeroN, none, 0⟩ w' (HW.out.mn.gr k) (zero_mn _)
        rw [decide_eq_true rfl] at this
        exact this
      go_wp2_with fail
      refine (HSm.out _ ?_).mono ?_
      · exact (by repeat(first|exact Gr.r _|refine Gr.a ?_|refine Gr.d ?_|refine Gr.t ?_ (by assumption)))
      rintro e3 w3 ⟨rfl, hg3⟩
      go_wp2
      go_ret
      exact ⟨rfl, H, HW.out.pa.up hg3, ((KB.ofGr HGB.out).trans HW.out.kb).trans (KB.ofGr hg3), fun _ => rfl, fun h => by rw [HFr.out] at h; cases h⟩
    | true =>
      obtain ⟨k, hk, hx⟩ := HN.out hfr
      have hnz : nx = ⟨k5, r5, n5, L5, s5, y5⟩ := by have := HNx.out; rw [hfr] at this; exact this
      have hez := HT0.out hfr
      subst hnz
      have HFr := Lib.hid hfr
      have HHk := Lib.hid hk
      have HXk := Lib.hid hx
      unfold ntF at hx
      simp only [Nt.mk.injEq] at hx
      obtain ⟨hk5, rfl, rfl, rfl, rfl, rfl⟩ := hx
      have hlf1 : lf = 1 := by rw [← HLf.out]; rfl
      subst hlf1
      obtain ⟨hb, ho, hbe, hbl, hc0, hc1⟩ := HW.out.mn.hp 0 (by simp)
      dsimp only at hbe
      subst hbe
      have HCs : Hid (Cs wc gx [.int .i64 k5, .int .i64 0, .int .i64 1, .slice (some ⟨hb, ho, none⟩) 1 cn, .string ⟨#[]⟩, .int .i64 0]) := HW.out.cs
      have HKd : Hid ((if (s : Int) = 1 then (5 : Int) else 2) = k5) := hk5.symm
      clear hk5
      have y0 := HCs.out.at_ 0 _ rfl
      have y1 := HCs.out.at_ 1 _ rfl
      have y2 := HCs.out.at_ 2 _ rfl
      have y3 := HCs.out.at_ 3 _ rfl
      have y4 := HCs.out.at_ 4 _ rfl
      have y5 := HCs.out.at_ 5 _ rfl
      have yf0 := HCs.out.fz 0 (by simp)
      have yf1 := HCs.out.fz 1 (by simp)
      have yf2 := HCs.out.fz 2 (by simp)
      have yf3 := HCs.out.fz 3 (by simp)
      have yf4 := HCs.out.fz 4 (by simp)
      have yf5 := HCs.out.fz 5 (by simp)
      have ylt := HCs.out.lt
      have hc0 : wc.cell? ⟨hb, ho, none⟩ = some (.int .i64 (k : Int)) := by simpa using hc0
      clear hc1
      have c0 : wc.cell? ⟨gp, 22 + s * 8 + k, none⟩ = some (.int .i64 (H (s * 8 + k))) := by rw [Nat.add_assoc]; exact HW.out.pa.pc.ch (s * 8 + k) (by omega)
      have cf0 := HW.out.pa.pc.fz (22 + s * 8 + k) (by omega)
      have cl := HW.out.pa.pc.lt
      have hk8 : (k : Int) < 8 := by omega
      have hk0 : (0 : Int) ≤ (k : Int) := by omega
      clear hfr
      go_upto_region 5 with fail
      go_region
      obtain ⟨nh, hnh⟩ : ∃ n, n = wrap64 (H (s * 8 + k) + 1) := ⟨_, rfl⟩
      rw [← hnh]
      have HNh : Hid (0 ≤ H (s * 8 + k) → H (s * 8 + k) ≤ 1000000 → nh = H (s * 8 + k) + 1) := by
        intro a b
        rw [hnh, wrap64]
        omega
      obtain ⟨wD, hwD⟩ : ∃ x, x = (wc.setCell ⟨gp, 22 + s * 8 + k, none⟩ (.int .i64 nh)).drew := ⟨_, rfl⟩
      rw [← hwD]
      have hgs : GB gp wc wD := by rw [hwD]; exact (gb_set gp (22 + s * 8 + k) wc _).drew
      have HPD : Hid (Pa Z w0 wD gp g (upd l t T.2.2) vl now P (upd H (s * 8 + k) nh) ad cap D) := by
        have := HW.out.pa.setH (k := s * 8 + k) (by omega) nh
        rw [← Nat.add_assoc] at this
        show Pa _ _ _ _ _ _ _ _ _ _ _ _ _
        rw [hwD]
        exact this.up (Gr.refl _).drew
      have hgx : gx ≠ gp := by have := HW.out.lx; have := HP.out.pl.lx; have := HGB.out.size; omega
      have hwx : w.heap.size ≠ gp := fun e => HSy.out (Or.inr e)
      have hbx : hb ≠ gp := fun e => HP.out.pl.zp (by have := HW.out.mn.hz (by simp) _ rfl; dsimp only at this; rw [e] at this; exact this)
      have HMn := Lib.hid (HW.out.mn.gb hgs HP.out.pl.zp)
      have HMf := Lib.hid (HM2.out.gb hgs HP.out.pl.zp)
      have HKB : Hid (KB (fun b => b = g t ∨ b = gp) w wD) := ((KB.ofGr HGB.out).trans HW.out.kb).trans (KB.ofGB hgs (Or.inr rfl))
      have hc0 := hgs.keep hbl hbx hc0
      have hbl := Nat.lt_of_lt_of_le hbl hgs.size
      have y0 := hgs.keep ylt hgx y0
      have y1 := hgs.keep ylt hgx y1
      have y2 := hgs.keep ylt hgx y2
      have y3 := hgs.keep ylt hgx y3
      have y4 := hgs.keep ylt hgx y4
      have y5 := hgs.keep ylt hgx y5
      have z0 := hgs.keep zlt hwx z0
      have z6 := hgs.keep zlt hwx z6
      have z7 := hgs.keep zlt hwx z7
      have z8 := hgs.keep zlt hwx z8
      have z9 := hgs.keep zlt hwx z9
      have z10 := hgs.keep zlt hwx z10
      have z11 := hgs.keep zlt hwx z11
      have ylt := Nat.lt_of_lt_of_le ylt hgs.size
      have zlt := Nat.lt_of_lt_of_le zlt hgs.size
      clear hnh hwD hgs hgx hwx hbx c0 cf0 cl yf0 yf1 yf2 yf3 yf4 yf5 z1 z2 z3 z4 z5 HM2 HW HCs
      have HSm : Hid (∀ w', Gr wD w' → Calls Try.prog 8 #[.agg #[.int .i64 k5, .int .i64 0, .int .i64 1, .slice (some ⟨hb, ho, none⟩) 1 cn, .string ⟨#[]⟩, .int .i64 0], .agg #[.int .i64 k5, .int .i64 0, .int .i64 1, .slice ay 1 cy, .string ⟨#[]⟩, .int .i64 0]] w' fun e w2 => e = .returned (.bool true) ∧ Gr w' w2) := fun w' g => by
        have := rSameN2_any (Z := Z) ⟨⟨k5, 0, 1, [((k : Int), 1)], ⟨#[]⟩, 0⟩, some ⟨hb, ho, none⟩, cn⟩ ⟨⟨k5, 0, 1, [((k : Int), 1)], ⟨#[]⟩, 0⟩, ay, cy⟩ w' (HMn.out.gr g) (HMf.out.gr g)
        rw [decide_eq_true rfl] at this
        exact this
      have HNo : Hid (∀ w', Gr wD w' → Calls Try.prog 15 #[.int .i64 (s : Int), .int .i64 (k : Int)] w' fun e w2 => ∃ p, e = .returned (.agg #[.int .i64 k5, .int .i64 0, .int .i64 1, .slice p 1 1, .string ⟨#[]⟩, .int .i64 0]) ∧ MnAt Z w2 ⟨⟨k5, 0, 1, [((k : Int), 1)], ⟨#[]⟩, 0⟩, p, 1⟩ ∧ Gr w' w2) := fun w' g => by
        have := note_any (Z := Z) s k w' (HPD.out.up g).pl.fr
        unfold ntF at this
        rw [HKd.out] at this
        exact this
      have HSm2 : Hid (∀ w' p, Gr wD w' → MnAt Z w' ⟨⟨k5, 0, 1, [((k : Int), 1)], ⟨#[]⟩, 0⟩, p, 1⟩ → Calls Try.prog 8 #[.agg #[.int .i64 k5, .int .i64 0, .int .i64 1, .slice (some ⟨hb, ho, none⟩) 1 cn, .string ⟨#[]⟩, .int .i64 0], .agg #[.int .i64 k5, .int .i64 0, .int .i64 1, .slice p 1 1, .string ⟨#[]⟩, .int .i64 0]] w' fun e w2 => e = .returned (.bool true) ∧ Gr w' w2) := fun w' p g hp => by
        have := rSameN2_any (Z := Z) ⟨⟨k5, 0, 1, [((k : Int), 1)], ⟨#[]⟩, 0⟩, some ⟨hb, ho, none⟩, cn⟩ ⟨⟨k5, 0, 1, [((k : Int), 1)], ⟨#[]⟩, 0⟩, p, 1⟩ w' (HMn.out.gr g) hp
        rw [decide_eq_true rfl] at this
        exact this
      have HFin : Hid (∀ w', Gr wD w' → PtkR Z w0 w gp g l vl now P H ad cap D s t ⟨k5, 0, 1, [((k : Int), 1)], ⟨#[]⟩, 0⟩ T (.returned (.bool true)) w') := fun w' g =>
        ⟨rfl, _, HPD.out.up g, HKB.out.trans (KB.ofGr g), fun h => (by rw [HFr.out] at h; cases h), fun _ => ⟨k, HHk.out, HXk.out, nh, HNh.out, rfl⟩⟩
      clear HMn HMf HKB HPD HFr HHk HXk HNh HNx HN HP HLf HKd
      have hez2 : (T.1 == 0) = true := by rw [hez]; rfl
      go_wp2_with fail
      refine wp_region_held_drew (S := (fun w' => Gr wD w' ∧ w'.cell? ⟨hb, ho, none⟩ = some (.int .i64 (k : Int)) ∧ w'.cell? ⟨gx, 0, none⟩ = some (.int .i64 k5) ∧ w'.cell? ⟨gx, 1, none⟩ = some (.int .i64 0) ∧ w'.cell? ⟨gx, 2, none⟩ = some (.int .i64 1) ∧ w'.cell? ⟨gx, 3, none⟩ = some (.slice (some ⟨hb, ho, none⟩) 1 cn) ∧ w'.cell? ⟨gx, 4, none⟩ = some (.string ⟨#[]⟩) ∧ w'.cell? ⟨gx, 5, none⟩ = some (.int .i64 0) ∧ w'.cell? ⟨w.heap.size, 0, none⟩ = some (.int .i64 (s : Int)) ∧ w'.cell? ⟨w.heap.size, 6, none⟩ = some (.int .i64 k5) ∧ w'.cell? ⟨w.heap.size, 7, none⟩ = some (.int .i64 0) ∧ w'.cell? ⟨w.heap.size, 8, none⟩ = some (.int .i64 1) ∧ w'.cell? ⟨w.heap.size, 9, none⟩ = some (.slice ay 1 cy) ∧ w'.cell? ⟨w.heap.size, 10, none⟩ = some (.string ⟨#[]⟩) ∧ w'.cell? ⟨w.heap.size, 11, none⟩ = some (.int .i64 0))) (by kernel_rfl) (by exact ⟨(by repeat(first|exact Gr.r _|refine Gr.a ?_|refine Gr.d ?_|refine Gr.t ?_ (by assumption))), Gr.keep (by repeat(first|exact Gr.r _|refine Gr.a ?_|refine Gr.d ?_|refine Gr.t ?_ (by assumption))) hc0, Gr.keep (by repeat(first|exact Gr.r _|refine Gr.a ?_|refine Gr.d ?_|refine Gr.t ?_ (by assumption))) y0, Gr.keep (by repeat(first|exact Gr.r _|refine Gr.a ?_|refine Gr.d ?_|refine Gr.t ?_ (by assumption))) y1, Gr.keep (by repeat(first|exact Gr.r _|refine Gr.a ?_|refine Gr.d ?_|refine Gr.t ?_ (by assumption))) y2, Gr.keep (by repeat(first|exact Gr.r _|refine Gr.a ?_|refine Gr.d ?_|refine Gr.t ?_ (by assumption))) y3, Gr.keep (by repeat(first|exact Gr.r _|refine Gr.a ?_|refine Gr.d ?_|refine Gr.t ?_ (by assumption))) y4, Gr.keep (by repeat(first|exact Gr.r _|refine Gr.a ?_|refine Gr.d ?_|refine Gr.t ?_ (by assumption))) y5, Gr.keep (by repeat(first|exact Gr.r _|refine Gr.a ?_|refine Gr.d ?_|refine Gr.t ?_ (by assumption))) z0, Gr.keep (by repeat(first|exact Gr.r _|refine Gr.a ?_|refine Gr.d ?_|refine Gr.t ?_ (by assumption))) z6, Gr.keep (by repeat(first|exact Gr.r _|refine Gr.a ?_|refine Gr.d ?_|refine Gr.t ?_ (by assumption))) z7, Gr.keep (by repeat(first|exact Gr.r _|refine Gr.a ?_|refine Gr.d ?_|refine Gr.t ?_ (by assumption))) z8, Gr.keep (by repeat(first|exact Gr.r _|refine Gr.a ?_|refine Gr.d ?_|refine Gr.t ?_ (by assumption))) z9, Gr.keep (by repeat(first|exact Gr.r _|refine Gr.a ?_|refine Gr.d ?_|refine Gr.t ?_ (by assumption))) z10, Gr.keep (by repeat(first|exact Gr.r _|refine Gr.a ?_|refine Gr.d ?_|refine Gr.t ?_ (by assumption))) z11⟩) (fun hHeld => ?_)
      refine ty 0 51 hHeld ?_
      refine ty 1 52 hHeld ?_
      refine ty 2 53 hHeld ?_
      refine ty 3 54 hHeld ?_
      refine ty 4 55 hHeld ?_
      refine ty 5 56 hHeld ?_
      refine wpAnyH_ready (rs := [6]) (by kernel_rfl) (by simp) (AllReadyH.cons rfl (fun K hK => ?_) AllReadyH.nil)
      go_simp
      (go_at_call 8; refine (HSm.out _ hHeld.1).mono ?_; rintro e wn ⟨rfl, hgn⟩)
      (try go_wp2_with fail)
      refine hK.out _ _ (by exact ⟨(by repeat(first|exact Gr.r _|refine Gr.a ?_|refine Gr.d ?_|refine Gr.t ?_ (by assumption))), Gr.keep (by repeat(first|exact Gr.r _|refine Gr.a ?_|refine Gr.d ?_|refine Gr.t ?_ (by assumption))) hc0, Gr.keep (by repeat(first|exact Gr.r _|refine Gr.a ?_|refine Gr.d ?_|refine Gr.t ?_ (by assumption))) y0, Gr.keep (by repeat(first|exact Gr.r _|refine Gr.a ?_|refine Gr.d ?_|refine Gr.t ?_ (by assumption))) y1, Gr.keep (by repeat(first|exact Gr.r _|refine Gr.a ?_|refine Gr.d ?_|refine Gr.t ?_ (by assumption))) y2, Gr.keep (by repeat(first|exact Gr.r _|refine Gr.a ?_|refine Gr.d ?_|refine Gr.t ?_ (by assumption))) y3, Gr.keep (by repeat(first|exact Gr.r _|refine Gr.a ?_|refine Gr.d ?_|refine Gr.t ?_ (by assumption))) y4, Gr.keep (by repeat(first|exact Gr.r _|refine Gr.a ?_|refine Gr.d ?_|refine Gr.t ?_ (by assumption))) y5, Gr.keep (by repeat(first|exact Gr.r _|refine Gr.a ?_|refine Gr.d ?_|refine Gr.t ?_ (by assumption))) z0, Gr.keep (by repeat(first|exact Gr.r _|refine Gr.a ?_|refine Gr.d ?_|refine Gr.t ?_ (by assumption))) z6, Gr.keep (by repeat(first|exact Gr.r _|refine Gr.a ?_|refine Gr.d ?_|refine Gr.t ?_ (by assumption))) z7, Gr.keep (by repeat(first|exact Gr.r _|refine Gr.a ?_|refine Gr.d ?_|refine Gr.t ?_ (by assumption))) z8, Gr.keep (by repeat(first|exact Gr.r _|refine Gr.a ?_|refine Gr.d ?_|refine Gr.t ?_ (by assumption))) z9, Gr.keep (by repeat(first|exact Gr.r _|refine Gr.a ?_|refine Gr.d ?_|refine Gr.t ?_ (by assumption))) z10, Gr.keep (by repeat(first|exact Gr.r _|refine Gr.a ?_|refine Gr.d ?_|refine Gr.t ?_ (by assumption))) z11⟩) (fun hHeldN => ?_)
      clear hHeld hK K
      have hHeld := hHeldN
      clear hHeldN
      refine ty 7 58 hHeld ?_
      refine ty 8 59 hHeld ?_
      refine ty 9 60 hHeld ?_
      refine ty 10 61 hHeld ?_
      refine ty 11 62 hHeld ?_
      refine ty 12 63 hHeld ?_
      refine ty 13 64 hHeld ?_
      refine ty 14 65 hHeld ?_
      refine ty 15 66 hHeld ?_
      refine ty 16 67 hHeld ?_
      refine ty 17 68 hHeld ?_
      refine wpAnyH_ready (rs := [18]) (by kernel_rfl) (by simp) (AllReadyH.cons rfl (fun K hK => ?_) AllReadyH.nil)
      go_simp
      (go_at_call 15; refine (HNo.out _ hHeld.1).mono ?_; rintro e wn ⟨pn, rfl, hmn, hgn⟩)
      (try go_wp2_with fail)
      refine hK.out _ _ (by exact ⟨(by repeat(first|exact Gr.r _|refine Gr.a ?_|refine Gr.d ?_|refine Gr.t ?_ (by assumption))), Gr.keep (by repeat(first|exact Gr.r _|refine Gr.a ?_|refine Gr.d ?_|refine Gr.t ?_ (by assumption))) hc0, Gr.keep (by repeat(first|exact Gr.r _|refine Gr.a ?_|refine Gr.d ?_|refine Gr.t ?_ (by assumption))) y0, Gr.keep (by repeat(first|exact Gr.r _|refine Gr.a ?_|refine Gr.d ?_|refine Gr.t ?_ (by assumption))) y1, Gr.keep (by repeat(first|exact Gr.r _|refine Gr.a ?_|refine Gr.d ?_|refine Gr.t ?_ (by assumption))) y2, Gr.keep (by repeat(first|exact Gr.r _|refine Gr.a ?_|refine Gr.d ?_|refine Gr.t ?_ (by assumption))) y3, Gr.keep (by repeat(first|exact Gr.r _|refine Gr.a ?_|refine Gr.d ?_|refine Gr.t ?_ (by assumption))) y4, Gr.keep (by repeat(first|exact Gr.r _|refine Gr.a ?_|refine Gr.d ?_|refine Gr.t ?_ (by assumption))) y5, Gr.keep (by repeat(first|exact Gr.r _|refine Gr.a ?_|refine Gr.d ?_|refine Gr.t ?_ (by assumption))) z0, Gr.keep (by repeat(first|exact Gr.r _|refine Gr.a ?_|refine Gr.d ?_|refine Gr.t ?_ (by assumption))) z6, Gr.keep (by repeat(first|exact Gr.r _|refine Gr.a ?_|refine Gr.d ?_|refine Gr.t ?_ (by assumption))) z7, Gr.keep (by repeat(first|exact Gr.r _|refine Gr.a ?_|refine Gr.d ?_|refine Gr.t ?_ (by assumption))) z8, Gr.keep (by repeat(first|exact Gr.r _|refine Gr.a ?_|refine Gr.d ?_|refine Gr.t ?_ (by assumption))) z9, Gr.keep (by repeat(first|exact Gr.r _|refine Gr.a ?_|refine Gr.d ?_|refine Gr.t ?_ (by assumption))) z10, Gr.keep (by repeat(first|exact Gr.r _|refine Gr.a ?_|refine Gr.d ?_|refine Gr.t ?_ (by assumption))) z11⟩) (fun hHeldN => ?_)
      clear hHeld hK K
      have hHeld := hHeldN
      clear hHeldN
      refine wpAnyH_ready (rs := [19]) (by kernel_rfl) (by simp) (AllReadyH.cons rfl (fun K hK => ?_) AllReadyH.nil)
      go_simp
      (go_at_call 8; refine (HSm2.out _ pn hHeld.1 hmn).mono ?_; rintro e wn2 ⟨rfl, hgn⟩)
      (try go_wp2_with fail)
      refine hK.out _ _ (by exact ⟨(by repeat(first|exact Gr.r _|refine Gr.a ?_|refine Gr.d ?_|refine Gr.t ?_ (by assumption))), Gr.keep (by repeat(first|exact Gr.r _|refine Gr.a ?_|refine Gr.d ?_|refine Gr.t ?_ (by assumption))) hc0, Gr.keep (by repeat(first|exact Gr.r _|refine Gr.a ?_|refine Gr.d ?_|refine Gr.t ?_ (by assumption))) y0, Gr.keep (by repeat(first|exact Gr.r _|refine Gr.a ?_|refine Gr.d ?_|refine Gr.t ?_ (by assumption))) y1, Gr.keep (by repeat(first|exact Gr.r _|refine Gr.a ?_|refine Gr.d ?_|refine Gr.t ?_ (by assumption))) y2, Gr.keep (by repeat(first|exact Gr.r _|refine Gr.a ?_|refine Gr.d ?_|refine Gr.t ?_ (by assumption))) y3, Gr.keep (by repeat(first|exact Gr.r _|refine Gr.a ?_|refine Gr.d ?_|refine Gr.t ?_ (by assumption))) y4, Gr.keep (by repeat(first|exact Gr.r _|refine Gr.a ?_|refine Gr.d ?_|refine Gr.t ?_ (by assumption))) y5, Gr.keep (by repeat(first|exact Gr.r _|refine Gr.a ?_|refine Gr.d ?_|refine Gr.t ?_ (by assumption))) z0, Gr.keep (by repeat(first|exact Gr.r _|refine Gr.a ?_|refine Gr.d ?_|refine Gr.t ?_ (by assumption))) z6, Gr.keep (by repeat(first|exact Gr.r _|refine Gr.a ?_|refine Gr.d ?_|refine Gr.t ?_ (by assumption))) z7, Gr.keep (by repeat(first|exact Gr.r _|refine Gr.a ?_|refine Gr.d ?_|refine Gr.t ?_ (by assumption))) z8, Gr.keep (by repeat(first|exact Gr.r _|refine Gr.a ?_|refine Gr.d ?_|refine Gr.t ?_ (by assumption))) z9, Gr.keep (by repeat(first|exact Gr.r _|refine Gr.a ?_|refine Gr.d ?_|refine Gr.t ?_ (by assumption))) z10, Gr.keep (by repeat(first|exact Gr.r _|refine Gr.a ?_|refine Gr.d ?_|refine Gr.t ?_ (by assumption))) z11⟩) (fun hHeldN => ?_)
      clear hHeld hK K
      have hHeld := hHeldN
      clear hHeldN
      refine ty 20 71 hHeld ?_
      refine ty 21 4 hHeld ?_
      refine wpAnyH_done (by kernel_rfl) ?_ _
      go_wp2
      go_ret
      exact HFin.out _ hHeld.1
end Go.Proofs.Ythfbpilfdfploaa
