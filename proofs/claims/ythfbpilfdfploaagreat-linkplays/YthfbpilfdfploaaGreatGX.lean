/- Parts of these proofs, laid together. -/
import Derived.Test.YthfbpilfdfploaaGreatGN
import Derived.Test.YthfbpilfdfploaaGreatGP
import Derived.Test.YthfbpilfdfploaaGreatGO
import Derived.Test.YthfbpilfdfploaaGreatGS
import Derived.Test.YthfbpilfdfploaaGreatGU
import Derived.Test.YthfbpilfdfploaaGreatGW
import Derived.Test.YthfbpilfdfploaaGreatGR
namespace Go.Proofs.YthfbpilfdfploaaGreat
open Go.RowKit
open Lk (St)

variable {Z : Nat → Prop}
/- nothing is turned but two blocks -/
structure GB2 (a b : Nat) (w w' : World) : Prop where
  size : w.heap.size ≤ w'.heap.size
  cell : ∀ g o v, g < w.heap.size → g ≠ a → g ≠ b → w.cell? ⟨g, o, none⟩ = some v → w'.cell? ⟨g, o, none⟩ = some v
theorem GB2.refl (a b : Nat) (w : World) : GB2 a b w w := ⟨Nat.le_refl _, fun _ _ _ _ _ _ h => h⟩
theorem GB2.trans {a b : Nat} {u v w : World} (h : GB2 a b u v) (k : GB2 a b v w) : GB2 a b u w := ⟨Nat.le_trans h.size k.size, fun g o x hg h1 h2 hc => k.cell g o x (Nat.lt_of_lt_of_le hg h.size) h1 h2 (h.cell g o x hg h1 h2 hc)⟩
theorem GB2.ofGr {a b : Nat} {w w' : World} (g : Gr w w') : GB2 a b w w' := ⟨g.size, fun _ _ _ _ _ _ h => g.keep h⟩
theorem GB2.ofA {a b : Nat} {w w' : World} (g : GB a w w') : GB2 a b w w' := ⟨g.size, fun _ _ _ hg h1 _ h => g.keep hg h1 h⟩
theorem GB2.ofB {a b : Nat} {w w' : World} (g : GB b w w') : GB2 a b w w' := ⟨g.size, fun _ _ _ hg _ h2 h => g.keep hg h2 h⟩
theorem GB2.alloc {a b : Nat} {u w : World} (h : GB2 a b u w) {o : Obj} : GB2 a b u (w.alloc o) := h.trans (GB2.ofGr (Gr.refl _).alloc)
theorem GB2.drew {a b : Nat} {u w : World} (h : GB2 a b u w) : GB2 a b u w.drew := h.trans (GB2.ofGr (Gr.refl _).drew)
/- both links, new since a world -/
structure Lp (Z : Nat → Prop) (w0 w : World) (gl gr : Nat) (l k : St Nx) : Prop where
  p : PkAt Z w gl l
  r : LkAt Z w gr k
  ne : gl ≠ gr
  la : w0.heap.size ≤ gl
  lb : w0.heap.size ≤ gr
  fr : Frs Z w
  up : Gr w0 w
theorem Lp.gr {w0 w w' : World} {gl gr : Nat} {l k : St Nx} (h : Lp Z w0 w gl gr l k) (g : Gr w w') : Lp Z w0 w' gl gr l k := ⟨h.p.gr g, h.r.gr g, h.ne, h.la, h.lb, h.fr.gr g, h.up.trans g⟩
theorem Lp.stepP {w0 w w' : World} {gl gr : Nat} {l k l' : St Nx} (h : Lp Z w0 w gl gr l k) (x : PkAt Z w' gl l') (g : GB gl w w') : Lp Z w0 w' gl gr l' k :=
  ⟨x, h.r.gb g h.p.nz h.ne.symm, h.ne, h.la, h.lb, h.fr.gb g, h.up.gb g h.la⟩
theorem Lp.stepR {w0 w w' : World} {gl gr : Nat} {l k k' : St Nx} (h : Lp Z w0 w gl gr l k) (x : LkAt Z w' gr k') (g : GB gr w w') : Lp Z w0 w' gl gr l k' :=
  ⟨h.p.gb g h.r.nz h.ne, x, h.ne, h.la, h.lb, h.fr.gb g, h.up.gb g h.lb⟩
/- any block but these two -/
def Nc (ga gb : Nat) : Nat → Prop := fun k => k ≠ ga ∧ k ≠ gb
theorem lp_new {w0 w1 w2 : World} {ga gb : Nat} {a b : St Nx} (ha : ∀ Z, ¬ Z ga → PkAt Z w1 ga a) (hb : ∀ Z, ¬ Z gb → LkAt Z w2 gb b) (la : w0.heap.size ≤ ga) (lb : w1.heap.size ≤ gb) (g1 : Gr w0 w1) (g2 : Gr w1 w2) : Lp (Nc ga gb) w0 w2 ga gb a b := by
  have h1 : PkAt (Nc ga gb) w1 ga a := ha _ (fun k => k.1 rfl)
  have h2 : LkAt (Nc ga gb) w2 gb b := hb _ (fun k => k.2 rfl)
  have l1 := h1.lt
  have l2 := h2.lt
  have := g1.size
  have := g2.size
  exact ⟨h1.gr g2, h2, by omega, la, by omega, fun k hk => ⟨by omega, by omega⟩, g1.trans g2⟩
/- what came in lies off both -/
theorem Lp.off {w0 w : World} {gl gr : Nat} {l k : St Nx} {m : Mn} (h : Lp (Nc gl gr) w0 w gl gr l k) (hm : MnAt Any w0 m) : MnAt (Nc gl gr) w m := by
  have h1 : MnAt (Nc gl gr) w0 m := hm.turn (fun b hb _ => ⟨by have := h.la; omega, by have := h.lb; omega⟩)
  exact h1.gr h.up
/- a row of one note, by its cells -/
theorem nts_cells {w : World} {m : Mn} {g : Nat} (hl : g < w.heap.size) (h : MnAt Z w m) (c0 : w.cell? ⟨g, 0, none⟩ = some (.int .i64 m.x.k)) (c1 : w.cell? ⟨g, 1, none⟩ = some (.int .i64 m.x.r)) (c2 : w.cell? ⟨g, 2, none⟩ = some (.int .i64 m.x.n)) (c3 : w.cell? ⟨g, 3, none⟩ = some (.slice m.ad m.x.L.length m.cap)) (c4 : w.cell? ⟨g, 4, none⟩ = some (.string m.x.d)) (c5 : w.cell? ⟨g, 5, none⟩ = some (.int .i64 m.x.y)) : NtsAt Z w (some ⟨g, 0, none⟩) [m] := by
  refine ⟨fun j u hu => ⟨g, 0, rfl, hl, ?_⟩, ?_⟩
  · rw [Nat.zero_add]
    match j, hu with
    | 0, hu => simp [nC] at hu; subst hu; exact c0
    | 1, hu => simp [nC] at hu; subst hu; exact c1
    | 2, hu => simp [nC] at hu; subst hu; exact c2
    | 3, hu => simp [nC] at hu; subst hu; exact c3
    | 4, hu => simp [nC] at hu; subst hu; exact c4
    | 5, hu => simp [nC] at hu; subst hu; exact c5
    | n + 6, hu => simp [nC] at hu
  · intro y hy
    simp at hy
    subst hy
    exact h
theorem lp_sendP {w0 w : World} {gl gr : Nat} {l k : St Nx} (h : Lp Z w0 w gl gr l k) (he : l.ep ≠ 0) (m : Mn) (now : Int) (gq : Nat) (hm : NtsAt Z w (some ⟨gq, 0, none⟩) [m]) :
    Calls Tryz.prog 8 #[.pointer (some ⟨gl, 0, none⟩), .int .i64 now, .slice (some ⟨gq, 0, none⟩) 1 1] w fun e w' => e = .returned (.int .i64 (Lk.sendE CX l now [pk m.x])) ∧ Lp Z w0 w' gl gr (Lk.sendS CX l now [pk m.x]) k ∧ GB2 gl gr w w' := by
  refine (kSend_any gl l now [m] (some ⟨gq, 0, none⟩) 1 _ h.p he h.fr hm (by simp)).mono ?_
  rintro e w' ⟨rfl, h1, h2⟩
  exact ⟨rfl, h.stepP h1 h2, GB2.ofA h2⟩
theorem lp_sendR {w0 w : World} {gl gr : Nat} {l k : St Nx} (h : Lp Z w0 w gl gr l k) (m : Mn) (now : Int) (gq : Nat) (hm : NtsAt Z w (some ⟨gq, 0, none⟩) [m]) :
    Calls Tryz.prog 9 #[.pointer (some ⟨gr, 0, none⟩), .int .i64 now, .slice (some ⟨gq, 0, none⟩) 1 1] w fun e w' => e = .returned (.int .i64 (Lk.sendE CX k now [pk m.x])) ∧ Lp Z w0 w' gl gr l (Lk.sendS CX k now [pk m.x]) ∧ GB2 gl gr w w' := by
  refine (rSend_any gr k now [m] (some ⟨gq, 0, none⟩) 1 _ h.r h.fr hm (by simp)).mono ?_
  rintro e w' ⟨rfl, h1, h2⟩
  exact ⟨rfl, h.stepR h1 h2, GB2.ofB h2⟩
/- frames that were answered, off both -/
structure FrsN (Z : Nat → Prop) (w : World) (a : Option Addr) (D : List Mf) : Prop where
  at_ : FrsAt Z w a D
  na : D ≠ [] → ∀ p, a = some p → Z p.block
  len : D.length ≤ 9223372036854775807
theorem frs_n {w0 w : World} {R : List (Lk.Fr Nx)} {e : Ending} (h : TkF Z R w0 e w) (hF : Frs Z w0) : ∃ a c D, e = .returned (.slice a D.length c) ∧ FrsN Z w a D ∧ frs D = R := by
  obtain ⟨a, c, D, rfl, hD, he⟩ := h
  obtain ⟨_, _, e2, h1, h2, hit, hb⟩ := hD.at
  cases e2
  exact ⟨a, c, D, rfl, ⟨hit, fun _ p e => hF _ (hb p e), by omega⟩, he⟩
theorem lp_tickP {w0 w : World} {gl gr : Nat} {l k : St Nx} (h : Lp Z w0 w gl gr l k) (he : l.ep ≠ 0) (now : Int) :
    Calls Tryz.prog 14 #[.pointer (some ⟨gl, 0, none⟩), .int .i64 now] w fun e w' => (∃ a c D, e = .returned (.slice a D.length c) ∧ FrsN Z w' a D ∧ frs D = Lk.tickF CX l now) ∧ Lp Z w0 w' gl gr (Lk.tickS CX l now) k ∧ GB2 gl gr w w' := by
  refine (kTick_any gl l now w h.p he h.fr).mono ?_
  rintro e w' ⟨h0, h1, h2⟩
  exact ⟨frs_n h0 h.fr, h.stepP h1 h2, GB2.ofA h2⟩
theorem lp_tickR {w0 w : World} {gl gr : Nat} {l k : St Nx} (h : Lp Z w0 w gl gr l k) (now : Int) (A : List Mf) (aA : Option Addr) (hA : FrsN Z w aA A) :
    Calls Tryz.prog 15 #[.pointer (some ⟨gr, 0, none⟩), .int .i64 now] w fun e w' => (∃ a c D, e = .returned (.slice a D.length c) ∧ FrsN Z w' a D ∧ frs D = Lk.tickF CX k now) ∧ FrsAt Z w' aA A ∧ Lp Z w0 w' gl gr l (Lk.tickS CX k now) ∧ GB2 gl gr w w' := by
  refine (rTick_any gr k now w h.r h.fr).mono ?_
  rintro e w' ⟨h0, h1, h2⟩
  exact ⟨frs_n h0 h.fr, hA.at_.gb h2 h.r.nz hA.na, h.stepR h1 h2, GB2.ofB h2⟩
theorem lp_takeP {w0 w : World} {gl gr : Nat} {l k : St Nx} (h : Lp Z w0 w gl gr l k) (he : l.ep ≠ 0) (x : Mf) (hm : MnAt Z w x.m) (now : Int) :
    Calls Tryz.prog 10 #[.pointer (some ⟨gl, 0, none⟩), x.v, .int .i64 now] w fun e w' => ∃ m : Mn, e = .returned (.tuple #[m.v, .bool (Lk.takeR CX l x.fr now).2.1, .int .i64 (Lk.takeR CX l x.fr now).1]) ∧ m.x = (if (Lk.takeR CX l x.fr now).2.1 = true then x.m.x else Nt.zeroN) ∧ MnAt Z w' m ∧ Lp Z w0 w' gl gr (Lk.takeR CX l x.fr now).2.2 k ∧ GB2 gl gr w w' := by
  refine (kTake_any gl l x now w h.p he h.fr hm).mono ?_
  rintro e w' ⟨p, c, e1, h1, h2, h3⟩
  exact ⟨_, e1, rfl, h1, h.stepP h2 h3, GB2.ofA h3⟩
theorem lp_takeR {w0 w : World} {gl gr : Nat} {l k : St Nx} (h : Lp Z w0 w gl gr l k) (x : Mf) (hm : MnAt Z w x.m) (now : Int) :
    Calls Tryz.prog 11 #[.pointer (some ⟨gr, 0, none⟩), x.v, .int .i64 now] w fun e w' => ∃ m : Mn, e = .returned (.tuple #[m.v, .bool (Lk.takeR CX k x.fr now).2.1, .int .i64 (Lk.takeR CX k x.fr now).1]) ∧ m.x = (if (Lk.takeR CX k x.fr now).2.1 = true then x.m.x else Nt.zeroN) ∧ MnAt Z w' m ∧ (∀ m2, MnAt Z w m2 → MnAt Z w' m2) ∧ Lp Z w0 w' gl gr l (Lk.takeR CX k x.fr now).2.2 ∧ GB2 gl gr w w' := by
  refine (rTake_any gr k x now w h.r h.fr hm).mono ?_
  rintro e w' ⟨p, c, e1, h1, h2, h3⟩
  exact ⟨_, e1, rfl, h1, fun m2 h => h.gb h3 ‹Lp Z w0 w gl gr l k›.r.nz, h.stepR h2 h3, GB2.ofB h3⟩
end Go.Proofs.YthfbpilfdfploaaGreat
