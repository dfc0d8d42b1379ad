/- Parts of these proofs, laid together. -/
import Derived.Test.YthfbpilfdfploaaGK
import Derived.Test.YthfbpilfdfploaaGM
import Derived.Test.YthfbpilfdfploaaGN
namespace Go.Proofs.Ythfbpilfdfploaa
open Go.RowKit
open Lk (St)

variable {Z : Nat → Prop}
/- two links in blocks of their own, both new since a world -/
structure Pr2 (Z : Nat → Prop) (w0 w : World) (ga gb : Nat) (a b : St Nx) : Prop where
  a : PkAt Z w ga a
  b : PkAt Z w gb b
  ne : ga ≠ gb
  la : w0.heap.size ≤ ga
  lb : w0.heap.size ≤ gb
  fr : Frs Z w
  gr : Gr w0 w
theorem Pr2.up {w0 w w' : World} {ga gb : Nat} {a b : St Nx} (h : Pr2 Z w0 w ga gb a b) (k : Gr w w') : Pr2 Z w0 w' ga gb a b := ⟨h.a.gr k, h.b.gr k, h.ne, h.la, h.lb, h.fr.gr k, h.gr.trans k⟩
theorem Pr2.swap {w0 w : World} {ga gb : Nat} {a b : St Nx} (h : Pr2 Z w0 w ga gb a b) : Pr2 Z w0 w gb ga b a := ⟨h.b, h.a, h.ne.symm, h.lb, h.la, h.fr, h.gr⟩
theorem Pr2.step {w0 w w' : World} {ga gb : Nat} {a b a' : St Nx} (h : Pr2 Z w0 w ga gb a b) (k : PkAt Z w' ga a') (g : GB ga w w') : Pr2 Z w0 w' ga gb a' b :=
  ⟨k, h.b.gb g h.a.nz h.ne.symm, h.ne, h.la, h.lb, h.fr.gb g, h.gr.gb g h.la⟩
/- any block but these two -/
def Nb (ga gb : Nat) : Nat → Prop := fun k => k ≠ ga ∧ k ≠ gb
theorem pr2_new {w0 w1 w2 : World} {ga gb : Nat} {a b : St Nx} (ha : ∀ Z, ¬ Z ga → PkAt Z w1 ga a) (hb : ∀ Z, ¬ Z gb → PkAt Z w2 gb b) (la : w0.heap.size ≤ ga) (lb : w1.heap.size ≤ gb) (g1 : Gr w0 w1) (g2 : Gr w1 w2) : Pr2 (Nb ga gb) w0 w2 ga gb a b := by
  have h1 : PkAt (Nb ga gb) w1 ga a := ha _ (fun k => k.1 rfl)
  have h2 : PkAt (Nb ga gb) w2 gb b := hb _ (fun k => k.2 rfl)
  have l1 := h1.lt
  have l2 := h2.lt
  have := g1.size
  have := g2.size
  exact ⟨h1.gr g2, h2, by omega, la, by omega, fun k hk => ⟨by omega, by omega⟩, g1.trans g2⟩
theorem ntsZ {w : World} {m0 : Mn} {g : Nat} {t : TypeId} (hg : g = w.heap.size) (h0 : MnAt Z w m0) : NtsAt Z (w.alloc (.cells (nC m0).toArray t)) (some ⟨g, 0, none⟩) [m0] := by
  subst hg
  refine ⟨fun j u hu => ⟨w.heap.size, 0, rfl, by simp, ?_⟩, ?_⟩
  · rw [Nat.zero_add, cell_of_row _ w.heap.size j _ _ _ (heap_alloc_new w _)]
    simpa using hu
  · intro m hm
    simp at hm
    subst hm
    exact h0.gr (Gr.refl _).alloc
/- Send of one note -/
theorem p_send {w0 w : World} {ga gb : Nat} {a b : St Nx} (h : Pr2 Z w0 w ga gb a b) (he : a.ep ≠ 0) (m : Mn) (hm : MnAt Z w m) (now : Int) (gq : Nat) (hq : gq = w.heap.size) :
    Calls Try.prog 7 #[.pointer (some ⟨ga, 0, none⟩), .int .i64 now, .slice (some ⟨gq, 0, none⟩) 1 1] (w.alloc (.cells (nC m).toArray 26)) fun e w' => e = .returned (.int .i64 (Lk.sendE CX a now [pk m.x])) ∧ Pr2 Z w0 w' ga gb (Lk.sendS CX a now [pk m.x]) b := by
  have hu := h.up (Gr.refl w).alloc (w' := w.alloc (.cells (nC m).toArray 26))
  refine (kSend_any ga a now [m] (some ⟨gq, 0, none⟩) 1 _ hu.a he hu.fr (ntsZ hq hm) (by simp)).mono ?_
  rintro e w' ⟨rfl, h1, h2⟩
  exact ⟨rfl, hu.step h1 h2⟩
/- Tick -/
theorem p_tick {w0 w : World} {ga gb : Nat} {a b : St Nx} (h : Pr2 Z w0 w ga gb a b) (he : a.ep ≠ 0) (now : Int) :
    Calls Try.prog 12 #[.pointer (some ⟨ga, 0, none⟩), .int .i64 now] w fun e w' => TkF Z (Lk.tickF CX a now) w e w' ∧ Pr2 Z w0 w' ga gb (Lk.tickS CX a now) b ∧ GB ga w w' := by
  refine (kTick_any ga a now w h.a he h.fr).mono ?_
  rintro e w' ⟨h0, h1, h2⟩
  exact ⟨h0, h.step h1 h2, h2⟩
/- Take: nothing is handed out -/
theorem p_no {w0 w : World} {ga gb : Nat} {a b a' : St Nx} {er : Int} (h : Pr2 Z w0 w ga gb a b) (he : a.ep ≠ 0) (x : Mf) (hm : MnAt Z w x.m) (now : Int) (ht : Lk.takeR CX a x.fr now = (er, false, a')) :
    Calls Try.prog 6 #[.pointer (some ⟨ga, 0, none⟩), x.v, .int .i64 now] w fun e w' => ∃ p c, e = .returned (.tuple #[.agg #[.int .i64 0, .int .i64 0, .int .i64 0, .slice p 0 c, .string ⟨#[]⟩, .int .i64 0], .bool false, .int .i64 er]) ∧ MnAt Z w' ⟨Nt.zeroN, p, c⟩ ∧ Pr2 Z w0 w' ga gb a' b ∧ GB ga w w' := by
  refine (kTake_any ga a x now w h.a he h.fr hm).mono ?_
  rintro e w' ⟨p, c, e1, h1, h2, h3⟩
  rw [ht] at e1 h1 h2
  exact ⟨p, c, e1, h1, h.step h2 h3, h3⟩
/- Take: the note is handed out -/
theorem p_yes {w0 w : World} {ga gb : Nat} {a b a' : St Nx} {er : Int} (h : Pr2 Z w0 w ga gb a b) (he : a.ep ≠ 0) (x : Mf) (hm : MnAt Z w x.m) (now : Int) (ht : Lk.takeR CX a x.fr now = (er, true, a')) :
    Calls Try.prog 6 #[.pointer (some ⟨ga, 0, none⟩), x.v, .int .i64 now] w fun e w' => ∃ p c, e = .returned (.tuple #[Mn.v ⟨x.m.x, p, c⟩, .bool true, .int .i64 er]) ∧ MnAt Z w' ⟨x.m.x, p, c⟩ ∧ Pr2 Z w0 w' ga gb a' b ∧ GB ga w w' := by
  refine (kTake_any ga a x now w h.a he h.fr hm).mono ?_
  rintro e w' ⟨p, c, e1, h1, h2, h3⟩
  rw [ht] at e1 h1 h2
  exact ⟨p, c, e1, h1, h.step h2 h3, h3⟩
/- one frame alone -/
set_option maxHeartbeats 4000000 in
theorem one_frame {w0 w : World} {e : Ending} {f t p s a c : Int} {x : Nt} (h : TkF Z [⟨f, t, p, s, a, c, pk x⟩] w0 e w) : ∃ b off cp ax cx, e = .returned (.slice (some ⟨b, off, none⟩) 1 cp) ∧ b < w.heap.size ∧
    w.cell? ⟨b, off, none⟩ = some (.int .i64 f) ∧ w.cell? ⟨b, off + 1, none⟩ = some (.int .i64 t) ∧ w.cell? ⟨b, off + 2, none⟩ = some (.int .i64 p) ∧ w.cell? ⟨b, off + 3, none⟩ = some (.int .i64 s) ∧
    w.cell? ⟨b, off + 4, none⟩ = some (.int .i64 a) ∧ w.cell? ⟨b, off + 5, none⟩ = some (.int .i64 c) ∧ w.cell? ⟨b, off + 6, none⟩ = some (.int .i64 x.k) ∧ w.cell? ⟨b, off + 7, none⟩ = some (.int .i64 x.r) ∧
    w.cell? ⟨b, off + 8, none⟩ = some (.int .i64 x.n) ∧ w.cell? ⟨b, off + 9, none⟩ = some (.slice ax x.L.length cx) ∧ w.cell? ⟨b, off + 10, none⟩ = some (.string x.d) ∧ w.cell? ⟨b, off + 11, none⟩ = some (.int .i64 x.y) ∧ MnAt Z w ⟨x, ax, cx⟩ := by
  obtain ⟨ad, cp, D, rfl, hD, he⟩ := h
  have hl : D.length = 1 := by
    have := congrArg List.length he
    rw [frs_len] at this
    exact this
  obtain ⟨_, _, e2, _, _, hit, _⟩ := hD.at
  cases e2
  match D, hl with
  | [d], _ =>
    obtain ⟨d1, d2, d3, d4, d5, d6, ⟨nx, ax, cx⟩⟩ := d
    simp only [frs, List.map_cons, List.map_nil, List.cons.injEq, and_true, Mf.fr, Lk.Fr.mk.injEq] at he
    obtain ⟨rfl, rfl, rfl, rfl, rfl, rfl, hp⟩ := he
    have hp2 := pk_inj hp
    subst hp2
    obtain ⟨b, off, rfl, hb, c0, c1, c2, c3, c4, c5, c6, c7, c8, c9, c10, c11⟩ := FrsRow.at hit.row 0 (by simp)
    simp only [List.getElem_cons_zero, Nat.zero_mul, Nat.add_zero] at c0 c1 c2 c3 c4 c5 c6 c7 c8 c9 c10 c11
    exact ⟨b, off, cp, ax, cx, rfl, hb, c0, c1, c2, c3, c4, c5, c6, c7, c8, c9, c10, c11, hit.nt _ (List.mem_singleton.2 rfl)⟩
end Go.Proofs.Ythfbpilfdfploaa
