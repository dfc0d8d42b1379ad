/- What the proof is made of, part 16. -/
import Derived.Test.YtfobfpigbfepoaaGreatDoorTLBTexts15
import Derived.RangeFuncNested
import Derived.RangeFuncBound
import Derived.RangeFuncCalls
import Derived.RangeFuncLeaves
import Derived.RangeFuncBox
import Derived.Shelf.Abstract
import Derived.Shelf.RegionOpen
import Derived.WalkKit
import Derived.OwnWalkIn
import Derived.TacticsInMore
import Derived.LoopNIn
import Derived.LoopIn
import Derived.BigRegion
namespace Go.Proofs.YtfobfpigbfepoaaGreatDoor
open Go.RowKit
def Stays {β : Type} (q B : Nat) (I : β → World → Prop) : Prop :=
  ∀ s A C r, I s A → A.grownBy C (some r) → (r = q ∨ (B ≤ r ∧ ∃ o : Obj, A.heap[r]? = some o ∧ o.isCells = false)) → I s C
theorem Stays.put {β : Type} {q B : Nat} {I : β → World → Prop} (h : Stays q B I) {s : β} {A : World} {l : Nat} {o : Obj} (hs : I s A) (hB : B ≤ l) (hl : A.heap[l]? = some o) (ho : o.isCells = false) (o' : Obj) : I s (A.putObj l o') :=
  h s A _ l hs (grownBy_putObj' A l o') (Or.inr ⟨hB, o, hl, ho⟩)
structure Keep2 (B : Nat) (L : Loop) (A : World) : Prop where
  l : A.heap[B + 1]? = some (.loop L)
  d : A.heap[B]? = some (.deferred (some []))
theorem Keep2.turn {B q : Nat} {L : Loop} {A C : World} (h : Keep2 B L A) (g : A.grownBy C (some q)) (hq : q < B) : Keep2 B L C :=
  ⟨(g.block _ (Array.getElem?_eq_some_iff.1 h.l).1 (by simp; omega)).trans h.l, (g.block _ (Array.getElem?_eq_some_iff.1 h.d).1 (by simp; omega)).trans h.d⟩
theorem Keep2.from {B : Nat} {L : Loop} {A C : World} (h : Keep2 B L A) (k : KeepsFrom B A C) : Keep2 B L C := ⟨k.same _ _ (by omega) h.l rfl, k.same _ _ (Nat.le_refl _) h.d rfl⟩
theorem Keep2.put {B : Nat} {L L' : Loop} {A : World} (h : Keep2 B L A) : Keep2 B L' (A.putObj (B + 1) (.loop L')) :=
  ⟨World.putObj_heap_same (Array.getElem?_eq_some_iff.1 h.l).1, (World.putObj_heap_other (by omega)).trans h.d⟩
def leftBy {α : Type} (B : Nat) (Sr : World → Prop) (I : List α → World → Prop) (Ix : List α → World → Prop) (xs : List α) (A : World) : Exit → Act → World → Prop
  | .normal, _, C => KeepsFrom B A C ∧ Sr C ∧ I xs C
  | .ret, _, C => KeepsFrom B A C ∧ Ix xs C
  | _, _, _ => False
def Iters {α : Type} (F : Fence) (n : Nat) (P : Program) (gf : Nat) (args : Nat → Array Value) (encs : α → Array Value) (q : Nat) (Sr : World → Prop) (Xp : α → World → Prop) (S : List α → World → Prop) (Sp : List α → Prop) (N : Nat) : Prop :=
  ∀ (l : Nat) (J Jx : List α → World → Prop) (A : World), (∀ s C D, J s C → C.grownBy D (some q) → J s D) →
    (∀ pre x C, J pre C → Xp x C → Sr C → pre.length < N → YieldAt F (n - 1) P l (encs x) C fun e D => (e = .returned (.bool true) ∧ J (pre ++ [x]) D ∧ Sr D) ∨ (e = .returned (.bool false) ∧ Jx (pre ++ [x]) D)) →
    J [] A → Sr A → CallsIn F n P gf (args l) A fun e D => (∃ v, e = .returned v) ∧ ((∃ xs, S xs D ∧ J xs D) ∨ (∃ pre, Sp pre ∧ Jx pre D))
theorem range_by {α : Type} {F : Fence} {n : Nat} {P : Program} {g : Operand} {ps : Array Tmp} {assign body : Code} {Q : Exit → Act → World → Prop} {a : Act} {w : World}
    (hro : F.round = none) (h1 : 1 ≤ n) {gf : Nat} {fst lb : Array Value} (hg : a.eval g = .func (.func gf) fst lb) (hFg : F.fn gf) (eg : ∀ args w, (callFunc gf args).run P w = .ok (.enter gf args) w)
    {encs : α → Array Value} {q : Nat} {Sr : World → Prop} {Xp : α → World → Prop} {S : List α → World → Prop} {Sp : List α → Prop} {N : Nat}
    (hit : Iters F (n - 1) P gf (fun l => fst ++ #[.func (.yield l) #[] #[]] ++ lb) encs q Sr Xp S Sp N) (hq : q < w.heap.size)
    (hSr : ∀ A l o o', w.heap.size ≤ l → A.heap[l]? = some o → o.isCells = false → Sr A → Sr (A.putObj l o')) (hS : ∀ xs A l o o', w.heap.size ≤ l → A.heap[l]? = some o → o.isCells = false → S xs A → S xs (A.putObj l o'))
    (hps : ∀ x, (encs x).size = ps.size) (I Ix : List α → World → Prop) (hI : Stays q w.heap.size I) (hIx : Stays q w.heap.size Ix)
    (h0 : I [] w) (hs0 : Sr w) (hgr0 : ∀ A, Gr w A → Sr w → Sr A) (hIgr : ∀ s A C, I s A → Gr A C → I s C) (Ax : α → Act → World → Prop)
    (hAx : ∀ x a' A l o o', w.heap.size ≤ l → A.heap[l]? = some o → o.isCells = false → Ax x a' A → Ax x a' (A.putObj l o'))
    (hassign : ∀ (l : Nat) (pre : List α) (x : α) (A : World) (K : Act → World → Prop), I pre A → Sr A → Xp x A → w.heap.size ≤ A.heap.size → (∀ a' C, KeepsFrom w.heap.size A C → Sr C → I pre C → Ax x a' C → K a' C) →
      assign.wpIn (F.inRound l) (n - 1 - 1) P (Exit.then K (fun _ _ _ => False)) { tmps := (ps.zip (encs x)).foldl (fun t (p, v) => t.setIfInBounds p v) a.tmps, defers := [] } A)
    (hbody : ∀ (l : Nat) (pre : List α) (x : α) (a' : Act) (A : World), w.heap.size ≤ A.heap.size → I pre A → Sr A → Ax x a' A → pre.length < N → body.wpIn (F.inRound l) (n - 1 - 1) P (leftBy w.heap.size Sr I Ix (pre ++ [x]) A) a' A)
    (hdone : ∀ (xs : List α) (A : World), S xs A → I xs A → A.heap[w.heap.size]? = some (.deferred (some [])) → Q .normal { a with defers := { target := .collected w.heap.size, args := #[] } :: a.defers } A)
    (hstop : ∀ (pre : List α) (A : World), Sp pre → Ix pre A → A.heap[w.heap.size]? = some (.deferred (some [])) → Code.ret.wpIn F n P Q { a with defers := { target := .collected w.heap.size, args := #[] } :: a.defers } A) :
    (Code.rangeFunc g ps assign body).wpIn F n P Q a w := by
  refine wpIn_rangeFunc fun fn hfn => ?_
  rw [hro]
  obtain ⟨R, hR⟩ : ∃ R : LoopState → Option Code → Loop, R = fun st pe => { state := st, pending := pe, fn, tmps := a.tmps, params := ps, assign, body, defers := w.heap.size } := ⟨_, rfl⟩
  obtain ⟨W1, hW1⟩ : ∃ W1, (w.alloc (.deferred (some []))).alloc (.loop (R .ready none)) = W1 := ⟨_, rfl⟩
  have hk1 : Keep2 w.heap.size (R .ready none) W1 := by
    subst hW1
    constructor
    · have := World.alloc_heap_new (w.alloc (.deferred (some []))) (.loop (R .ready none))
      rwa [World.size_alloc] at this
    · exact (Below.heap_alloc _ _ _ (by simp)).trans (World.alloc_heap_new w _)
  have hg1 : Gr w W1 := by subst hW1; exact (Gr.refl w).alloc.alloc
  refine ⟨w.heap.size + 1, [{ target := .collected w.heap.size, args := #[] }], W1, { target := .fn (.func gf) lb, args := fst ++ #[.func (.yield (w.heap.size + 1)) #[] #[]] }, W1, gf, fst ++ #[.func (.yield (w.heap.size + 1)) #[] #[]] ++ lb, W1, ?_, ?_, ?_, ?_, fun _ => h1, ?_⟩
  · subst hW1 hR; exact run_enterLoop_outer _ _ _ _ _
  · simp only [resolve, hg]
    simp [go_sem]
  · intro f' hf'; simp [Target.leads] at hf'; subst hf'; exact hFg
  · simp [invoke, go_sem, eg]
  refine (hit (w.heap.size + 1) (fun pre A => I pre A ∧ Keep2 w.heap.size (R .ready none) A) (fun pre A => Ix pre A ∧ Keep2 w.heap.size (R .done (some .ret)) A) W1
    (fun s C D hs hg' => ⟨hI s C D q hs.1 hg' (Or.inl rfl), hs.2.turn hg' hq⟩) ?_ ⟨hIgr _ _ _ h0 hg1, hk1⟩ (hgr0 _ hg1 hs0)).mono ?_
  · rintro pre x C ⟨hi, hk⟩ hx hsr hlen
    have hy := run_yield (P := P) (args := encs x) hk.l (by subst hR; exact hps x)
    subst hR
    have hbig : w.heap.size ≤ C.heap.size := Nat.le_of_lt (Nat.lt_of_succ_lt (Array.getElem?_eq_some_iff.1 hk.l).1)
    refine ⟨fn, _, assign, body, hy, roundIn_of_wpIn hfn (hassign _ pre x C _ hi hsr hx hbig ?_)⟩
    clear hy hi hsr hx
    intro a' A hkf hsr hi hax
    have hk := hk.from hkf
    have hbig : w.heap.size ≤ A.heap.size := Nat.le_of_lt (Nat.lt_of_succ_lt (Array.getElem?_eq_some_iff.1 hk.l).1)
    refine ⟨_, run_beginRound hk.l rfl, ?_⟩
    refine wpIn_mono (hbody _ pre x a' _ (by simpa using hbig) (hI.put hi (by omega) hk.l rfl _) (hSr _ _ _ _ (by omega) hk.l rfl hsr) (hAx x a' _ _ _ _ (by omega) hk.l rfl hax) hlen) ?_
    intro e a3 D hp
    cases e with
    | normal =>
      obtain ⟨hkf, hsr, hi⟩ := hp
      have hk := Keep2.from hk.put hkf
      exact ⟨_, _, run_endRound none hk.l, .inl ⟨rfl, ⟨hI.put hi (by omega) hk.l rfl _, Keep2.put hk⟩, hSr _ _ _ _ (by omega) hk.l rfl hsr⟩⟩
    | ret =>
      obtain ⟨hkf, hi⟩ := hp
      have hk := Keep2.from hk.put hkf
      exact ⟨_, _, run_endRound (some .ret) hk.l, .inr ⟨rfl, hIx.put hi (by omega) hk.l rfl _, Keep2.put hk⟩⟩
    | exit id => exact hp.elim
    | goto t => exact hp.elim
    | panic ch => exact hp.elim
    | outgrown => exact hp.elim
  · subst hR
    rintro e D ⟨⟨v, rfl⟩, (⟨xs, hs, hi, hk⟩ | ⟨pre, hsp, hi, hk⟩)⟩
    · exact ⟨none, _, run_endLoop hk.l (by simp), hdone xs _ (hS _ _ _ _ _ (by omega) hk.l rfl hs) (hI.put hi (by omega) hk.l rfl _) ((World.putObj_heap_other (by omega)).trans hk.d)⟩
    · exact ⟨some .ret, _, run_endLoop hk.l (by simp), hstop pre _ hsp (hIx.put hi (by omega) hk.l rfl _) ((World.putObj_heap_other (by omega)).trans hk.d)⟩
end Go.Proofs.YtfobfpigbfepoaaGreatDoor
namespace Go.Proofs.YtfobfpigbfepoaaGreatDoor
open Go.RowKit Go.Shelf
open Lex (Tok ckE)
open Df (Stp tk pE pA pT pN pL)
attribute [local go_sem] Oper.semAt_some
abbrev encX (x : Int × Dm) : Array Value := #[.int .i64 x.1, .agg #[.string x.2.nm, .slice x.2.ad x.2.L.length x.2.cap]]
def xdn (x : Int × Dm) : Int × Bk.Dn := (x.1, x.2.dn)
structure SrcAt (q : Nat) (ad : Option Addr) (T : List Tok) (cap : Nat) (e p : Int) (w : World) : Prop where
  c0 : w.cell? ⟨q, 0, none⟩ = some (.slice ad T.length cap)
  c1 : w.cell? ⟨q, 1, none⟩ = some (.int .i64 e)
  c2 : w.cell? ⟨q, 2, none⟩ = some (.int .i64 p)
  f1 : w.frozen? ⟨q, 1, none⟩ = false
  f2 : w.frozen? ⟨q, 2, none⟩ = false
  lt : q < w.heap.size
  ts : ToksAt w ad T
  na : ∀ a, ad = some a → a.block ≠ q ∧ a.block < w.heap.size
theorem SrcAt.kept {q : Nat} {ad : Option Addr} {T : List Tok} {cap : Nat} {e p : Int} {w w' : World} {r : Option Nat} (h : SrcAt q ad T cap e p w) (g : w.grownBy w' r) (h1 : some q ≠ r) (h2 : T ≠ [] → ∀ a, ad = some a → some a.block ≠ r) : SrcAt q ad T cap e p w' := by
  refine ⟨grown_cell g h.c0 h.lt h1, grown_cell g h.c1 h.lt h1, grown_cell g h.c2 h.lt h1, grown_frozen g h.f1 h.lt h1, grown_frozen g h.f2 h.lt h1, Nat.lt_of_lt_of_le h.lt g.size, ?_, fun a e => ⟨(h.na a e).1, Nat.lt_of_lt_of_le (h.na a e).2 g.size⟩⟩
  intro j hj
  obtain ⟨tb, off, e, hl, d1, d2, d3⟩ := h.ts j hj
  have hne := h2 (fun hn => by rw [hn] at hj; simp at hj) _ e
  exact ⟨tb, off, e, Nat.lt_of_lt_of_le hl g.size, grown_cell g d1 hl hne, grown_cell g d2 hl hne, grown_cell g d3 hl hne⟩
theorem SrcAt.gr {q : Nat} {ad : Option Addr} {T : List Tok} {cap : Nat} {e p : Int} {w w' : World} (h : SrcAt q ad T cap e p w) (g : Gr w w') : SrcAt q ad T cap e p w' := h.kept g.grownBy (by simp) (by simp)
theorem SrcAt.put {q : Nat} {ad : Option Addr} {T : List Tok} {cap : Nat} {e p : Int} {w : World} (h : SrcAt q ad T cap e p w) {l : Nat} {o : Obj} (ho : w.heap[l]? = some o) (hc : o.isCells = false) (o' : Obj) : SrcAt q ad T cap e p (w.putObj l o') := by
  refine h.kept (grownBy_putObj' w l o') (fun e => ?_) (fun hn a ea e => ?_)
  · cases e
    obtain ⟨o2, h2, h3⟩ := cells_of_cell h.c0
    rw [ho] at h2; cases h2; rw [hc] at h3; cases h3
  · cases e
    cases T with
    | nil => exact hn rfl
    | cons t T' =>
      obtain ⟨tb, off, e', _, d1, _⟩ := h.ts 0 (by simp)
      rw [ea] at e'; cases e'
      obtain ⟨o2, h2, h3⟩ := cells_of_cell d1
      rw [ho] at h2; cases h2; rw [hc] at h3; cases h3
theorem SrcAt.fault {q : Nat} {ad : Option Addr} {T : List Tok} {cap : Nat} {e p : Int} {w : World} (h : SrcAt q ad T cap e p w) (e' p' : Int) : SrcAt q ad T cap e' p' ((w.setCell ⟨q, 1, none⟩ (.int .i64 e')).setCell ⟨q, 2, none⟩ (.int .i64 p')) := by
  obtain ⟨c0, c1, c2, f1, f2, lt, ts, na⟩ := h
  exact ⟨by simp [go_sem, *], by simp [go_sem, *], by simp [go_sem, *], by simp [go_sem, *], by simp [go_sem, *], by simpa using lt, (ts.setFar _ _ (fun a e => (na a e).1.symm)).setFar _ _ (fun a e => (na a e).1.symm), fun a e => ⟨(na a e).1, by simpa using (na a e).2⟩⟩
def SrcEnd (q : Nat) (ad : Option Addr) (T : List Tok) (cap : Nat) (xs : List (Int × Dm)) (w : World) : Prop :=
  ∃ j, Bk.goes T 0 (xs.map xdn) j ∧ ∃ e p, SrcAt q ad T cap e p w ∧ (((tk T j).k = 0 ∧ e = 0) ∨ ((tk T j).k ≠ 0 ∧ e ≠ 0 ∧ e = pE T j ∧ p = pA T j))
theorem stp_rng {s : Stp} (h : Df.stpB s = true) : inS s := by
  unfold Df.stpB at h
  simp only [Bool.or_eq_true] at h
  rcases h with h | h
  · obtain ⟨p1, ab, p3, p4, y1, y2⟩ := (Df.own_iff s).1 h
    obtain ⟨⟨k1, k2⟩, nb, n1, n2⟩ := (Act.act_iff s.k s.a s.n).1 ab
    have hz := name_le2 nb
    have hu : s.u.size = 0 := by rw [p1]; rfl
    unfold inS inI
    refine ⟨by omega, by omega, by omega, by omega, by omega, by omega, by omega⟩
  · obtain ⟨n1, q1, q2, q3, q4, o1, o2, v1, v2⟩ := (Df.ask_iff s).1 h
    have hz := name_le2 n1
    have ha : s.a.size = 0 := by rw [q2]; rfl
    unfold inS inI
    refine ⟨by omega, by omega, by omega, by omega, by omega, by omega, by omega⟩
set_option maxRecDepth 100000 in
set_option maxHeartbeats 4000000 in
theorem defs_in (n : Nat) (hn : 1 ≤ n) (q : Nat) (ad : Option Addr) (T : List Tok) (cap : Nat) (h80 : ckE T ≠ 80) (hc : T.length ≤ cap) (hl : T.length ≤ 5000) (hz : ∀ x ∈ T, x.t.size ≤ 9223372036854775807) :
    Iters Fence.wide n Tryz.prog 21 (fun l => #[.pointer (some ⟨q, 0, none⟩)] ++ #[.func (.yield l) #[] #[]] ++ #[]) encX q (SrcAt q ad T cap 0 0) (fun x w => StpsAt w x.2.ad x.2.L ∧ inD x.2) (SrcEnd q ad T cap) (fun xs => ∃ j, Bk.goes T 0 (xs.map xdn) j) T.length := by
  intro l J Jx W0 hJ hY h0 hS0
  have hT0 : 0 < T.length := (Df.gd_of h80).pos
  refine callsIn_of_wp Tryz.func21 rfl trivial ?_ rfl
  simp only [Tryz.ntmps21, List.size_toArray, List.length_cons, List.length_nil, Nat.reduceAdd, Nat.reduceSub, Array.replicate_succ, Array.replicate_zero, List.push_toArray, List.append_toArray, List.nil_append, List.cons_append]
  gi_wp2
  gi_loopw [4] (fun p wr => ∃ (j : Nat) (pre : List (Int × Dm)), p = .int .i64 j ∧ Bk.goes T 0 (pre.map xdn) j ∧ J pre wr ∧ SrcAt q ad T cap 0 0 wr) (fun p _ => T.length - (intOf p).toNat)
  case atStart => exact ⟨0, [], rfl, rfl, h0, hS0⟩
  case round =>
    obtain ⟨j, pre, rfl, hgo, hJs, hS⟩ := hrel
    obtain ⟨hjl, hlen⟩ := Bk.goes_lt h80 _ _ _ hT0 hgo
    rw [List.length_map] at hlen
    obtain ⟨b, off, rfl, hbl, t0, t1, t2⟩ := hS.ts j hjl
    have s0 := hS.c0
    have hji : (j : Int) < (T.length : Int) := by omega
    have htk : tk T j = T[j] := Df.tk_get T j hjl
    by_cases hk : T[j].k = 0
    · have hkb : (T[j].k == 0) = true := by simpa using hk
      have HFin : Hid (SrcEnd q (some ⟨b, off, none⟩) T cap pre wr) := ⟨j, hgo, 0, 0, hS, Or.inl ⟨by rw [htk]; exact hk, rfl⟩⟩
      clear hgo hS htk hY hJ h0 hS0 hz
      gi_wp2
      go_end0
      exact ⟨⟨_, rfl⟩, .inl ⟨pre, HFin.out, hJs⟩⟩
    · have hkb : (T[j].k == 0) = false := by simpa using hk
      have HP : Hid (∀ w' : World, Gr wr w' → CallsIn Fence.wide (n - 1) Tryz.prog 38 #[.slice (some ⟨b, off, none⟩) T.length cap, .int .i64 (j : Int)] w' fun e w2 => PaR w' (pN T j) (pL T j) (pT T j) (pE T j) (pA T j) e w2) := fun w' g => callsIn_wide.2 (dParse_any T _ cap (j : Int) w' (hS.ts.gr g) hc hl hz)
      have HS := Lib.hid hS
      have HJs : Hid (J pre wr) := hJs
      by_cases he : pE T j = 0
      · obtain ⟨m1, m2, m3⟩ := pT_in h80 he
        have HGo : Hid (∀ a c, Bk.goes T 0 ((pre ++ [(T[j].p, (⟨pN T j, a, c, pL T j⟩ : Dm))]).map xdn) (pT T j).toNat) := by
          intro a c
          have := Bk.goes_snoc _ _ _ hgo (by rw [htk]; exact hk) he
          rw [List.map_append]
          rw [htk] at this
          exact this
        have HIn : Hid (∀ a c, inD ⟨pN T j, a, c, pL T j⟩) := fun a c => by
          have hok := pE_ok h80 he
          obtain ⟨z1, z2, z3⟩ := ok_small hok
          refine ⟨by simp only at z1 ⊢; omega, by simp only at z2 ⊢; omega, ?_⟩
          exact fun s hs => stp_rng (((Df.def_iff _ _).1 hok).2.2.2 s hs)
        have hpl : pre.length < T.length := by omega
        have hm3 : pT T j = (((pT T j).toNat : Nat) : Int) := m3
        generalize (pT T j).toNat = nx at *
        clear hgo hS htk h0 hS0 hz m3
        generalize pE T j = PE at *
        subst he
        generalize pA T j = PA at *
        generalize pN T j = PN at *
        generalize pL T j = PL at *
        generalize pT T j = PT at *
        subst hm3
        have hmx : Tryz.prog.follows .mixedOrders = true := by kernel_rfl
        gi_wp2_with fail
        refine ⟨trivial, (HP.out _ (Gr.refl _)).mono ?_⟩
        rintro e w2 ⟨a, c, rfl, hst, hlc, hnew, hg2⟩
        have gf : Gr wr ((w2.alloc (.cells #[.string PN, .slice a PL.length c] 38)).alloc (.cells #[.int .i64 0, .int .i64 PA] 31)) := hg2.alloc.alloc
        have gi2 : Gr w2 ((w2.alloc (.cells #[.string PN, .slice a PL.length c] 38)).alloc (.cells #[.int .i64 0, .int .i64 PA] 31)) := (Gr.refl _).alloc.alloc
        have hS2 := HS.out.gr gf
        have u0 := gf.keep t0
        have u2 := gf.keep t2
        have d5 := (TwoAt.new w2 (.string PN) (.slice a PL.length c) 38 _ rfl).gr (Gr.refl _).alloc (w' := (w2.alloc (.cells #[.string PN, .slice a PL.length c] 38)).alloc (.cells #[.int .i64 0, .int .i64 PA] 31))
        have e5 := d5.c0
        have e6 := d5.c1
        have hst2 := hst.gr gi2
        have hJ2 := hJ pre wr _ hJs (grownBy_new gf _)
        gi_wp2
        obtain ⟨W2, hW2⟩ : ∃ W2, W2 = (w2.alloc (.cells #[.string PN, .slice a PL.length c] 38)).alloc (.cells #[.int .i64 0, .int .i64 PA] 31) := ⟨_, rfl⟩
        rw [← hW2] at hS2 u0 u2 e5 e6 hst2 hJ2 ⊢
        obtain ⟨fn, tmps, assign, body, hy, hR⟩ := hY pre (T[j].p, ⟨PN, a, c, PL⟩) W2.drew (hJ _ _ _ hJ2 (grownBy_drew _ _)) ⟨hst2.drew, HIn.out a c⟩ (hS2.gr (Gr.refl _).drew) hpl
        dsimp only [encX] at hy
        have s0 := hS2.c0
        clear hJ2 hst2 hS2 hY hJ hW2 d5 hJs hst hnew
        refine Code.wpIn_mono NoPanic.imp ?_
        have hR2 := hR.mono (R' := fun e W => ∃ bb : Bool, e = .returned (.bool bb) ∧ ((bb = true ∧ J (pre ++ [(T[j].p, ⟨PN, a, c, PL⟩)]) W ∧ SrcAt q (some ⟨b, off, none⟩) T cap 0 0 W) ∨ (bb = false ∧ Jx (pre ++ [(T[j].p, ⟨PN, a, c, PL⟩)]) W))) (by
          rintro e W (⟨rfl, h1, h2⟩ | ⟨rfl, h1⟩)
          · exact ⟨true, rfl, Or.inl ⟨rfl, h1, h2⟩⟩
          · exact ⟨false, rfl, Or.inr ⟨rfl, h1⟩⟩)
        clear hR
        gi_region_with_o (refine hR2.mono ?_; rintro e W3 ⟨bb, rfl, hbb⟩)
        all_goals refine NoPanic.normal ?_
        all_goals
          rcases hbb with ⟨rfl, hJ3, hk3⟩ | ⟨rfl, hJx3⟩
          · gi_wp2
            go_roundw
            case rel => exact ⟨nx, pre ++ [(T[j].p, ⟨PN, a, c, PL⟩)], rfl, HGo.out _ _, hJ3, hk3⟩
            case measure => simp [intOf]; omega
          · gi_wp2
            refine bodyPost_ret (results_none rfl _ _ _) rfl ?_
            exact ⟨⟨_, rfl⟩, .inr ⟨_, ⟨nx, HGo.out _ _⟩, hJx3⟩⟩
      · have hne : ((pE T j == 0) = false) := by simpa using he
        have HFin : Hid (∀ W, SrcAt q (some ⟨b, off, none⟩) T cap (pE T j) (pA T j) W → SrcEnd q (some ⟨b, off, none⟩) T cap pre W) := fun W h => ⟨j, hgo, _, _, h, Or.inr ⟨by rw [htk]; exact hk, he, rfl, rfl⟩⟩
        have HJq : Hid (∀ s C D, J s C → C.grownBy D (some q) → J s D) := hJ
        clear hgo hS htk hY hJ h0 hS0 hz he
        generalize pE T j = PE at *
        generalize pA T j = PA at *
        generalize pN T j = PN at *
        generalize pL T j = PL at *
        generalize pT T j = PT at *
        gi_wp2_with fail
        refine ⟨trivial, (HP.out _ (Gr.refl _)).mono ?_⟩
        rintro e w2 ⟨a, c, rfl, hst, hlc, hnew, hg2⟩
        have gf : Gr wr ((w2.alloc (.cells #[.string PN, .slice a PL.length c] 38)).alloc (.cells #[.int .i64 PE, .int .i64 PA] 31)) := hg2.alloc.alloc
        obtain ⟨c0, c1, c2, f1, f2, lt, _, _⟩ := HS.out.gr gf
        have HSF := Lib.hid (HFin.out _ ((HS.out.gr gf).fault PE PA))
        have HJF : Hid (J pre ((((w2.alloc (.cells #[.string PN, .slice a PL.length c] 38)).alloc (.cells #[.int .i64 PE, .int .i64 PA] 31)).setCell ⟨q, 1, none⟩ (.int .i64 PE)).setCell ⟨q, 2, none⟩ (.int .i64 PA))) :=
          HJq.out _ _ _ HJs.out (grownBy_trans (grownBy_trans (grownBy_new gf _) (grown_set _ _ _)) (grown_set _ _ _))
        gi_wp2
        refine bodyPost_ret (results_none rfl _ _ _) rfl ?_
        exact ⟨⟨_, rfl⟩, .inl ⟨pre, HSF.out, HJF.out⟩⟩
end Go.Proofs.YtfobfpigbfepoaaGreatDoor
namespace Go.Proofs.YtfobfpigbfepoaaGreatDoor
open Go.RowKit
open Lex (Tok S scF scA scT)
theorem sc_big {s : ByteArray} (h : 2000 < s.size) : scF s.data.toList = 3 ∧ scA s.data.toList = 0 ∧ scT s.data.toList = [] := by
  have hl : s.data.toList.length = s.size := by simp
  unfold Lex.scF Lex.scA Lex.scT
  rw [hl, if_pos h, if_pos h, if_pos h]; exact ⟨rfl, rfl, rfl⟩
theorem sc_yes {s : ByteArray} (h : ¬ 2000 < s.size) (h2 : (S s.data.toList 0).2 = none) : scF s.data.toList = 0 ∧ scA s.data.toList = 0 ∧ scT s.data.toList = (S s.data.toList 0).1 := by
  have hl : s.data.toList.length = s.size := by simp
  unfold Lex.scF Lex.scA Lex.scT
  rw [hl, if_neg h, if_neg h, if_neg h, h2]; exact ⟨rfl, rfl, rfl⟩
theorem sc_no {s : ByteArray} (h : ¬ 2000 < s.size) {p : Nat} (h2 : (S s.data.toList 0).2 = some p) : scF s.data.toList = 80 ∧ scA s.data.toList = p ∧ scT s.data.toList = [] := by
  have hl : s.data.toList.length = s.size := by simp
  unfold Lex.scF Lex.scA Lex.scT
  rw [hl, if_neg h, if_neg h, if_neg h, h2]; exact ⟨rfl, rfl, rfl⟩
set_option maxHeartbeats 4000000 in
set_option maxRecDepth 100000 in
theorem Scan_any (s : ByteArray) (w : World) : Calls Tryz.prog 20 #[.string s] w fun e w' => ∃ ad cap, e = .returned (.tuple #[.slice ad (scT s.data.toList).length cap, .agg #[.int .i64 (scF s.data.toList), .int .i64 (scA s.data.toList)]]) ∧ (scT s.data.toList).length ≤ cap ∧ ToksAt w' ad (scT s.data.toList) ∧ (∀ a, ad = some a → w.heap.size ≤ a.block) ∧ Gr w w' := by
  by_cases hb : 2000 < s.size
  · obtain ⟨h1, h2, h3⟩ := sc_big hb
    rw [h1, h2, h3]
    have hbi : (2000 : Int) < (s.size : Int) := by omega
    clear h1 h2 h3
    go_enter Tryz.func20, Tryz.ntmps20
    go_wp2
    exact bodyPost_ret (v := .tuple #[.slice none 0 0, .agg #[.int .i64 3, .int .i64 0]]) (by simp [results, Tryz.results20, go_sem]) rfl ⟨none, 0, rfl, by simp, ToksAt.nil, (fun a e => by cases e), (by (repeat' (first | with_reducible exact Gr.refl _ | with_reducible refine Gr.set ?_ _ ?_ _ | with_reducible refine Gr.alloc ?_ | with_reducible refine Gr.drew ?_ | with_reducible refine Gr.trans ?_ (by assumption))) <;> (first | (simp; done) | (simp; omega) | omega))⟩
  have hbi : ¬ (2000 : Int) < (s.size : Int) := by omega
  have HS : Hid (∀ (b : Nat) (w' : World), ScAt w' b s 0 (.slice none 0 0) → Calls Tryz.prog 37 #[.pointer (some ⟨b, 0, none⟩)] w' fun e w2 => ∃ x y : Int, e = .returned (.agg #[.int .i64 x, .int .i64 y]) ∧ w'.grownBy w2 (some b) ∧
      (((S s.data.toList 0).2 = none ∧ x = 0 ∧ y = 0 ∧ ∃ ad cap, ScAt w2 b s s.size (.slice ad (S s.data.toList 0).1.length cap) ∧ (S s.data.toList 0).1.length ≤ cap ∧ ToksAt w2 ad (S s.data.toList 0).1 ∧ ∀ a, ad = some a → w'.heap.size ≤ a.block) ∨ (∃ p : Nat, (S s.data.toList 0).2 = some p ∧ x = 80 ∧ y = p))) := fun b w' h => scan_any b s w' h (by omega)
  have HC0 : Hid (ScAt ((w.alloc (.cells #[.int .i64 0, .int .i64 0] 31)).alloc (.cells #[.string s, .int .i64 0, .slice none 0 0] 90)) (w.heap.size + 1) s 0 (.slice none 0 0)) :=
    ⟨⟨by simp, by simp, by simp [go_sem], by simp⟩, by simp, by simp [go_sem]⟩
  have HF0 : Hid (FaAt ((w.alloc (.cells #[.int .i64 0, .int .i64 0] 31)).alloc (.cells #[.string s, .int .i64 0, .slice none 0 0] 90)) w.heap.size 0 0) := (FaAt.new w 0 0 31 _ rfl).gr (Gr.refl _).alloc
  have HY := @sc_yes s hb
  have HN := @sc_no s hb
  generalize scT s.data.toList = RT at *
  generalize scF s.data.toList = RF at *
  generalize scA s.data.toList = RA at *
  generalize S s.data.toList 0 = SS at *
  have HY' : Hid (SS.2 = none → RF = 0 ∧ RA = 0 ∧ RT = SS.1) := HY
  have HN' : Hid (∀ {p : Nat}, SS.2 = some p → RF = 80 ∧ RA = p ∧ RT = []) := HN
  clear HY HN hb
  go_enter Tryz.func20, Tryz.ntmps20
  go_wp2_with fail
  refine (HS.out _ _ HC0.out).mono ?_
  rintro e w1 ⟨x, y, rfl, hgb, hor⟩
  have HF1 : Hid (FaAt w1 w.heap.size 0 0) := HF0.out.grown hgb (by simp)
  have HG1 : Hid (Gr w w1) := Gr.grown (Gr.refl w).alloc.alloc hgb (fun g e => by cases e; omega)
  obtain ⟨r0, r1, f0, f1, rl⟩ := HF1.out
  rcases hor with ⟨h1, rfl, rfl, ad, cap, hsc, hcp, htk, hfr⟩ | ⟨p, h1, rfl, rfl⟩
  · obtain ⟨rfl, rfl, rfl⟩ := HY'.out h1
    have HT1 : Hid (ToksAt w1 ad SS.1) := htk
    have HFR : Hid (∀ a, ad = some a → w.heap.size + 2 ≤ a.block) := fun a e => by have := hfr a e; simp at this; omega
    obtain ⟨⟨q0, q1, qf1, ql⟩, q2, qf2⟩ := hsc
    clear htk hfr h1 hgb
    go_wp2
    refine bodyPost_ret (v := .tuple #[.slice ad SS.1.length cap, .agg #[.int .i64 0, .int .i64 0]]) (by simp [results, Tryz.results20, go_sem, *]) rfl ⟨ad, cap, rfl, hcp, ?_, (fun a e => by have := HFR.out a e; omega), ?_⟩
    · exact ((HT1.out.setFar _ _ (fun a e => by have := HFR.out a e; simp; omega)).setFar _ _ (fun a e => by have := HFR.out a e; simp; omega)).gr (Gr.refl _).alloc
    · have hg1 := HG1.out
      exact (by (repeat' (first | with_reducible exact Gr.refl _ | with_reducible refine Gr.set ?_ _ ?_ _ | with_reducible refine Gr.alloc ?_ | with_reducible refine Gr.drew ?_ | with_reducible refine Gr.trans ?_ (by assumption))) <;> (first | (simp; done) | (simp; omega) | omega))
  · obtain ⟨rfl, rfl, rfl⟩ := HN'.out h1
    clear h1 hgb
    go_wp2
    go_region
    go_wp2
    refine bodyPost_ret (v := .tuple #[.slice none 0 0, .agg #[.int .i64 80, .int .i64 (p : Int)]]) (by simp [results, Tryz.results20, go_sem, *]) rfl ⟨none, 0, rfl, by simp, ToksAt.nil, (fun a e => by cases e), ?_⟩
    have hg1 := HG1.out
    exact (by (repeat' (first | with_reducible exact Gr.refl _ | with_reducible refine Gr.set ?_ _ ?_ _ | with_reducible refine Gr.alloc ?_ | with_reducible refine Gr.drew ?_ | with_reducible refine Gr.trans ?_ (by assumption))) <;> (first | (simp; done) | (simp; omega) | omega))
end Go.Proofs.YtfobfpigbfepoaaGreatDoor
