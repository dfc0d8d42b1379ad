/- Parts of these proofs, laid together. -/
import Derived.Test.YthfbpilfdfploaaGR
import Derived.Test.YthfbpilfdfploaaGO
import Derived.Test.YthfbpilfdfploaaGP
namespace Go.Proofs.Ythfbpilfdfploaa.Lk
open Wn (Wd)
open Ox (It)

section
variable {α : Type}
/- what frames leave at y, z behind them -/
structure Dlv (now : Int) (x y z : St α) (fs : List (Fr α)) : Prop where
  ep : z.ep = y.ep
  ow : y.ow = true → z.ow = true
  nil : y.it = [] → z.it = []
  dl : ∀ T, now ≤ T → (∀ i ∈ y.it, i.d ≤ T) → ∀ i ∈ z.it, i.d ≤ T
  kn : y.kn = x.ep → z.kn = x.ep ∧ z.nx = y.nx ∧ (∀ i ∈ z.it, i ∈ y.it) ∧ ∀ n, Wn.has y.wn n = true → Wn.has z.wn n = true
  new : fs ≠ [] → z.kn = x.ep
  owe : fs ≠ [] → x.kn ≠ y.ep → z.ow = true
  num : (∃ f ∈ fs, f.s ≠ 0) → z.ow = true
  has : x.kn = y.ep → ∀ f ∈ fs, f.s ≠ 0 → Wn.has z.wn f.s = true
  ans : x.kn = y.ep → fs ≠ [] → ∀ i ∈ z.it, x.wn.low < i.q
def Dl (x : St α) (T : Int) : Prop := ∀ i ∈ x.it, i.d ≤ T
def Syn (x y : St α) : Prop := x.kn = y.ep ∧ y.kn = x.ep
def In2 (x y : St α) (T : Int) : Prop := ∀ i ∈ x.it, Wn.has y.wn i.q = true ∨ i.d ≤ T
def AllH (x y : St α) : Prop := ∀ i ∈ x.it, Wn.has y.wn i.q = true
/- within so many rounds nothing of x's is on its way -/
def Rem (n t : Int) (x y : St α) : Prop :=
  x.it = [] ∨ (∃ T, t ≤ T ∧ T - t + 21 ≤ n ∧ Dl x T) ∨ (20 ≤ n ∧ y.kn = x.ep ∧ y.ow = true) ∨ (∃ T, t ≤ T ∧ T - t + 11 ≤ n ∧ Syn x y ∧ In2 x y T) ∨
    (∃ T, t ≤ T ∧ T - t + 2 ≤ n ∧ Syn x y ∧ AllH x y ∧ Dl x T) ∨ (1 ≤ n ∧ Syn x y ∧ AllH x y ∧ y.ow = true)
variable {C : Ctx α} {nt : Int → Nat → α} {now B s : Int} {x y : St α} {F : List (Fr α)}
theorem full (h : Side C nt now B s x y F) (hw : Wn.may y.wn = true) (hs : Syn x y) (ha : AllH x y) : x.nx - 1 ≤ y.wn.low := by
  obtain ⟨a, a1, a2, a3, a4⟩ := h.row
  have h4 := a4 hs.1
  unfold lev at h4
  rw [if_pos hs.2] at h4
  by_cases c : x.nx - 1 ≤ y.wn.low
  · exact c
  · obtain ⟨i, hi, hq⟩ := Row.all a2 (y.wn.low + 1) (by omega) (by omega)
    have hh := ha i hi
    rw [hq] at hh
    obtain ⟨_, _, h3⟩ := (Wn.may_iff y.wn).1 hw
    rcases (Wn.has_iff _ _).1 hh with h | h
    · have := h3 _ h; omega
    · omega
theorem rem_start (h : Side C nt now B s x y F) {n : Int} (hn : 29 ≤ n) : Rem n now x y := Or.inr (Or.inl ⟨now + 8, by omega, by omega, h.due⟩)
theorem rem_end {t : Int} (h : Rem 0 t x y) : x.it = [] := by
  rcases h with h | ⟨T, h1, h2, _⟩ | ⟨h1, _⟩ | ⟨T, h1, h2, _⟩ | ⟨T, h1, h2, _⟩ | ⟨h1, _⟩
  · exact h
  all_goals omega
/- x ticks, and all frames come to y -/
structure Half (C : Ctx α) (nt : Int → Nat → α) (now B s : Int) (x y x1 y1 : St α) (fs : List (Fr α)) : Prop where
  sx : Side C nt now B s x1 y1 []
  sy : Side C nt now B (1 - s) y1 x1 []
  ep : x1.ep = x.ep
  kn : x1.kn = x.kn
  nx : x1.nx = x.nx
  wn : x1.wn = x.wn
  it : x1.it = x.it.map (Ox.tick now)
  d : Dlv now x1 y y1 fs
  ow : x.ow = true → fs ≠ []
  du : ∀ i ∈ x.it, i.d ≤ now → ∃ g ∈ fs, g.s = i.q
variable {x1 y1 : St α} {fs : List (Fr α)} {T : Int}
/- x's own half -/
theorem Half.p1 (h : Half C nt now B s x y x1 y1 fs) (hx : Side C nt now B s x y []) (hd : Dl x T) : x1.it = [] ∨ (y1.kn = x1.ep ∧ y1.ow = true) ∨ (now < T ∧ Dl x1 T) := by
  by_cases c : ∃ i ∈ x.it, i.d ≤ now
  · obtain ⟨i, hi, hdi⟩ := c
    obtain ⟨g, hg, hq⟩ := h.du i hi hdi
    obtain ⟨a, a1, a2, _⟩ := hx.row
    have := (Row.mem a2 i hi).1
    exact Or.inr (Or.inl ⟨h.d.new (by intro e; rw [e] at hg; cases hg), h.d.num ⟨g, hg, by omega⟩⟩)
  · have hsame : ∀ i ∈ x.it, Ox.tick now i = i := fun i hi => by
      unfold Ox.tick
      rw [if_neg (fun e => c ⟨i, hi, e⟩)]
    have hit : x1.it = x.it := by
      rw [h.it]
      conv => rhs; rw [← List.map_id x.it]
      exact List.map_congr_left (fun i hi => hsame i hi)
    cases e : x.it with
    | nil => exact Or.inl (hit.trans e)
    | cons z r =>
      have hz : z ∈ x.it := by rw [e]; simp
      have h1 := hd z hz
      have h2 : ¬ z.d ≤ now := fun k => c ⟨z, hz, k⟩
      exact Or.inr (Or.inr ⟨by omega, fun i hi => hd i (by rw [hit] at hi; exact hi)⟩)
theorem Half.keep (h : Half C nt now B s x y x1 y1 fs) (hk : y.kn = x.ep) : y1.kn = x1.ep ∧ ∀ n, Wn.has y.wn n = true → Wn.has y1.wn n = true := by
  have := h.d.kn (by rw [h.ep]; exact hk)
  exact ⟨this.1, this.2.2.2⟩
theorem Half.syn (h : Half C nt now B s x y x1 y1 fs) (hs : Syn x y) : Syn x1 y1 := ⟨by rw [h.kn, h.d.ep]; exact hs.1, (h.keep hs.2).1⟩
theorem Half.in2 (h : Half C nt now B s x y x1 y1 fs) (hx : Side C nt now B s x y []) (hs : Syn x y) (hi2 : In2 x y T) : In2 x1 y1 T ∧ (T ≤ now → AllH x1 y1) := by
  have key : ∀ i ∈ x1.it, Wn.has y1.wn i.q = true ∨ (i.d ≤ T ∧ now < i.d) := fun i hi => by
    rw [h.it] at hi
    obtain ⟨j, hj, rfl⟩ := List.mem_map.1 hi
    rw [Ox.tick_q]
    by_cases c : j.d ≤ now
    · obtain ⟨g, hg, hq⟩ := h.du j hj c
      obtain ⟨a, a1, a2, _⟩ := hx.row
      have := (Row.mem a2 j hj).1
      have := h.d.has (by rw [h.kn]; exact hs.1) g hg (by omega)
      rw [hq] at this
      exact Or.inl this
    · rcases hi2 j hj with k | k
      · exact Or.inl ((h.keep hs.2).2 _ k)
      · right
        unfold Ox.tick
        rw [if_neg c]
        exact ⟨k, by omega⟩
  refine ⟨fun i hi => (key i hi).imp id (fun k => k.1), fun hT i hi => ?_⟩
  rcases key i hi with k | ⟨k1, k2⟩
  · exact k
  · omega
theorem Half.allh (h : Half C nt now B s x y x1 y1 fs) (hs : Syn x y) (ha : AllH x y) : AllH x1 y1 := fun i hi => by
  rw [h.it] at hi
  obtain ⟨j, hj, rfl⟩ := List.mem_map.1 hi
  rw [Ox.tick_q]
  exact (h.keep hs.2).2 _ (ha j hj)
/- the other's half: y ticks, and all frames come to x: the same with the names exchanged -/
theorem Half.o1 (h : Half C nt now B (1 - s) y x y1 x1 fs) (hk : y.kn = x.ep) (ho : y.ow = true) : Syn x1 y1 :=
  ⟨h.d.new (h.ow ho), by rw [h.kn, h.d.ep]; exact hk⟩
theorem Half.osyn (h : Half C nt now B (1 - s) y x y1 x1 fs) (hs : Syn x y) : Syn x1 y1 ∧ ∀ i ∈ x1.it, i ∈ x.it := by
  have := h.d.kn (by rw [h.ep]; exact hs.1)
  exact ⟨⟨this.1, by rw [h.kn, h.d.ep]; exact hs.2⟩, this.2.2.1⟩
theorem Half.oin2 (h : Half C nt now B (1 - s) y x y1 x1 fs) (hs : Syn x y) (hi : In2 x y T) : In2 x1 y1 T := fun i hi1 => by rw [h.wn]; exact hi i ((h.osyn hs).2 i hi1)
theorem Half.oall (h : Half C nt now B (1 - s) y x y1 x1 fs) (hs : Syn x y) (ha : AllH x y) : AllH x1 y1 := fun i hi1 => by rw [h.wn]; exact ha i ((h.osyn hs).2 i hi1)
theorem Half.oend (h : Half C nt now B (1 - s) y x y1 x1 fs) (hx : Side C nt now B s x y []) (hy : Side C nt now B (1 - s) y x []) (hs : Syn x y) (ha : AllH x y) (ho : y.ow = true) : x1.it = [] := by
  have hf := full hx hy.wm hs ha
  have hans := h.d.ans (by rw [h.kn]; exact hs.2) (h.ow ho)
  cases e : x1.it with
  | nil => rfl
  | cons z r =>
    have hz : z ∈ x1.it := by rw [e]; simp
    have h1 := hans z hz
    rw [h.wn] at h1
    obtain ⟨a, a1, a2, a3, _⟩ := hx.row
    have h2 := (Row.mem a2 z ((h.osyn hs).2 z hz)).2
    omega
variable [DecidableEq α]
def dlv (C : Ctx α) (y : St α) (fs : List (Fr α)) (now : Int) : St α := fs.foldl (fun y f => (takeR C y f now).2.2) y
theorem dlv_all (hN : NtOk C nt) (hs : s = 0 ∨ s = 1) (hB : B ≤ 1000000) (ht : Ox.tmB now = true) : ∀ (fs : List (Fr α)) (y : St α), Side C nt now B s x y F → Side C nt now B (1 - s) y x F →
    (∀ f ∈ fs, f ∈ F ∧ f.f = s ∧ f.e = x.ep ∧ f.a = x.kn ∧ f.c = x.wn.low ∧ (f.s ≠ 0 → f.s < x.nx)) →
    Side C nt now B s x (dlv C y fs now) F ∧ Side C nt now B (1 - s) (dlv C y fs now) x F ∧ Dlv now x y (dlv C y fs now) fs
  | [], y, hx, hy, _ => ⟨hx, hy, rfl, id, id, fun _ _ h => h, fun e => ⟨e, rfl, fun _ h => h, fun _ h => h⟩, fun h => absurd rfl h, fun h => absurd rfl h, fun ⟨f, hf, _⟩ => (by cases hf), fun _ f hf => (by cases hf), fun _ h => absurd rfl h⟩
  | f :: r, y, hx, hy, hfs => by
    obtain ⟨g1, g2, g3, g4, g5, g6⟩ := hfs f (by simp)
    obtain ⟨kx, ky, kc⟩ := fair_take hN hs hB ht hx hy g1 g2
    obtain ⟨ix, iy, id'⟩ := dlv_all hN hs hB ht r (takeR C y f now).2.2 kx ky (fun g hg => hfs g (List.mem_cons_of_mem _ hg))
    have hz : dlv C y (f :: r) now = dlv C (takeR C y f now).2.2 r now := rfl
    rw [hz]
    obtain ⟨n1, n2, n3, n4⟩ := kc.new g3
    obtain ⟨m1, m2, m3, m4⟩ := id'.kn n1
    have hep : (takeR C y f now).2.2.ep = y.ep := kc.ep
    refine ⟨ix, iy, id'.ep.trans hep, fun h => id'.ow (kc.ow h), fun h => id'.nil (kc.nil h), fun T hT h => id'.dl T hT (kc.dl T hT h), fun e => ?_, fun _ => m1, fun _ h => id'.ow (n2 (by rw [g4]; exact h)), fun hq => ?_, fun e g hg hq => ?_, fun e _ i hi => ?_⟩
    · obtain ⟨c1, c2, c3, c4⟩ := kc.kn e
      exact ⟨m1, m2.trans c2, fun i hi => c3 i (m3 i hi), fun n hn => m4 n (c4 n hn)⟩
    · obtain ⟨g, hg, hq⟩ := hq
      rcases List.mem_cons.1 hg with rfl | hg
      · by_cases ha : g.a = y.ep
        · exact id'.ow (n3 ha hq).1
        · exact id'.ow (n2 ha)
      · exact id'.num ⟨g, hg, hq⟩
    · rcases List.mem_cons.1 hg with rfl | hg
      · exact m4 _ ((n3 (g4.trans e) hq).2 (g6 hq))
      · exact id'.has (by rw [hep]; exact e) g hg hq
    · rw [← g5]
      exact n4 (g4.trans e) i (m3 i hi)
theorem half (hN : NtOk C nt) (hs : s = 0 ∨ s = 1) (hB : B ≤ 1000000) (ht : Ox.tmB now = true) (hx : Side C nt now B s x y []) (hy : Side C nt now B (1 - s) y x []) :
    Half C nt now B s x y (tickS C x now) (dlv C y (tickF C x now) now) (tickF C x now) := by
  have tx := hx.tick ht
  rw [List.nil_append] at tx
  have hS := tick_of hx ht
  have hsent := fun g hg => tick_sent hx (g := g) hg
  have ty : Side C nt now B (1 - s) y (tickS C x now) (tickF C x now) := by
    have h1 : Side C nt now B (1 - s) y (tickS C x now) [] := hy.recv (by rw [hS]) (fun _ => by rw [hS]; exact Int.le_refl _)
    exact ⟨h1.me, h1.wi, h1.e1, h1.e2, h1.k0, h1.k1, h1.may, h1.nts, h1.due, h1.row, h1.nb, h1.b14, h1.wm, h1.wh, fun g hg hgs => by have := (hsent g hg).f; omega⟩
  obtain ⟨a, a1, a2, a3, _⟩ := hx.row
  obtain ⟨dx, dy, dd⟩ := dlv_all hN hs hB ht (tickF C x now) y tx ty (fun g hg => by
    obtain ⟨g1, g2, g3, g4, g5, g6⟩ := hsent g hg
    refine ⟨hg, g1, by rw [hS]; exact g3, by rw [hS]; exact g4, by rw [hS]; exact g5, fun hq => ?_⟩
    rcases g6 with ⟨e, _⟩ | ⟨i, hi, _, e, _⟩
    · exact absurd e hq
    · have := (Row.mem a2 i hi).2
      rw [hS, e]
      show i.q < x.nx
      omega)
  exact ⟨dx.frames (fun g hg => by cases hg), dy.frames (fun g hg => by cases hg), by rw [hS], by rw [hS], by rw [hS], by rw [hS], by rw [hS], dd, fun h => tick_owes C ht h, fun i hi hd => tick_due hx ht hi hd⟩
end
end Go.Proofs.Ythfbpilfdfploaa.Lk
namespace Go.Proofs.Ythfbpilfdfploaa.Lk
open Wn (Wd)
open Ox (It)

section
variable {α : Type} {C : Ctx α} {nt : Int → Nat → α} {t n B s : Int} {x y x1 y1 x2 y2 : St α} {fs gs : List (Fr α)}
theorem one_one : 1 - (1 - s) = s := by omega
theorem dl_syn {h : Syn x2 y2} (hd : ∀ i ∈ x2.it, i.d ≤ t + 8) (hn : 19 ≤ n) : Rem n t x2 y2 := Or.inr (Or.inr (Or.inr (Or.inl ⟨t + 8, by omega, by omega, h, fun i hi => Or.inr (hd i hi)⟩)))
/- a round in which x ticks first -/
theorem rem_first (hx : Side C nt (t + 1) B s x y []) (h1 : Half C nt (t + 1) B s x y x1 y1 fs) (h2 : Half C nt (t + 1) B (1 - s) y1 x1 y2 x2 gs) (hn : 0 ≤ n) (hr : Rem (n + 1) t x y) : Rem n (t + 1) x2 y2 := by
  have hdue : ∀ i ∈ x2.it, i.d ≤ t + 1 + 8 := h2.sy.due
  rcases hr with h | ⟨T, a1, a2, a3⟩ | ⟨a1, a2, a3⟩ | ⟨T, a1, a2, a3, a4⟩ | ⟨T, a1, a2, a3, a4, a5⟩ | ⟨a1, a2, a3, a4⟩
  · exact Or.inl (h2.d.nil (by rw [h1.it, h]; rfl))
  · rcases h1.p1 hx a3 with e | ⟨e1, e2⟩ | ⟨e1, e2⟩
    · exact Or.inl (h2.d.nil e)
    · exact dl_syn (h := h2.o1 e1 e2) hdue (by omega)
    · exact Or.inr (Or.inl ⟨T, by omega, by omega, h2.d.dl T (by omega) e2⟩)
  · exact dl_syn (h := h2.o1 (h1.keep a2).1 (h1.d.ow a3)) hdue (by omega)
  · obtain ⟨b1, b2⟩ := h1.in2 hx a3 a4
    have hs := h1.syn a3
    by_cases c : T ≤ t + 1
    · exact Or.inr (Or.inr (Or.inr (Or.inr (Or.inl ⟨t + 1 + 8, by omega, by omega, (h2.osyn hs).1, h2.oall hs (b2 c), hdue⟩))))
    · exact Or.inr (Or.inr (Or.inr (Or.inl ⟨T, by omega, by omega, (h2.osyn hs).1, h2.oin2 hs b1⟩)))
  · have hs := h1.syn a3
    have ha := h1.allh a3 a4
    rcases h1.p1 hx a5 with e | ⟨e1, e2⟩ | ⟨e1, e2⟩
    · exact Or.inl (h2.d.nil e)
    · exact Or.inl (h2.oend h1.sx h1.sy hs ha e2)
    · exact Or.inr (Or.inr (Or.inr (Or.inr (Or.inl ⟨T, by omega, by omega, (h2.osyn hs).1, h2.oall hs ha, h2.d.dl T (by omega) e2⟩))))
  · exact Or.inl (h2.oend h1.sx h1.sy (h1.syn a2) (h1.allh a2 a3) (h1.d.ow a4))
/- a round in which y ticks first -/
theorem rem_second (hx : Side C nt (t + 1) B s x y []) (hy : Side C nt (t + 1) B (1 - s) y x []) (h1 : Half C nt (t + 1) B (1 - s) y x y1 x1 fs) (h2 : Half C nt (t + 1) B s x1 y1 x2 y2 gs) (hn : 0 ≤ n) (hr : Rem (n + 1) t x y) : Rem n (t + 1) x2 y2 := by
  have hx1 : Side C nt (t + 1) B s x1 y1 [] := by have := h1.sy; rw [one_one] at this; exact this
  have hdue : ∀ i ∈ x2.it, i.d ≤ t + 1 + 8 := h2.sx.due
  have p1 : ∀ T, t ≤ T → Dl x T → x2.it = [] ∨ (y2.kn = x2.ep ∧ y2.ow = true) ∨ (t + 1 < T ∧ Dl x2 T) := fun T hT hd => by
    have hd1 : Dl x1 (max T (t + 1)) := h1.d.dl _ (by omega) (fun i hi => by have := hd i hi; omega)
    rcases h2.p1 hx1 hd1 with e | e | ⟨e1, e2⟩
    · exact Or.inl e
    · exact Or.inr (Or.inl e)
    · have hm : max T (t + 1) = T := by omega
      rw [hm] at e1 e2
      exact Or.inr (Or.inr ⟨e1, e2⟩)
  have nil : x1.it = [] → x2.it = [] := fun e => by rw [h2.it, e]; rfl
  rcases hr with h | ⟨T, a1, a2, a3⟩ | ⟨a1, a2, a3⟩ | ⟨T, a1, a2, a3, a4⟩ | ⟨T, a1, a2, a3, a4, a5⟩ | ⟨a1, a2, a3, a4⟩
  · exact Or.inl (nil (h1.d.nil h))
  · rcases p1 T a1 a3 with e | ⟨e1, e2⟩ | ⟨e1, e2⟩
    · exact Or.inl e
    · exact Or.inr (Or.inr (Or.inl ⟨by omega, e1, e2⟩))
    · exact Or.inr (Or.inl ⟨T, by omega, by omega, e2⟩)
  · exact dl_syn (h := h2.syn (h1.o1 a2 a3)) hdue (by omega)
  · have hs := (h1.osyn a3).1
    obtain ⟨b1, b2⟩ := h2.in2 hx1 hs (h1.oin2 a3 a4)
    by_cases c : T ≤ t + 1
    · exact Or.inr (Or.inr (Or.inr (Or.inr (Or.inl ⟨t + 1 + 8, by omega, by omega, h2.syn hs, b2 c, hdue⟩))))
    · exact Or.inr (Or.inr (Or.inr (Or.inl ⟨T, by omega, by omega, h2.syn hs, b1⟩)))
  · have hs := (h1.osyn a3).1
    have ha := h1.oall a3 a4
    rcases p1 T a1 a5 with e | ⟨_, e2⟩ | ⟨e1, e2⟩
    · exact Or.inl e
    · exact Or.inr (Or.inr (Or.inr (Or.inr (Or.inr ⟨by omega, h2.syn hs, h2.allh hs ha, e2⟩))))
    · exact Or.inr (Or.inr (Or.inr (Or.inr (Or.inl ⟨T, by omega, by omega, h2.syn hs, h2.allh hs ha, e2⟩))))
  · exact Or.inl (nil (h1.oend hx hy a2 a3 a4))
/- two links: what holds of them -/
structure Two (C : Ctx α) (nt : Int → Nat → α) (now B : Int) (a b : St α) (F : List (Fr α)) : Prop where
  l : Side C nt now B 0 a b F
  r : Side C nt now B 1 b a F
  w : ∀ f ∈ F, f.f = 0 ∨ f.f = 1
theorem two_new (C : Ctx α) (nt : Int → Nat → α) : Two C nt 0 14 (new 0 1 1) (new 1 0 1) [] := ⟨side_new C nt 0, side_new C nt 1, by simp⟩
variable {now : Int} {a b : St α} {F : List (Fr α)}
theorem Two.mono (h : Two C nt now B a b F) {now2 B2 : Int} (hn : now ≤ now2) (hb : B ≤ B2) : Two C nt now2 B2 a b F := ⟨h.l.mono hn hb, h.r.mono hn hb, h.w⟩
theorem Two.frames (h : Two C nt now B a b F) {G : List (Fr α)} (hG : ∀ f ∈ G, f ∈ F) : Two C nt now B a b G := ⟨h.l.frames (fun f hf _ => hG f hf), h.r.frames (fun f hf _ => hG f hf), fun f hf => h.w f (hG f hf)⟩
theorem Two.lifeA (h : Two C nt now B a b F) : Two C nt now (B + 1) (new 0 1 (a.ep + 1)) b F := ⟨h.l.lifeX h.r.e1, h.r.lifeY 0 1, h.w⟩
theorem Two.lifeB (h : Two C nt now B a b F) : Two C nt now (B + 1) a (new 1 0 (b.ep + 1)) F := ⟨h.l.lifeY 1 0, h.r.lifeX h.l.e1, h.w⟩
variable [DecidableEq α]
theorem Two.sendA (h : Two C nt now B a b F) {k : Nat} (hk : k < 8) : Two C nt now (B + 1) (sendS C a now [nt 0 k]) b F := by
  obtain ⟨e1, e2, e3⟩ := send_keeps C a now [nt 0 k]
  exact ⟨h.l.send hk, (h.r.mono (Int.le_refl _) (by omega)).recv e1 (fun _ => by rw [lev_same e2 e3]; exact Int.le_refl _), h.w⟩
theorem Two.sendB (h : Two C nt now B a b F) {k : Nat} (hk : k < 8) : Two C nt now (B + 1) a (sendS C b now [nt 1 k]) F := by
  obtain ⟨e1, e2, e3⟩ := send_keeps C b now [nt 1 k]
  exact ⟨(h.l.mono (Int.le_refl _) (by omega)).recv e1 (fun _ => by rw [lev_same e2 e3]; exact Int.le_refl _), h.r.send hk, h.w⟩
theorem Two.tickA (h : Two C nt now B a b F) (ht : Ox.tmB now = true) : Two C nt now B (tickS C a now) b (F ++ tickF C a now) := by
  have hS := tick_of h.l ht
  have hw : ∀ f ∈ F ++ tickF C a now, f.f = 0 ∨ f.f = 1 := fun f hf => by
    rcases List.mem_append.1 hf with hf | hf
    · exact h.w f hf
    · exact Or.inl (tick_sent h.l hf).f
  refine ⟨h.l.tick ht, ?_, hw⟩
  have h1 : Side C nt now B 1 b (tickS C a now) F := h.r.recv (by rw [hS]) (fun _ => by rw [hS]; exact Int.le_refl _)
  refine ⟨h1.me, h1.wi, h1.e1, h1.e2, h1.k0, h1.k1, h1.may, h1.nts, h1.due, h1.row, h1.nb, h1.b14, h1.wm, h1.wh, fun f hf hs => ?_⟩
  rcases List.mem_append.1 hf with hf | hf
  · exact h1.fr f hf hs
  · have := (tick_sent h.l hf).f
    omega
theorem Two.tickB (h : Two C nt now B a b F) (ht : Ox.tmB now = true) : Two C nt now B a (tickS C b now) (F ++ tickF C b now) := by
  have hS := tick_of h.r ht
  have hw : ∀ f ∈ F ++ tickF C b now, f.f = 0 ∨ f.f = 1 := fun f hf => by
    rcases List.mem_append.1 hf with hf | hf
    · exact h.w f hf
    · exact Or.inr (tick_sent h.r hf).f
  refine ⟨?_, h.r.tick ht, hw⟩
  have h1 : Side C nt now B 0 a (tickS C b now) F := h.l.recv (by rw [hS]) (fun _ => by rw [hS]; exact Int.le_refl _)
  refine ⟨h1.me, h1.wi, h1.e1, h1.e2, h1.k0, h1.k1, h1.may, h1.nts, h1.due, h1.row, h1.nb, h1.b14, h1.wm, h1.wh, fun f hf hs => ?_⟩
  rcases List.mem_append.1 hf with hf | hf
  · exact h1.fr f hf hs
  · have := (tick_sent h.r hf).f
    omega
theorem Two.takeB (hN : NtOk C nt) (hB : B ≤ 1000000) (h : Two C nt now B a b F) (ht : Ox.tmB now = true) {f : Fr α} (hf : f ∈ F) (hs : f.f = 0) : Two C nt now B a (takeR C b f now).2.2 F := by
  obtain ⟨h1, h2, _⟩ := fair_take hN (Or.inl rfl) hB ht h.l h.r hf hs
  exact ⟨h1, h2, h.w⟩
theorem Two.takeA (hN : NtOk C nt) (hB : B ≤ 1000000) (h : Two C nt now B a b F) (ht : Ox.tmB now = true) {f : Fr α} (hf : f ∈ F) (hs : f.f = 1) : Two C nt now B (takeR C a f now).2.2 b F := by
  obtain ⟨h1, h2, _⟩ := fair_take (s := 1) hN (Or.inr rfl) hB ht h.r h.l hf hs
  exact ⟨h2, h1, h.w⟩
/- a round: both tick, and all frames come through -/
def roundA (C : Ctx α) (a b : St α) (now : Int) : St α × St α := (tickS C a now, dlv C b (tickF C a now) now)
def roundB (C : Ctx α) (a b : St α) (now : Int) : St α × St α := (dlv C a (tickF C b now) now, tickS C b now)
theorem round_all (hN : NtOk C nt) (hB : B ≤ 1000000) {m : Int} (hm : 0 ≤ m) (ht : Ox.tmB (now + 1) = true) (h : Two C nt now B a b []) (ra : Rem (m + 1) now a b) (rb : Rem (m + 1) now b a) :
    Two C nt (now + 1) B (roundB C (roundA C a b (now + 1)).1 (roundA C a b (now + 1)).2 (now + 1)).1 (roundB C (roundA C a b (now + 1)).1 (roundA C a b (now + 1)).2 (now + 1)).2 [] ∧
    Rem m (now + 1) (roundB C (roundA C a b (now + 1)).1 (roundA C a b (now + 1)).2 (now + 1)).1 (roundB C (roundA C a b (now + 1)).1 (roundA C a b (now + 1)).2 (now + 1)).2 ∧
    Rem m (now + 1) (roundB C (roundA C a b (now + 1)).1 (roundA C a b (now + 1)).2 (now + 1)).2 (roundB C (roundA C a b (now + 1)).1 (roundA C a b (now + 1)).2 (now + 1)).1 := by
  have h' := h.mono (now2 := now + 1) (B2 := B) (by omega) (Int.le_refl _)
  have g1 := half hN (Or.inl rfl) hB ht h'.l h'.r
  have g2 := half (s := 1) hN (Or.inr rfl) hB ht g1.sy g1.sx
  exact ⟨⟨g2.sy, g2.sx, by simp⟩, rem_first h'.l g1 g2 hm ra, rem_second h'.r h'.l g1 g2 hm rb⟩
end
end Go.Proofs.Ythfbpilfdfploaa.Lk
namespace Go.Proofs.Ythfbpilfdfploaa
open Go.RowKit
open Lk (St)

def upd {α : Type} (f : Nat → α) (s : Nat) (x : α) : Nat → α := fun t => if t = s then x else f t
theorem upd_same {α : Type} (f : Nat → α) (s : Nat) (x : α) : upd f s x s = x := if_pos rfl
theorem upd_other {α : Type} (f : Nat → α) {s t : Nat} (x : α) (h : t ≠ s) : upd f s x t = f t := if_neg h
theorem two_cases {s : Nat} (h : s < 2) : s = 0 ∨ s = 1 := by omega
/- both links and the frames on their way; v is the row of frames; Z holds of no block but of others than the links', the pair's and that of the frames -/
structure Pl (Z : Nat → Prop) (w0 w : World) (gp : Nat) (g : Nat → Nat) (l : Nat → St Nx) (v : Value) (D : List Mf) : Prop where
  pk : ∀ s, s < 2 → PkAt Z w (g s) (l s)
  ne : g 0 ≠ g 1
  np : ∀ s, s < 2 → g s ≠ gp
  lg : ∀ s, s < 2 → w0.heap.size ≤ g s
  lp : w0.heap.size ≤ gp
  lx : gp < w.heap.size
  fr : Frs Z w
  gr : Gr w0 w
  fx : Fxs Z w w0.heap.size v D
  zp : ¬ Z gp
  rb : ∀ k, v.ownBlock = some k → ¬ Z k ∧ k ≠ gp ∧ ∀ s, s < 2 → g s ≠ k
section
variable {Z Y : Nat → Prop} {w0 w w' : World} {gp : Nat} {g : Nat → Nat} {l : Nat → St Nx} {v : Value} {D : List Mf}
theorem Pl.up (h : Pl Z w0 w gp g l v D) (k : Gr w w') : Pl Z w0 w' gp g l v D :=
  ⟨fun s hs => (h.pk s hs).gr k, h.ne, h.np, h.lg, h.lp, Nat.lt_of_lt_of_le h.lx k.size, h.fr.gr k, h.gr.trans k, h.fx.gr k, h.zp, h.rb⟩
theorem Pl.other (h : Pl Z w0 w gp g l v D) {s t : Nat} (hs : s < 2) (ht : t < 2) (hne : t ≠ s) : g t ≠ g s := by
  have := h.ne
  rcases two_cases hs with rfl | rfl <;> rcases two_cases ht with rfl | rfl <;> first | exact absurd rfl hne | exact this | exact this.symm
theorem Fxs.gbk {base b : Nat} (h : Fxs Z w base v D) (k : GB b w w') (hb : ¬ Z b) (hv : v.ownBlock ≠ some b) : Fxs Z w' base v D :=
  ⟨h.own.kept k.g (Or.inr hv), fun x hx => (h.nt x hx).gb k hb, h.ap⟩
theorem Fxs.turn {base : Nat} (h : Fxs Z w base v D) (hy : ∀ b, b < w.heap.size → Z b → Y b) : Fxs Y w base v D := ⟨h.own, fun x hx => (h.nt x hx).turn hy, h.ap⟩
/- a link turns -/
theorem Pl.step (h : Pl Z w0 w gp g l v D) {s : Nat} (hs : s < 2) {x : St Nx} (hx : PkAt Z w' (g s) x) (k : GB (g s) w w') : Pl Z w0 w' gp g (upd l s x) v D := by
  refine ⟨fun t ht => ?_, h.ne, h.np, h.lg, h.lp, Nat.lt_of_lt_of_le h.lx k.size, h.fr.gb k, h.gr.gb k (h.lg s hs), h.fx.gbk k hx.nz (fun e => (h.rb _ e).2.2 s hs rfl), h.zp, h.rb⟩
  by_cases e : t = s
  · subst e; rw [upd_same]; exact hx
  · rw [upd_other _ _ e]; exact (h.pk t ht).gb k hx.nz (h.other hs ht e)
/- a block turns that is none of theirs, or the pair's own -/
theorem Pl.gbk {b : Nat} (h : Pl Z w0 w gp g l v D) (k : GB b w w') (hb : ¬ Z b) (h1 : ∀ s, s < 2 → g s ≠ b) (h2 : v.ownBlock ≠ some b) (h3 : w0.heap.size ≤ b) : Pl Z w0 w' gp g l v D :=
  ⟨fun s hs => (h.pk s hs).gb k hb (h1 s hs), h.ne, h.np, h.lg, h.lp, Nat.lt_of_lt_of_le h.lx k.size, h.fr.gb k, h.gr.gb k h3, h.fx.gbk k hb h2, h.zp, h.rb⟩
theorem Pl.pair (h : Pl Z w0 w gp g l v D) (k : GB gp w w') : Pl Z w0 w' gp g l v D :=
  h.gbk k h.zp h.np (fun e => (h.rb _ e).2.1 rfl) h.lp
/- of blocks something else is asked -/
theorem Pl.turn (h : Pl Z w0 w gp g l v D) (hy : ∀ b, b < w.heap.size → Z b → Y b) (hg : ∀ s, s < 2 → ¬ Y (g s)) (hp : ¬ Y gp) (hf : Frs Y w) (hv : ∀ k, v.ownBlock = some k → ¬ Y k) : Pl Y w0 w gp g l v D :=
  ⟨fun s hs => (h.pk s hs).turn hy (hg s hs), h.ne, h.np, h.lg, h.lp, h.lx, hf, h.gr, h.fx.turn hy, hp, fun k e => ⟨hv k e, (h.rb k e).2⟩⟩
/- a block that is new is taken off -/
theorem Pl.less {b : Nat} (h : Pl Z w0 w gp g l v D) (hb : w.heap.size ≤ b) (hw : Gr w w') (hl : b < w'.heap.size) : Pl (Bt Z b) w0 w' gp g l v D := by
  have hy : ∀ c, c < w.heap.size → Z c → Bt Z b c := fun c hc hz => ⟨hz, by omega⟩
  exact ⟨fun s hs => ((h.pk s hs).turn hy (fun k => (h.pk s hs).nz k.1)).gr hw, h.ne, h.np, h.lg, h.lp, Nat.lt_of_lt_of_le h.lx hw.size, Bt.frs h.fr hw.size hl, h.gr.trans hw, (h.fx.turn hy).gr hw, fun k => h.zp k.1, fun k e => ⟨fun z => (h.rb k e).1 z.1, (h.rb k e).2⟩⟩
theorem Pl.back {b : Nat} {l2 : Nat → St Nx} {w2 : World} (h : Pl (Bt Z b) w0 w gp g l v D) (hz : Pl Z w0 w2 gp g l2 v D) (hf : Frs Z w) : Pl Z w0 w gp g l v D :=
  h.turn (fun _ _ k => k.1) (fun s hs => (hz.pk s hs).nz) hz.zp hf (fun c e => (hz.rb c e).1)
theorem Pl.lt (h : Pl Z w0 w gp g l v D) {s : Nat} (hs : s < 2) : g s < w.heap.size := (h.pk s hs).lt
end
/- the pair's own cells: links, lives, frames, the time, what was pushed, what was handed out -/
structure PrC (w : World) (gp : Nat) (g : Nat → Nat) (vl : Nat → Int) (v : Value) (now : Int) (P H : Nat → Int) : Prop where
  lt : gp < w.heap.size
  ck : ∀ s, s < 2 → w.cell? ⟨gp, s, none⟩ = some (.pointer (some ⟨g s, 0, none⟩))
  cv : ∀ s, s < 2 → w.cell? ⟨gp, 2 + s, none⟩ = some (.int .i64 (vl s))
  cf : w.cell? ⟨gp, 4, none⟩ = some v
  cn : w.cell? ⟨gp, 5, none⟩ = some (.int .i64 now)
  cp : ∀ j, j < 16 → w.cell? ⟨gp, 6 + j, none⟩ = some (.int .i64 (P j))
  ch : ∀ j, j < 16 → w.cell? ⟨gp, 22 + j, none⟩ = some (.int .i64 (H j))
  fz : ∀ j, j < 38 → w.frozen? ⟨gp, j, none⟩ = false
section
variable {w w' : World} {gp : Nat} {g : Nat → Nat} {vl : Nat → Int} {v : Value} {now : Int} {P H : Nat → Int}
theorem PrC.gr (h : PrC w gp g vl v now P H) (k : Gr w w') : PrC w' gp g vl v now P H :=
  ⟨Nat.lt_of_lt_of_le h.lt k.size, fun s hs => k.keep (h.ck s hs), fun s hs => k.keep (h.cv s hs), k.keep h.cf, k.keep h.cn, fun j hj => k.keep (h.cp j hj), fun j hj => k.keep (h.ch j hj), fun j hj => k.keepF h.lt (h.fz j hj)⟩
theorem PrC.gb {b : Nat} (h : PrC w gp g vl v now P H) (k : GB b w w') (hb : gp ≠ b) : PrC w' gp g vl v now P H :=
  ⟨Nat.lt_of_lt_of_le h.lt k.size, fun s hs => k.keep h.lt hb (h.ck s hs), fun s hs => k.keep h.lt hb (h.cv s hs), k.keep h.lt hb h.cf, k.keep h.lt hb h.cn, fun j hj => k.keep h.lt hb (h.cp j hj), fun j hj => k.keep h.lt hb (h.ch j hj), fun j hj => k.keepF h.lt hb (h.fz j hj)⟩
theorem ne_off {b i j : Nat} (h : i ≠ j) : (⟨b, i, none⟩ : Addr) ≠ ⟨b, j, none⟩ := fun e => h (by cases e; rfl)
theorem far_cell {b i j : Nat} {x u : Value} (h : i ≠ j) (c : w.cell? ⟨b, j, none⟩ = some u) : (w.setCell ⟨b, i, none⟩ x).cell? ⟨b, j, none⟩ = some u := by rw [World.cell?_setCell_other _ _ _ _ (ne_off h)]; exact c
theorem same_cell {p : Addr} {x u : Value} (c : w.cell? p = some u) : (w.setCell p x).cell? p = some x := World.cell?_setCell_same _ _ _ c
theorem PrC.setN (h : PrC w gp g vl v now P H) (n : Int) : PrC (w.setCell ⟨gp, 5, none⟩ (.int .i64 n)) gp g vl v n P H :=
  ⟨by simpa using h.lt, fun s hs => far_cell (by omega) (h.ck s hs), fun s hs => far_cell (by omega) (h.cv s hs), far_cell (by omega) h.cf, same_cell h.cn, fun j hj => far_cell (by omega) (h.cp j hj), fun j hj => far_cell (by omega) (h.ch j hj), fun j hj => by simpa using h.fz j hj⟩
theorem PrC.setF (h : PrC w gp g vl v now P H) (x : Value) : PrC (w.setCell ⟨gp, 4, none⟩ x) gp g vl x now P H :=
  ⟨by simpa using h.lt, fun s hs => far_cell (by omega) (h.ck s hs), fun s hs => far_cell (by omega) (h.cv s hs), same_cell h.cf, far_cell (by omega) h.cn, fun j hj => far_cell (by omega) (h.cp j hj), fun j hj => far_cell (by omega) (h.ch j hj), fun j hj => by simpa using h.fz j hj⟩
theorem PrC.setP (h : PrC w gp g vl v now P H) {k : Nat} (hk : k < 16) (n : Int) : PrC (w.setCell ⟨gp, 6 + k, none⟩ (.int .i64 n)) gp g vl v now (upd P k n) H :=
  ⟨by simpa using h.lt, fun s hs => far_cell (by omega) (h.ck s hs), fun s hs => far_cell (by omega) (h.cv s hs), far_cell (by omega) h.cf, far_cell (by omega) h.cn, fun j hj => by
    by_cases e : j = k
    · subst e; rw [upd_same]; exact same_cell (h.cp j hj)
    · rw [upd_other _ _ e]; exact far_cell (by omega) (h.cp j hj), fun j hj => far_cell (by omega) (h.ch j hj), fun j hj => by simpa using h.fz j hj⟩
theorem PrC.setH (h : PrC w gp g vl v now P H) {k : Nat} (hk : k < 16) (n : Int) : PrC (w.setCell ⟨gp, 22 + k, none⟩ (.int .i64 n)) gp g vl v now P (upd H k n) :=
  ⟨by simpa using h.lt, fun s hs => far_cell (by omega) (h.ck s hs), fun s hs => far_cell (by omega) (h.cv s hs), far_cell (by omega) h.cf, far_cell (by omega) h.cn, fun j hj => far_cell (by omega) (h.cp j hj), fun j hj => by
    by_cases e : j = k
    · subst e; rw [upd_same]; exact same_cell (h.ch j hj)
    · rw [upd_other _ _ e]; exact far_cell (by omega) (h.ch j hj), fun j hj => by simpa using h.fz j hj⟩
theorem PrC.setV (h : PrC w gp g vl v now P H) {k : Nat} (hk : k < 2) (n : Int) : PrC (w.setCell ⟨gp, 2 + k, none⟩ (.int .i64 n)) gp g (upd vl k n) v now P H :=
  ⟨by simpa using h.lt, fun s hs => far_cell (by omega) (h.ck s hs), fun j hj => by
    by_cases e : j = k
    · subst e; rw [upd_same]; exact same_cell (h.cv j hj)
    · rw [upd_other _ _ e]; exact far_cell (by omega) (h.cv j hj), far_cell (by omega) h.cf, far_cell (by omega) h.cn, fun j hj => far_cell (by omega) (h.cp j hj), fun j hj => far_cell (by omega) (h.ch j hj), fun j hj => by simpa using h.fz j hj⟩
theorem PrC.setK (h : PrC w gp g vl v now P H) {k : Nat} (hk : k < 2) (n : Nat) : PrC (w.setCell ⟨gp, k, none⟩ (.pointer (some ⟨n, 0, none⟩))) gp (upd g k n) vl v now P H :=
  ⟨by simpa using h.lt, fun j hj => by
    by_cases e : j = k
    · subst e; rw [upd_same]; exact same_cell (h.ck j hj)
    · rw [upd_other _ _ e]; exact far_cell (by omega) (h.ck j hj), fun s hs => far_cell (by omega) (h.cv s hs), far_cell (by omega) h.cf, far_cell (by omega) h.cn, fun j hj => far_cell (by omega) (h.cp j hj), fun j hj => far_cell (by omega) (h.ch j hj), fun j hj => by simpa using h.fz j hj⟩
end
/- the pair as a whole -/
structure Pa (Z : Nat → Prop) (w0 w : World) (gp : Nat) (g : Nat → Nat) (l : Nat → St Nx) (vl : Nat → Int) (now : Int) (P H : Nat → Int) (ad : Option Addr) (cap : Nat) (D : List Mf) : Prop where
  pl : Pl Z w0 w gp g l (.slice ad D.length cap) D
  pc : PrC w gp g vl (.slice ad D.length cap) now P H
section
variable {Z : Nat → Prop} {w0 w w' : World} {gp : Nat} {g : Nat → Nat} {l : Nat → St Nx} {vl : Nat → Int} {now : Int} {P H : Nat → Int} {ad : Option Addr} {cap : Nat} {D : List Mf}
theorem Pa.up (h : Pa Z w0 w gp g l vl now P H ad cap D) (k : Gr w w') : Pa Z w0 w' gp g l vl now P H ad cap D := ⟨h.pl.up k, h.pc.gr k⟩
theorem Pa.step (h : Pa Z w0 w gp g l vl now P H ad cap D) {s : Nat} (hs : s < 2) {x : St Nx} (hx : PkAt Z w' (g s) x) (k : GB (g s) w w') : Pa Z w0 w' gp g (upd l s x) vl now P H ad cap D := ⟨h.pl.step hs hx k, h.pc.gb k (h.pl.np s hs).symm⟩
theorem Pa.setN (h : Pa Z w0 w gp g l vl now P H ad cap D) (n : Int) : Pa Z w0 (w.setCell ⟨gp, 5, none⟩ (.int .i64 n)) gp g l vl n P H ad cap D := ⟨h.pl.pair (gb_set gp 5 w _), h.pc.setN n⟩
theorem Pa.setP (h : Pa Z w0 w gp g l vl now P H ad cap D) {k : Nat} (hk : k < 16) (n : Int) : Pa Z w0 (w.setCell ⟨gp, 6 + k, none⟩ (.int .i64 n)) gp g l vl now (upd P k n) H ad cap D := ⟨h.pl.pair (gb_set gp _ w _), h.pc.setP hk n⟩
theorem Pa.setH (h : Pa Z w0 w gp g l vl now P H ad cap D) {k : Nat} (hk : k < 16) (n : Int) : Pa Z w0 (w.setCell ⟨gp, 22 + k, none⟩ (.int .i64 n)) gp g l vl now P (upd H k n) ad cap D := ⟨h.pl.pair (gb_set gp _ w _), h.pc.setH hk n⟩
theorem Pa.setV (h : Pa Z w0 w gp g l vl now P H ad cap D) {k : Nat} (hk : k < 2) (n : Int) : Pa Z w0 (w.setCell ⟨gp, 2 + k, none⟩ (.int .i64 n)) gp g l (upd vl k n) now P H ad cap D := ⟨h.pl.pair (gb_set gp _ w _), h.pc.setV hk n⟩
/- Send, Tick and Waits of one of both -/
theorem a_send (h : Pa Z w0 w gp g l vl now P H ad cap D) {s : Nat} (hs : s < 2) (he : (l s).ep ≠ 0) (m : Mn) (t : Int) (gq : Nat) (hm : NtsAt Z w (some ⟨gq, 0, none⟩) [m]) :
    Calls Try.prog 7 #[.pointer (some ⟨g s, 0, none⟩), .int .i64 t, .slice (some ⟨gq, 0, none⟩) 1 1] w fun e w' => e = .returned (.int .i64 (Lk.sendE CX (l s) t [pk m.x])) ∧ Pa Z w0 w' gp g (upd l s (Lk.sendS CX (l s) t [pk m.x])) vl now P H ad cap D ∧ GB (g s) w w' := by
  refine (kSend_any (g s) (l s) t [m] (some ⟨gq, 0, none⟩) 1 _ (h.pl.pk s hs) he h.pl.fr hm (by simp)).mono ?_
  rintro e w' ⟨rfl, h1, h2⟩
  exact ⟨rfl, h.step hs h1 h2, h2⟩
theorem a_tick (h : Pa Z w0 w gp g l vl now P H ad cap D) {s : Nat} (hs : s < 2) (he : (l s).ep ≠ 0) (t : Int) :
    Calls Try.prog 12 #[.pointer (some ⟨g s, 0, none⟩), .int .i64 t] w fun e w' => TkF Z (Lk.tickF CX (l s) t) w e w' ∧ Pa Z w0 w' gp g (upd l s (Lk.tickS CX (l s) t)) vl now P H ad cap D ∧ GB (g s) w w' := by
  refine (kTick_any (g s) (l s) t w (h.pl.pk s hs) he h.pl.fr).mono ?_
  rintro e w' ⟨h0, h1, h2⟩
  exact ⟨h0, h.step hs h1 h2, h2⟩
end
/- what the statements send -/
def ntF (s k : Int) : Nt := ⟨if s = 1 then 5 else 2, 0, 1, [(k, 1)], ⟨#[]⟩, 0⟩
set_option maxHeartbeats 2000000 in
set_option maxRecDepth 100000 in
theorem note_any {Z : Nat → Prop} (s k : Int) (w : World) (hF : Frs Z w) : Calls Try.prog 15 #[.int .i64 s, .int .i64 k] w fun e w' => ∃ p, e = .returned (.agg #[.int .i64 (ntF s k).k, .int .i64 0, .int .i64 1, .slice p 1 1, .string ⟨#[]⟩, .int .i64 0]) ∧ MnAt Z w' ⟨ntF s k, p, 1⟩ ∧ Gr w w' := by
  have HF := Lib.hid hF
  clear hF
  have HM : Hid (∀ w', Gr w w' → w'.cell? ⟨w.heap.size + 1, 0, none⟩ = some (.int .i64 k) → w'.cell? ⟨w.heap.size + 1, 1, none⟩ = some (.int .i64 1) → w.heap.size + 1 < w'.heap.size → MnAt Z w' ⟨ntF s k, some ⟨w.heap.size + 1, 0, none⟩, 1⟩) := by
    intro w' g c0 c1 hl
    refine ⟨?_, by simp [ntF], by simp [ntF], by simp [ntF, ByteArray.size], fun _ a e => HF.out _ (by cases e; simp)⟩
    intro j hj
    have : j = 0 := by have : j < 1 := hj; omega
    subst this
    exact ⟨w.heap.size + 1, 0, rfl, hl, c0, c1⟩
  by_cases e : s = 1
  · subst e
    go_enter Try.func15, Try.ntmps15
    go_wp2
    refine bodyPost_ret (v := .agg #[.int .i64 5, .int .i64 0, .int .i64 1, .slice (some ⟨w.heap.size + 1, 0, none⟩) 1 1, .string ⟨#[]⟩, .int .i64 0]) (by simp [results, Try.results15, go_sem]) rfl ?_
    exact ⟨some ⟨w.heap.size + 1, 0, none⟩, rfl, HM.out _ (by (with_reducible repeat' (first | exact Gr.refl _ | refine Gr.set ?_ _ ?_ _ | refine Gr.alloc ?_ | refine Gr.drew ?_ | refine Gr.trans ?_ (by assumption))) <;> (first | (simp; done) | (simp; omega) | omega)) (by simp [go_sem]) (by simp [go_sem]) (by simp), (by (with_reducible repeat' (first | exact Gr.refl _ | refine Gr.set ?_ _ ?_ _ | refine Gr.alloc ?_ | refine Gr.drew ?_ | refine Gr.trans ?_ (by assumption))) <;> (first | (simp; done) | (simp; omega) | omega))⟩
  · have e2 : (s == 1) = false := by rw [beq_eq_false_iff_ne]; exact e
    have e3 : (ntF s k).k = 2 := by unfold ntF; rw [if_neg e]
    rw [e3]
    clear e3 e
    go_enter Try.func15, Try.ntmps15
    go_wp2
    refine bodyPost_ret (v := .agg #[.int .i64 2, .int .i64 0, .int .i64 1, .slice (some ⟨w.heap.size + 1, 0, none⟩) 1 1, .string ⟨#[]⟩, .int .i64 0]) (by simp [results, Try.results15, go_sem]) rfl ?_
    exact ⟨some ⟨w.heap.size + 1, 0, none⟩, rfl, HM.out _ (by (with_reducible repeat' (first | exact Gr.refl _ | refine Gr.set ?_ _ ?_ _ | refine Gr.alloc ?_ | refine Gr.drew ?_ | refine Gr.trans ?_ (by assumption))) <;> (first | (simp; done) | (simp; omega) | omega)) (by simp [go_sem]) (by simp [go_sem]) (by simp), (by (with_reducible repeat' (first | exact Gr.refl _ | refine Gr.set ?_ _ ?_ _ | refine Gr.alloc ?_ | refine Gr.drew ?_ | refine Gr.trans ?_ (by assumption))) <;> (first | (simp; done) | (simp; omega) | omega))⟩
end Go.Proofs.Ythfbpilfdfploaa
